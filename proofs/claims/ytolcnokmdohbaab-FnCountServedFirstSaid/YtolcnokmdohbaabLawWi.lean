/-
  Words for the walks of the drawn laws on wishes. Condition: the lists lie in memory.
-/
import Derived.Test.YtolcnokmdohbaabWiF
import Derived.Test.YtolcnokmdohbaabWiGen
namespace Go.Proofs.Ytolcnokmdohbaab
open Go.RowKit Wis

theorem wEq_same (A B : Option Addr) (c d : Nat) (Q : List Int) (w : World) (h : Sees w w.heap.size A (ints Q)) (h' : Sees w w.heap.size B (ints Q)) (hn : Q.length ≤ 4194304) :
    Calls Try.prog 11 #[.slice A Q.length c, .slice B Q.length d] w fun e w' => e = .returned (.bool true) ∧ Below w.heap.size w w' := by
  refine (equalInts_any A B c d Q Q w h h' (Nat.le_trans hn (by decide))).mono ?_
  rintro e w' ⟨he, hb⟩
  exact ⟨by rw [he, eqB_iff.2 rfl], hb⟩
theorem wEq_len {A B : Option Addr} {n c d : Nat} {Q : List Int} {w : World} (hl : Q.length = n) (h : Sees w w.heap.size A (ints Q)) (h' : Sees w w.heap.size B (ints Q)) (hn : Q.length ≤ 4194304) :
    Calls Try.prog 11 #[.slice A n c, .slice B n d] w fun e w' => e = .returned (.bool true) ∧ Below w.heap.size w w' := by
  subst hl; exact wEq_same A B c d Q w h h' hn
theorem iLongestWait_len {A : Option Addr} {n c : Nat} {l : List Wi} {m : Int} {w : World} (hl : l.length = n) (h : Sees w w.heap.size A (strip wcells l)) (hn : l.length ≤ 4194304) :
    Calls Try.prog 16 #[.slice A n c, .int .i64 m] w fun e w' => e = .returned (.int .i64 (longest l m)) ∧ Below w.heap.size w w' := by
  subst hl; exact iLongestWait_any A c l m w h hn
theorem iServeTimes_len {A : Option Addr} {n c : Nat} {l : List Wi} {m : Int} {w : World} (hl : l.length = n) (h : Sees w w.heap.size A (strip wcells l)) (hn : l.length ≤ 4194304) :
    Calls Try.prog 10 #[.slice A n c, .int .i64 m] w fun e w' => ∃ v, e = .returned v ∧ Own w' w.heap.size v (serveL l m) ∧ Below w.heap.size w w' := by
  subst hl; exact iServeTimes_any A c l m w h hn
theorem iValidWishes_len {A : Option Addr} {n c : Nat} {l : List Wi} {w : World} (hl : l.length = n) (h : Sees w w.heap.size A (strip wcells l)) (hn : l.length ≤ 4194304) :
    Calls Try.prog 18 #[.slice A n c] w fun e w' => e = .returned (.bool (wishB l)) ∧ Below w.heap.size w w' := by
  subst hl; exact iValidWishes_any A c l w h hn
theorem wcells_take {w : World} {B : Nat} {A : Option Addr} {l : List Wi} (h : Sees w B A (strip wcells l)) (k : Nat) : Sees w B A (strip wcells (l.take k)) := h.stake wcells_len k
theorem last_one {l : List Wi} (h : wishB l = true) {n : Nat} (hn : l.length = n + 1) (hk : n < l.length) (hx : l[n].a ≠ 1000) : ∀ x ∈ l, x.a < 1000 := by
  refine last_most h (by omega) ?_
  have e : l.length - 1 = n := by omega
  simp only [e]
  exact hx
theorem DLs.n4' {w w' : World} {A : Option Addr} {c : Nat} {l : List Wi} (h : DW w w' A c l) : l.length ≤ 4194304 := h.n4 (by decide)
end Go.Proofs.Ytolcnokmdohbaab

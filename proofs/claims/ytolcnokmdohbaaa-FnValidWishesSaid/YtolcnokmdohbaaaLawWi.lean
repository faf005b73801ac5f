/-
  Words for the walks of the drawn laws on wishes. Condition: the lists lie in memory.
-/
import Derived.Test.YtolcnokmdohbaaaWiF
import Derived.Test.YtolcnokmdohbaaaWiGen
namespace Go.Proofs.Ytolcnokmdohbaaa
open Go.RowKit Wis

theorem iLongestWait_len {A : Option Addr} {n c : Nat} {l : List Wi} {m : Int} {w : World} (hl : l.length = n) (h : Sees w w.heap.size A (strip wcells l)) (hn : l.length ≤ 4194304) :
    Calls Try.prog 23 #[.slice A n c, .int .i64 m] w fun e w' => e = .returned (.int .i64 (longest l m)) ∧ Below w.heap.size w w' := by
  subst hl; exact iLongestWait_any A c l m w h hn
theorem iConnsFor_len {A : Option Addr} {n c : Nat} {l : List Wi} {w : World} (hl : l.length = n) (h : Sees w w.heap.size A (strip wcells l)) (hn : l.length ≤ 4194304) :
    Calls Try.prog 25 #[.slice A n c] w fun e w' => e = .returned (.int .i64 (connsFor l)) ∧ Below w.heap.size w w' := by
  subst hl; exact iConnsFor_any A c l w h hn
theorem iServeTimes_len {A : Option Addr} {n c : Nat} {l : List Wi} {m : Int} {w : World} (hl : l.length = n) (h : Sees w w.heap.size A (strip wcells l)) (hn : l.length ≤ 4194304) :
    Calls Try.prog 15 #[.slice A n c, .int .i64 m] w fun e w' => ∃ v, e = .returned v ∧ Own w' w.heap.size v (serveL l m) ∧ Below w.heap.size w w' := by
  subst hl; exact iServeTimes_any A c l m w h hn
theorem iValidWishes_len {A : Option Addr} {n c : Nat} {l : List Wi} {w : World} (hl : l.length = n) (h : Sees w w.heap.size A (strip wcells l)) (hn : l.length ≤ 4194304) :
    Calls Try.prog 12 #[.slice A n c] w fun e w' => e = .returned (.bool (wishB l)) ∧ Below w.heap.size w w' := by
  subst hl; exact iValidWishes_any A c l w h hn
theorem wcells_take {w : World} {B : Nat} {A : Option Addr} {l : List Wi} (h : Sees w B A (strip wcells l)) (k : Nat) : Sees w B A (strip wcells (l.take k)) := h.stake wcells_len k
theorem last_one {l : List Wi} (h : wishB l = true) {n : Nat} (hn : l.length = n + 1) (hk : n < l.length) (hx : l[n].a ≠ 1000) : ∀ x ∈ l, x.a < 1000 := by
  refine last_most h (by omega) ?_
  have e : l.length - 1 = n := by omega
  simp only [e]
  exact hx
theorem DLs.n4' {w w' : World} {A : Option Addr} {c : Nat} {l : List Wi} (h : DW w w' A c l) : l.length ≤ 4194304 := h.n4 (by decide)
end Go.Proofs.Ytolcnokmdohbaaa

/-
  Words for the walks of the drawn laws on a breaker's path. Condition: the lists lie in memory.
-/
import Derived.Test.YtmaocmgnkdieeabBrkQ
import Derived.Test.YtmaocmgnkdieeabBrkR
import Derived.Test.YtmaocmgnkdieeabBrkDrawP
namespace Go.Proofs.Ytmaocmgnkdieeab
open Go.RowKit Brk

/-- A list of numbers that a call made. -/
def OwnZ (w : World) (base : Nat) (A : Option Addr) (c : Nat) (l : List Int) : Prop := Own w base (.slice A l.length c) l
section
variable {w w' : World} {base : Nat} {A : Option Addr} {c : Nat} {l : List Int}
theorem OwnZ.below (h : OwnZ w base A c l) (hb : Below w.heap.size w w') : OwnZ w' base A c l := Own.below h hb
theorem OwnZ.alloc (h : OwnZ w base A c l) (o : Obj) : OwnZ (w.alloc o) base A c l := h.below ((Below.refl _ _).alloc (Nat.le_refl _) o)
theorem OwnZ.drew (h : OwnZ w base A c l) : OwnZ w.drew base A c l := h.below (Below.refl _ _).drew
theorem OwnZ.own (h : OwnZ w base A c l) : Own w base (.slice A l.length c) l := h
theorem OwnZ.sees (h : OwnZ w base A c l) : Sees w w.heap.size A (ints l) := Sees.of_own h.own.out
theorem OwnZ.cap (h : OwnZ w base A c l) : l.length ≤ c := by
  obtain ⟨_, _, e, q, _⟩ := own_form h.own.out
  injection e with _ _ e; omega
theorem sees_ints_take {B : Nat} (h : Sees w B A (ints l)) (k : Nat) : Sees w B A (ints (l.take k)) := by
  have e : ints (l.take k) = (ints l).take k := by simp [ints]
  rw [e]; exact h.take k
theorem sees_boos_take {B : Nat} {l : List Bool} (h : Sees w B A (boos l)) (k : Nat) : Sees w B A (boos (l.take k)) := by
  have e : boos (l.take k) = (boos l).take k := by simp [boos]
  rw [e]; exact h.take k
end
theorem eqB_same (l : List Int) : eqB l l = true := eqB_iff.2 rfl
theorem bEq_same (A B : Option Addr) (c d : Nat) (Q : List Int) (w : World) (h : Sees w w.heap.size A (ints Q)) (h' : Sees w w.heap.size B (ints Q)) (hn : Q.length ≤ 4194304) :
    Calls Try.prog 7 #[.slice A Q.length c, .slice B Q.length d] w fun e w' => e = .returned (.bool true) ∧ Below w.heap.size w w' := by
  refine (equalInts_any A B c d Q Q w h h' (Nat.le_trans hn (by decide))).mono ?_
  rintro e w' ⟨he, hb⟩
  exact ⟨by rw [he, eqB_same], hb⟩
theorem bEq_len {A B : Option Addr} {n m c d : Nat} {P Q : List Int} {w : World} (hl : P.length = n) (hm : Q.length = m) (h : Sees w w.heap.size A (ints P)) (h' : Sees w w.heap.size B (ints Q)) (e : P = Q) (hn : Q.length ≤ 4194304) :
    Calls Try.prog 7 #[.slice A n c, .slice B m d] w fun e w' => e = .returned (.bool true) ∧ Below w.heap.size w w' := by
  subst hl; subst hm; subst e; exact bEq_same A B c d P w h h' hn
theorem iBreakerPath_len {A1 A2 : Option Addr} {c1 c2 n m : Nat} {gs : List Bool} {ts : List Int} {b : Br} {w : World} (hl : gs.length = n) (hm : ts.length = m) (h1 : Sees w w.heap.size A1 (boos gs)) (h2 : Sees w w.heap.size A2 (ints ts)) (n1 : gs.length ≤ 4194304) (n2 : ts.length ≤ 4194304) :
    Calls Try.prog 6 #[.agg #[.int .i64 b.li, .int .i64 b.re, .int .i64 b.st, .int .i64 b.fa, .int .i64 b.si], .slice A1 n c1, .slice A2 m c2] w fun e w' => ∃ v, e = .returned v ∧ Own w' w.heap.size v (path b gs ts) ∧ Below w.heap.size w w' := by
  subst hl; subst hm; exact iBreakerPath_any A1 A2 c1 c2 gs ts b w h1 h2 n1 n2
end Go.Proofs.Ytmaocmgnkdieeab

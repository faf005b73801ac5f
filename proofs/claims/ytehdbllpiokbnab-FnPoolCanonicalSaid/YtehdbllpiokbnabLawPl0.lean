/-
  Words for the walks of the drawn laws on pools. Condition: the lists lie in memory.
-/
import Derived.Test.YtehdbllpiokbnabPlGenD
import Derived.Test.YtehdbllpiokbnabPlF
import Derived.Test.YtehdbllpiokbnabPlN
import Derived.Test.YtehdbllpiokbnabPlW
import Derived.Test.YtehdbllpiokbnabPoolLawMath

namespace Go.Proofs.Ytehdbllpiokbnab
open Go.RowKit Pol
/-- A pool that a call made. -/
def OwnK (w : World) (base : Nat) (A1 A2 A3 : Option Addr) (c1 c2 c3 : Nat) (p : Pl) : Prop := OwnP w base A1 A2 A3 c1 c2 c3 p ∧ p.idle.length ≤ 13 ∧ p.held.length ≤ 13 ∧ p.wait.length ≤ 13
section
variable {w w' w0 : World} {base c1 c2 c3 : Nat} {A1 A2 A3 : Option Addr} {p : Pl}
theorem OwnK.below (h : OwnK w base A1 A2 A3 c1 c2 c3 p) (hb : Below w.heap.size w w') : OwnK w' base A1 A2 A3 c1 c2 c3 p := ⟨h.1.below hb, h.2⟩
theorem OwnK.alloc (h : OwnK w base A1 A2 A3 c1 c2 c3 p) (o : Obj) : OwnK (w.alloc o) base A1 A2 A3 c1 c2 c3 p := ⟨h.1.alloc o, h.2⟩
theorem OwnK.drew (h : OwnK w base A1 A2 A3 c1 c2 c3 p) : OwnK w.drew base A1 A2 A3 c1 c2 c3 p := ⟨h.1.drew, h.2⟩
theorem OwnK.sees (h : OwnK w base A1 A2 A3 c1 c2 c3 p) : SeesP w w.heap.size A1 A2 A3 p := h.1.sees
theorem OwnK.k1 (h : OwnK w base A1 A2 A3 c1 c2 c3 p) : p.idle.length ≤ c1 := h.1.lens.1
theorem OwnK.k2 (h : OwnK w base A1 A2 A3 c1 c2 c3 p) : p.held.length ≤ c2 := h.1.lens.2.1
theorem OwnK.k3 (h : OwnK w base A1 A2 A3 c1 c2 c3 p) : p.wait.length ≤ c3 := h.1.lens.2.2
theorem OwnK.i2 (h : OwnK w base A1 A2 A3 c1 c2 c3 p) : p.idle.length ≤ 2097152 := Nat.le_trans h.2.1 (by decide)
theorem OwnK.h2 (h : OwnK w base A1 A2 A3 c1 c2 c3 p) : p.held.length ≤ 2097152 := Nat.le_trans h.2.2.1 (by decide)
theorem OwnK.w2 (h : OwnK w base A1 A2 A3 c1 c2 c3 p) : p.wait.length ≤ 2097152 := Nat.le_trans h.2.2.2 (by decide)
theorem DQ.ownk (h : DQ w0 w A1 A2 A3 c1 c2 c3 p) : OwnK w w0.heap.size A1 A2 A3 c1 c2 c3 p := ⟨h.1, by have := h.2.2.1; omega, by have := h.2.2.2.1; omega, h.2.2.2.2⟩
theorem DQ.belw (h : DQ w0 w A1 A2 A3 c1 c2 c3 p) : Below w0.heap.size w0 w := h.2.1
end
/-- Nothing that was there has changed. -/
def DB (w w' : World) : Prop := Below w.heap.size w w'
theorem DB.below {w w' w'' : World} (h : DB w w') (hb : Below w'.heap.size w' w'') : DB w w'' := Below.trans h (hb.mono (Below.size h))
theorem DB.alloc {w w' : World} (h : DB w w') (o : Obj) : DB w (w'.alloc o) := h.below ((Below.refl _ _).alloc (Nat.le_refl _) o)
theorem DB.drew {w w' : World} (h : DB w w') : DB w w'.drew := h.below (Below.refl _ _).drew
theorem DB.drewN {w w' : World} (h : DB w w') (n : Nat) : DB w (w'.drewN n) := h.below (below_drewN (Below.refl _ _) n)
theorem DB.bel {w w' : World} (h : DB w w') : Below w.heap.size w w' := h
theorem kEq_same (A B : Option Addr) (c d : Nat) (xs : List Int) (w : World) (h : Sees w w.heap.size A (ints xs)) (h' : Sees w w.heap.size B (ints xs)) (hn : xs.length ≤ 4194304) :
    Calls Try.prog 33 #[.slice A xs.length c, .slice B xs.length d] w fun e w' => e = .returned (.bool true) ∧ Below w.heap.size w w' := by
  have := equalInts_any A B c d xs xs w h h' (Nat.le_trans hn (by decide))
  rwa [eqB_iff.2 rfl] at this
end Go.Proofs.Ytehdbllpiokbnab

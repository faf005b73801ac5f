/-
  The walk of the exact law FnExactBinOf: at every argument it returns true and changes nothing that was there. Conditions: none.
-/
import Derived.Test.YtiiieollemhjmaaWaA
namespace Go.Proofs.Ytiiieollemhjmaa
open Go.RowKit Wt

set_option maxHeartbeats 1000000 in
theorem walkExactBinOf (m : Int) (w : World) :
    Calls Try.prog 3 #[.int .i64 m] w fun e w' => e = .returned (.bool true) ∧ Below w.heap.size w w' := by
  obtain ⟨V, hV⟩ : ∃ V, V = binV m := ⟨_, rfl⟩
  have E : Hid (binV m = V) := hid hV.symm
  clear hV
  go_enter Try.func3, Try.ntmps3
  go_wp2_with fail
  refine (sBinOf_any m _).mono ?_
  rintro e w1 ⟨he, rfl⟩
  rw [E.out] at he
  subst he
  go_wp2_with fail
  refine (iBinOf_any m _).mono ?_
  rintro e w1 ⟨he, rfl⟩
  rw [E.out] at he
  subst he
  go_wp2
  go_ret
  exact ⟨rfl, Below.refl _ _⟩
end Go.Proofs.Ytiiieollemhjmaa

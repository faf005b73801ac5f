/-
  The walk of the exact law FnExactBinTop: at every argument it returns true and changes nothing that was there. Conditions: none.
-/
import Derived.Test.YtiiieollemhjmaaWaA
namespace Go.Proofs.Ytiiieollemhjmaa
open Go.RowKit Wt

set_option maxHeartbeats 1000000 in
theorem walkExactBinTop (m : Int) (w : World) :
    Calls Try.prog 4 #[.int .i64 m] w fun e w' => e = .returned (.bool true) ∧ Below w.heap.size w w' := by
  obtain ⟨V, hV⟩ : ∃ V, V = topV m := ⟨_, rfl⟩
  have E : Hid (topV m = V) := hid hV.symm
  clear hV
  go_enter Try.func4, Try.ntmps4
  go_wp2_with fail
  refine (sBinTop_any m _).mono ?_
  rintro e w1 ⟨he, rfl⟩
  rw [E.out] at he
  subst he
  go_wp2_with fail
  refine (iBinTop_any m _).mono ?_
  rintro e w1 ⟨he, rfl⟩
  rw [E.out] at he
  subst he
  go_wp2
  go_ret
  exact ⟨rfl, Below.refl _ _⟩
end Go.Proofs.Ytiiieollemhjmaa

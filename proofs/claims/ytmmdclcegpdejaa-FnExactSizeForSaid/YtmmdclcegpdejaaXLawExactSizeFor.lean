/-
  The walk of the exact law FnExactSizeFor: at every argument it returns true and changes nothing that was there. Conditions: none.
-/
import Derived.Test.YtmmdclcegpdejaaSzA
namespace Go.Proofs.Ytmmdclcegpdejaa
open Go.RowKit

set_option maxHeartbeats 1000000 in
theorem walkExactSizeFor (m s : Int) (w : World) :
    Calls Try.prog 6 #[.int .i64 m, .int .i64 s] w fun e w' => e = .returned (.bool true) ∧ Below w.heap.size w w' := by
  obtain ⟨V, hV⟩ : ∃ V, V = sizeFor m s := ⟨_, rfl⟩
  have E : Hid (sizeFor m s = V) := hid hV.symm
  clear hV
  go_enter Try.func6, Try.ntmps6
  go_wp2_with fail
  refine (sSizeFor_any m s _).mono ?_
  rintro e w1 ⟨he, rfl⟩
  rw [E.out] at he
  subst he
  go_wp2_with fail
  refine (iSizeFor_any m s _).mono ?_
  rintro e w1 ⟨he, rfl⟩
  rw [E.out] at he
  subst he
  go_wp2
  go_ret
  exact ⟨rfl, Below.refl _ _⟩
end Go.Proofs.Ytmmdclcegpdejaa

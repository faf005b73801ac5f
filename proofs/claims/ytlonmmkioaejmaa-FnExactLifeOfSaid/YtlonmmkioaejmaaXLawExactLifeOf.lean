/-
  The walk of the exact law FnExactLifeOf: at every argument it returns true and changes nothing that was there. Conditions: none.
-/
import Derived.Test.YtlonmmkioaejmaaAgB
namespace Go.Proofs.Ytlonmmkioaejmaa
open Go.RowKit Age

set_option maxHeartbeats 1000000 in
theorem walkExactLifeOf (c life : Int) (w : World) :
    Calls Try.prog 4 #[.int .i64 c, .int .i64 life] w fun e w' => e = .returned (.bool true) ∧ Below w.heap.size w w' := by
  obtain ⟨V, hV⟩ : ∃ V, V = Age.lifeOf c life := ⟨_, rfl⟩
  have E : Hid (Age.lifeOf c life = V) := hid hV.symm
  clear hV
  go_enter Try.func4, Try.ntmps4
  go_wp2_with fail
  refine (sLifeOf_any c life _).mono ?_
  rintro e w1 ⟨he, rfl⟩
  rw [E.out] at he
  subst he
  go_wp2_with fail
  refine (iLifeOf_any c life _).mono ?_
  rintro e w1 ⟨he, rfl⟩
  rw [E.out] at he
  subst he
  go_wp2
  go_ret
  exact ⟨rfl, Below.refl _ _⟩
end Go.Proofs.Ytlonmmkioaejmaa

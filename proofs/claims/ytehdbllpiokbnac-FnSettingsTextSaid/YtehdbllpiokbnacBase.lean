/-
  What the small functions on lists of numbers answer. Condition: the lists lie in memory and are at most 2^62 long.
-/
import Derived.Test.YtehdbllpiokbnacOwn
import Derived.Test.YtehdbllpiokbnacLineMath
import Derived.Test.YtehdbllpiokbnacProg
import Derived.Outline
import Derived.Deep.QuietTactic
import Derived.BigQuiet
namespace Go.Proofs.Ytehdbllpiokbnac
open Go.RowKit

set_option maxHeartbeats 400000 in
theorem inRange_any (x lo hi : Int) (w : World) :
    Calls Try.prog 29 #[.int .i64 x, .int .i64 lo, .int .i64 hi] w fun e w' => e = .returned (.bool (inB x lo hi)) ∧ w = w' := by
  by_cases h1 : lo ≤ x
  · by_cases h2 : x ≤ hi
    · go_enter Try.func29, Try.ntmps29
      go_wp2
      go_ret
      exact ⟨ret_bool (by simp [inB, h1, h2]), rfl⟩
    · go_enter Try.func29, Try.ntmps29
      go_wp2
      go_ret
      exact ⟨ret_bool (by simp [inB, h2]), rfl⟩
  · go_enter Try.func29, Try.ntmps29
    go_wp2
    go_ret
    exact ⟨ret_bool (Eq.symm (Bool.eq_false_iff.2 fun e => by have := inB_iff.1 e; omega)), rfl⟩

end Go.Proofs.Ytehdbllpiokbnac

/-
  What the model's functions on results of checks answer. Condition: the list lies in memory.
-/
import Derived.Test.YtfophplmdljhbaaChkB
import Derived.BigQuiet
import Derived.Deep.QuietTactic
namespace Go.Proofs.Ytfophplmdljhbaa
open Go.RowKit Chk

set_option maxHeartbeats 400000 in
theorem stoInt_any (x : Bool) (w : World) :
    Calls Try.prog 19 #[.bool x] w fun e w' => e = .returned (.int .i64 (bit x)) ∧ w = w' := by
  cases x
  · go_enter Try.func19, Try.ntmps19
    go_wp2
    go_ret
    exact ⟨rfl, rfl⟩
  · go_enter Try.func19, Try.ntmps19
    go_wp2
    go_ret
    exact ⟨rfl, rfl⟩

end Go.Proofs.Ytfophplmdljhbaa

/-
  What the model's functions on results of checks answer. Condition: the list lies in memory.
-/
import Derived.Test.YtgliijkpjncfnabChkB
import Derived.BigQuiet
import Derived.Deep.QuietTactic
namespace Go.Proofs.Ytgliijkpjncfnab
open Go.RowKit Chk

set_option maxHeartbeats 400000 in
theorem stoInt_any (x : Bool) (w : World) :
    Calls Try.prog 45 #[.bool x] w fun e w' => e = .returned (.int .i64 (bit x)) ∧ w = w' := by
  cases x
  · go_enter Try.func45, Try.ntmps45
    go_wp2
    go_ret
    exact ⟨rfl, rfl⟩
  · go_enter Try.func45, Try.ntmps45
    go_wp2
    go_ret
    exact ⟨rfl, rfl⟩

end Go.Proofs.Ytgliijkpjncfnab

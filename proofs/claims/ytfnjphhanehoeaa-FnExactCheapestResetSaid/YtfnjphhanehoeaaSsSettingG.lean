/-
  Setting in lists: sizes from any bound on, markings from any count on that are not read again. Condition: the list lies in memory and is at most 2^22 long.
-/
import Derived.Test.YtfnjphhanehoeaaSsSetting
namespace Go.Proofs.Ytfnjphhanehoeaa
open Go.RowKit Stt

set_option maxHeartbeats 400000 in
theorem szSettingS_g (A : Option Addr) (n c left : Nat) (w : World) (hn : n ≤ maxLen) (hl : left ≤ 1048576) :
    Calls Try.prog 7 #[.slice A n c, .int .i64 left] w fun e w' => e = .returned (.int .i64 (if left < n then -1 else (left : Int) - n)) ∧ w = w' := by
  unfold maxLen at hn
  have hw : IntKind.i64.wrap ((left : Int) - (n : Int)) = (left : Int) - (n : Int) := by rw [IntKind.wrap_i64]; omega
  by_cases h : left < n
  · have h1 : (left : Int) - (n : Int) < 0 := by omega
    rw [if_pos h]
    go_enter Try.func7, Try.ntmps7
    go_wp2
    go_ret
    exact ⟨rfl, rfl⟩
  · have h1 : ¬ (left : Int) - (n : Int) < 0 := by omega
    rw [if_neg h]
    go_enter Try.func7, Try.ntmps7
    go_wp2
    go_ret
    exact ⟨rfl, rfl⟩

end Go.Proofs.Ytfnjphhanehoeaa

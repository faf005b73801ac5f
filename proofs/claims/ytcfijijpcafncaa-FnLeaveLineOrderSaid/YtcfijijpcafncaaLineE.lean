/-
  What PlaceInLine answers, the program's and the model's. Condition: the list lies in memory and is at most 2^22 long.
-/
import Derived.Test.YtcfijijpcafncaaLineD
import Derived.Test.YtcfijijpcafncaaLineMathB
namespace Go.Proofs.Ytcfijijpcafncaa
open Go.RowKit

theorem waitV_len (s n : Int) (g : List Int) : (Line.waitV s n g).length ≤ 12 := by
  rcases hok : Line.okB s n g with _ | _
  · rw [Line.waitV_no hok]; simp
  · rw [Line.waitV_yes hok]; exact Line.waits_len (Line.okB_iff.1 hok).2.2.2.2.1

set_option maxHeartbeats 400000 in
theorem iPlaceInLine_any (A : Option Addr) (c : Nat) (s n t : Int) (g : List Int) (w : World) (h : Sees w w.heap.size A (ints g)) (hn : g.length ≤ 4194304) :
    Calls Try.prog 36 #[.agg #[.int .i64 s, .int .i64 n, .slice A g.length c], .int .i64 t] w fun e w' => e = .returned (.int .i64 (Line.placeV s n g t)) ∧ Below w.heap.size w w' := by
  have HN := hid hn; clear hn
  have HW := hid (waitV_len s n g)
  have hp := (h.alloc (Nat.le_refl _) (.cells #[.int .i64 s, .int .i64 n, .slice A g.length c] 25))
  go_enter Try.func36, Try.ntmps36
  go_wp2_with fail
  refine (iWaitingTickets_any _ _ _ _ _ _ (hp.more (by simp)) HN.out).mono ?_
  rintro e w1 ⟨v1, rfl, ho1, hb1⟩
  obtain ⟨A1, c1, rfl, hs1⟩ := ho1.form
  go_wp2_with (go_at_call 35; refine (placeOf_any _ _ _ _ _ hs1 (by have := HW.out; omega)).mono ?_; rintro e w' ⟨rfl, rfl⟩)
  go_ret
  exact ⟨rfl, ((Below.refl _ _).alloc (Nat.le_refl _) _).trans (hb1.mono (by simp))⟩

end Go.Proofs.Ytcfijijpcafncaa

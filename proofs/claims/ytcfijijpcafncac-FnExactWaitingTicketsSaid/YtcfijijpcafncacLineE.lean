/-
  What PlaceInLine answers, the program's and the model's. Condition: the list lies in memory and is at most 2^22 long.
-/
import Derived.Test.YtcfijijpcafncacLineD
import Derived.Test.YtcfijijpcafncacLineMathB
namespace Go.Proofs.Ytcfijijpcafncac
open Go.RowKit

theorem waitV_len (s n : Int) (g : List Int) : (Line.waitV s n g).length ≤ 12 := by
  rcases hok : Line.okB s n g with _ | _
  · rw [Line.waitV_no hok]; simp
  · rw [Line.waitV_yes hok]; exact Line.waits_len (Line.okB_iff.1 hok).2.2.2.2.1

set_option maxHeartbeats 400000 in
theorem iPlaceInLine_any (A : Option Addr) (c : Nat) (s n t : Int) (g : List Int) (w : World) (h : Sees w w.heap.size A (ints g)) (hn : g.length ≤ 4194304) :
    Calls Try.prog 28 #[.agg #[.int .i64 s, .int .i64 n, .slice A g.length c], .int .i64 t] w fun e w' => e = .returned (.int .i64 (Line.placeV s n g t)) ∧ Below w.heap.size w w' := by
  have HN := hid hn; clear hn
  have HW := hid (waitV_len s n g)
  have hp := (h.alloc (Nat.le_refl _) (.cells #[.int .i64 s, .int .i64 n, .slice A g.length c] 27))
  go_enter Try.func28, Try.ntmps28
  go_wp2_with fail
  refine (iWaitingTickets_any _ _ _ _ _ _ (hp.more (by simp)) HN.out).mono ?_
  rintro e w1 ⟨v1, rfl, ho1, hb1⟩
  obtain ⟨A1, c1, rfl, hs1⟩ := ho1.form
  go_wp2_with (go_at_call 36; refine (placeOf_any _ _ _ _ _ hs1 (by have := HW.out; omega)).mono ?_; rintro e w' ⟨rfl, rfl⟩)
  go_ret
  exact ⟨rfl, ((Below.refl _ _).alloc (Nat.le_refl _) _).trans (hb1.mono (by simp))⟩

set_option maxHeartbeats 1000000 in
theorem sPlaceInLine_any (A : Option Addr) (c : Nat) (s n t : Int) (g : List Int) (w : World) (h : Sees w w.heap.size A (ints g)) (hn : g.length ≤ 4194304) :
    Calls Try.prog 27 #[.agg #[.int .i64 s, .int .i64 n, .slice A g.length c], .int .i64 t] w fun e w' => e = .returned (.int .i64 (Line.placeV s n g t)) ∧ Below w.heap.size w w' := by
  have HN := hid hn; clear hn
  have hp := (h.alloc (Nat.le_refl _) (.cells #[.int .i64 s, .int .i64 n, .slice A g.length c] 27))
  rcases hok : Line.okB s n g with _ | _
  · have e : Line.placeV s n g t = -1 := by unfold Line.placeV; rw [Line.waitV_no hok]; exact Line.place_no (by simp)
    rw [e]
    go_enter Try.func27, Try.ntmps27
    go_wp2_with (go_at_call 30; refine (svalidLine_any _ _ _ _ _ _ (hp.more (by simp)) HN.out).mono ?_; rintro e w1 ⟨rfl, hb1⟩)
    go_ret
    exact ⟨rfl, ((Below.refl _ _).alloc (Nat.le_refl _) _).trans (hb1.mono (by simp))⟩
  · unfold Line.placeV
    rw [Line.waitV_yes hok]
    have HW := hid (Line.waits_len (s := s) (n := n) (g := g) (Line.okB_iff.1 hok).2.2.2.2.1)
    rcases hm : memB (Line.waits s n g) t with _ | _
    · have e : Line.place (Line.waits s n g) t = -1 := Line.place_no fun hh => by rw [memB_iff.2 hh] at hm; cases hm
      rw [e]
      go_enter Try.func27, Try.ntmps27
      go_wp2_with fail
      refine (svalidLine_any _ _ _ _ _ _ (hp.more (by simp)) HN.out).mono ?_
      rintro e w1 ⟨rfl, hb1⟩
      obtain ⟨hc1, hf1⟩ := below_cell hb1
      go_wp2_with fail
      refine (waiting_any _ _ _ _ _ _ (((hp.more (by simp)).below hb1).more hb1.size) hok).mono ?_
      rintro e w2 ⟨v2, rfl, ho2, hb2⟩
      obtain ⟨A2, c2, rfl, hs2⟩ := ho2.form
      go_wp2_with (go_at_call 37; refine (sisIn_any _ _ _ _ _ hs2 (by have := HW.out; omega)).mono ?_; rintro e w' ⟨rfl, rfl⟩)
      go_ret
      have hz := hb1.size
      simp at hz
      exact ⟨rfl, ((Below.refl _ _).alloc (Nat.le_refl _) _).trans ((hb1.mono (by simp)).trans (hb2.mono (by omega)))⟩
    · have HM := hid (memB_iff.1 hm)
      go_enter Try.func27, Try.ntmps27
      go_wp2_with fail
      refine (svalidLine_any _ _ _ _ _ _ (hp.more (by simp)) HN.out).mono ?_
      rintro e w1 ⟨rfl, hb1⟩
      obtain ⟨hc1, hf1⟩ := below_cell hb1
      have hz := hb1.size
      simp at hz
      go_wp2_with fail
      refine (waiting_any _ _ _ _ _ _ (((hp.more (by simp)).below hb1).more hb1.size) hok).mono ?_
      rintro e w2 ⟨v2, rfl, ho2, hb2⟩
      obtain ⟨A2, c2, rfl, hs2⟩ := ho2.form
      have hb12 : Below (w.heap.size + 1) (w.alloc (.cells #[.int .i64 s, .int .i64 n, .slice A g.length c] 27)) w2 := (hb1.mono (by simp)).trans (hb2.mono (by omega))
      clear hc1 hf1
      obtain ⟨hc1, hf1⟩ := below_cell hb12
      have hz2 := hb12.size
      simp at hz2
      go_wp2_with (first | (go_at_call 37; refine (sisIn_any _ _ _ _ _ hs2 (by have := HW.out; omega)).mono ?_; rintro e w' ⟨rfl, rfl⟩) | (go_at_call 35; refine (waiting_any _ _ _ _ _ _ ((hp.on hb12 (by omega)).more (by omega)) hok).mono ?_; rintro e w3 ⟨v3, rfl, ho3, hb3⟩))
      obtain ⟨A3, c3, rfl, hs3⟩ := ho3.form
      go_loop [5] (fun i => ∃ k : Nat, k ≤ 12 ∧ i = .int .i64 k ∧ ∀ x ∈ (Line.waits s n g).take k, x < t) (fun i => 13 - (intOf i).toNat)
      case atStart => exact ⟨0, by omega, rfl, by simp⟩
      case round =>
        obtain ⟨k, hk, rfl, hall⟩ := hrel
        have HA := hid hall; clear hall
        have hlt := Line.room_of_mem HM.out HA.out
        have hwl := HW.out
        obtain ⟨b, o, rfl, _, hc⟩ := hs3.int hlt
        by_cases hx : (Line.waits s n g)[k] < t
        · go_wp2
          go_round
          case rel =>
            refine ⟨k + 1, by omega, by go_num, ?_⟩
            exact all_take_succ hlt HA.out hx
          case measure => simp [intOf]; omega
        · go_wp2
          go_ret
          refine ⟨ret_int ?_, ((Below.refl _ _).alloc (Nat.le_refl _) _).trans ((hb12.mono (by omega)).trans (hb3.mono (by omega)))⟩
          exact (Line.place_asc (Line.asc_waits s n g) HM.out hlt HA.out (by omega)).symm

end Go.Proofs.Ytcfijijpcafncac

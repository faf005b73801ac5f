/-
  What WaitingTickets answers, the program's and the model's. Condition: the list lies in memory and is at most 2^22 long.
-/
import Derived.Test.YtcfijijpcafncacLineC
namespace Go.Proofs.Ytcfijijpcafncac
open Go.RowKit

set_option maxHeartbeats 1000000 in
theorem sWaitingTickets_any (A : Option Addr) (c : Nat) (s n : Int) (g : List Int) (w : World) (h : Sees w w.heap.size A (ints g)) (hn : g.length ≤ 4194304) :
    Calls Try.prog 18 #[.agg #[.int .i64 s, .int .i64 n, .slice A g.length c]] w fun e w' => ∃ v, e = .returned v ∧ Own w' w.heap.size v (Line.waitV s n g) ∧ Below w.heap.size w w' := by
  have HN := hid hn; clear hn
  have hp := (h.alloc (Nat.le_refl _) (.cells #[.int .i64 s, .int .i64 n, .slice A g.length c] 27))
  rcases hok : Line.okB s n g with _ | _
  · rw [Line.waitV_no hok]
    go_enter Try.func18, Try.ntmps18
    go_wp2_with (go_at_call 30; refine (svalidLine_any _ _ _ _ _ _ (hp.more (by simp)) HN.out).mono ?_; rintro e w1 ⟨rfl, hb1⟩)
    go_ret
    exact ⟨_, rfl, Own.none_ _ _, ((Below.refl _ _).alloc (Nat.le_refl _) _).trans (hb1.mono (by simp))⟩
  · rw [Line.waitV_yes hok]
    go_enter Try.func18, Try.ntmps18
    go_wp2_with (first | (go_at_call 30; refine (svalidLine_any _ _ _ _ _ _ (hp.more (by simp)) HN.out).mono ?_; rintro e w1 ⟨rfl, hb1⟩; obtain ⟨hc1, hf1⟩ := below_cell hb1) | (go_at_call 35; refine (waiting_any _ _ _ _ _ _ (((hp.more (by simp)).below hb1).more hb1.size) hok).mono ?_; rintro e w2 ⟨v2, rfl, ho2, hb2⟩))
    go_ret
    have hz := hb1.size
    simp at hz
    exact ⟨_, rfl, ho2.mono (by omega), ((Below.refl _ _).alloc (Nat.le_refl _) _).trans ((hb1.mono (by simp)).trans (hb2.mono (by omega)))⟩

set_option maxHeartbeats 1000000 in
theorem iWaitingTickets_any (A : Option Addr) (c : Nat) (s n : Int) (g : List Int) (w : World) (h : Sees w w.heap.size A (ints g)) (hn : g.length ≤ 4194304) :
    Calls Try.prog 19 #[.agg #[.int .i64 s, .int .i64 n, .slice A g.length c]] w fun e w' => ∃ v, e = .returned v ∧ Own w' w.heap.size v (Line.waitV s n g) ∧ Below w.heap.size w w' := by
  have HN := hid hn; clear hn
  have hp := (h.alloc (Nat.le_refl _) (.cells #[.int .i64 s, .int .i64 n, .slice A g.length c] 27))
  rcases hok : Line.okB s n g with _ | _
  · rw [Line.waitV_no hok]
    go_enter Try.func19, Try.ntmps19
    go_wp2_with (go_at_call 12; refine (iValidLine_any _ _ _ _ _ _ (hp.more (by simp)) (Nat.le_trans HN.out (by decide))).mono ?_; rintro e w1 ⟨rfl, hb1⟩)
    go_ret
    exact ⟨_, rfl, Own.none_ _ _, ((Below.refl _ _).alloc (Nat.le_refl _) _).trans (hb1.mono (by simp))⟩
  · rw [Line.waitV_yes hok]
    obtain ⟨i0, hi0, hz0, hz1, hz2⟩ := info_parts intInfo
    have HG := hid (Line.gone_len hok)
    obtain ⟨a1, a2, a3, a4, a5, _, _⟩ := Line.okB_iff.1 hok
    go_enter Try.func19, Try.ntmps19
    go_wp2_with (go_at_call 12; refine (iValidLine_any _ _ _ _ _ _ (hp.more (by simp)) (Nat.le_trans HN.out (by decide))).mono ?_; rintro e w1 ⟨rfl, hb1⟩; obtain ⟨hc1, hf1⟩ := below_cell hb1)
    go_loopw [3, 4] (fun v i wr => ∃ k : Nat, s + k ≤ n ∧ i = .int .i64 (s + k) ∧ Own wr (w.heap.size + 1) v (Line.waits s (s + k) g) ∧ Below (w.heap.size + 1) (w.alloc (.cells #[.int .i64 s, .int .i64 n, .slice A g.length c] 27)) wr) (fun _ i _ => (n - intOf i).toNat)
    case atStart =>
      refine ⟨0, by omega, by simp, ?_, by simpa using hb1⟩
      rw [Line.waits_none (by omega)]
      exact Own.none_ _ _
    case round =>
      obtain ⟨k, hk, rfl, ho, hb⟩ := hrel
      have hz := hb.size
      simp at hz
      clear hc1 hf1
      obtain ⟨hc1, hf1⟩ := below_cell hb
      have hs : Sees wr w.heap.size A (ints g) := ((h.alloc (Nat.le_refl _) _).on hb (by omega))
      by_cases hlt : s + (k : Int) < n
      · by_cases hm : s + (k : Int) ∈ g
        · have hpl := Line.place_lt hm
          obtain ⟨hp0, _⟩ := hpl
          have HM := hid hm; clear hm
          go_wp2_with (go_at_call 36; refine (placeOf_any _ _ _ _ _ hs (by have := HG.out; omega)).mono ?_; rintro e w' ⟨rfl, rfl⟩)
          go_roundw
          case rel =>
            refine ⟨k + 1, by omega, by simp; omega, ?_, hb⟩
            rw [show s + ((k + 1 : Nat) : Int) = s + k + 1 by omega, Line.waits_succ (by omega), if_pos HM.out, List.append_nil]
            exact ho
          case measure => simp [intOf]; omega
        · have hpl := Line.place_no hm
          have HM := hid hm; clear hm
          have HL := hid (Line.waits_len (s := s) (n := s + k) (g := g) (by omega))
          go_wp2_with (first | (go_at_call 36; refine (placeOf_any _ _ _ _ _ hs (by have := HG.out; omega)).mono ?_; rintro e w' ⟨rfl, rfl⟩) | (at_builtin; refine wpList_append_own _ rfl _ _ 22 rfl (w.heap.size + 1) 3 i0 (.int .i64 0) 1 8 Try.underlying22 hi0 hz0 hz1 hz2 rfl (by decide) _ _ _ rfl (ho.out.alloc _) ⟨wr.heap.size, 0, none⟩ 1 1 [.int .i64 (s + k)] rfl rfl (cell_one_new _ _ _) ?c2 ?c3 ?c4 ?c5 ?_))
          case c2 => simp [Value.oneCell']
          case c3 => have := HL.out; unfold maxLen; omega
          case c4 => have := HL.out; omega
          case c5 => simp; omega
          case _ =>
            intro v1 w2 h1 hg1 _
            obtain ⟨ho1, hb2⟩ := ho.snoc hb (by simp) h1 hg1
            clear h1 hg1 hc1 hf1
            go_wp2
            go_roundw
            case rel =>
              refine ⟨k + 1, by omega, by simp; omega, ?_, hb2⟩
              rw [show s + ((k + 1 : Nat) : Int) = s + k + 1 by omega, Line.waits_succ (by omega), if_neg HM.out]
              exact ho1
            case measure => simp [intOf]; omega
      · go_wp2
        go_ret
        refine ⟨_, rfl, ?_, ((Below.refl _ _).alloc (Nat.le_refl _) _).trans (hb.mono (by omega))⟩
        rw [show n = s + k by omega]
        exact ho.mono (by omega)

end Go.Proofs.Ytcfijijpcafncac

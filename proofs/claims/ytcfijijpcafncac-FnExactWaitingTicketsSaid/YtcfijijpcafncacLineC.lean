/-
  What the model's waiting answers. Condition: the line is valid and its list lies in memory.
-/
import Derived.Test.YtcfijijpcafncacLineB
namespace Go.Proofs.Ytcfijijpcafncac
open Go.RowKit

set_option maxHeartbeats 1000000 in
theorem waiting_any (A : Option Addr) (c : Nat) (s n : Int) (g : List Int) (w : World) (h : Sees w w.heap.size A (ints g)) (hok : Line.okB s n g = true) :
    Calls Try.prog 35 #[.agg #[.int .i64 s, .int .i64 n, .slice A g.length c]] w fun e w' => ∃ v, e = .returned v ∧ Own w' w.heap.size v (Line.waits s n g) ∧ Below w.heap.size w w' := by
  obtain ⟨i0, hi0, hz0, hz1, hz2⟩ := info_parts intInfo
  have HG := hid (Line.gone_len hok)
  obtain ⟨a1, a2, a3, a4, a5, _, _⟩ := Line.okB_iff.1 hok
  have HK := hid hok; clear hok
  go_enter Try.func35, Try.ntmps35
  go_wp2
  go_loopw [3, 4] (fun v i wr => ∃ k : Nat, s + k ≤ n ∧ i = .int .i64 (s + k) ∧ Own wr (w.heap.size + 1) v (Line.waits s (s + k) g) ∧ Below (w.heap.size + 1) (w.alloc (.cells #[.int .i64 s, .int .i64 n, .slice A g.length c] 27)) wr) (fun _ i _ => (n - intOf i).toNat)
  case atStart =>
    refine ⟨0, by omega, by simp, ?_, (Below.refl _ _).alloc (by simp) _⟩
    rw [Line.waits_none (by omega)]
    have := Own.made (w.alloc (.cells #[.int .i64 s, .int .i64 n, .slice A g.length c] 27)) (w.heap.size + 1) (by simp)
    simpa using this
  case round =>
    obtain ⟨k, hk, rfl, ho, hb⟩ := hrel
    have hz := hb.size
    simp at hz
    obtain ⟨hc1, hf1⟩ := below_cell hb
    have hs : Sees wr w.heap.size A (ints g) := ((h.alloc (Nat.le_refl _) _).on hb (by omega))
    by_cases hlt : s + (k : Int) < n
    · rcases hx : memB g (s + k) with _ | _
      · have hm : s + (k : Int) ∉ g := fun e => by rw [memB_iff.2 e] at hx; cases hx
        have HM := hid hm; clear hm
        have HL := hid (Line.waits_len (s := s) (n := s + k) (g := g) (by omega))
        go_wp2_with (first | (go_at_call 37; refine (sisIn_any _ _ _ _ _ hs (by have := HG.out; omega)).mono ?_; rintro e w' ⟨rfl, rfl⟩) | (at_builtin; refine wpList_append_own _ rfl _ _ 22 rfl (w.heap.size + 1) 3 i0 (.int .i64 0) 1 8 Try.underlying22 hi0 hz0 hz1 hz2 rfl (by decide) _ _ _ rfl (ho.out.alloc _) ⟨wr.heap.size, 0, none⟩ 1 1 [.int .i64 (s + k)] rfl rfl (cell_one_new _ _ _) ?c2 ?c3 ?c4 ?c5 ?_))
        case c2 => simp [Value.oneCell']
        case c3 => have := HL.out; unfold maxLen; omega
        case c4 => have := HL.out; omega
        case c5 => simp; omega
        case _ =>
          intro v1 w1 h1 hg1 _
          obtain ⟨ho1, hb1⟩ := ho.snoc hb (by simp) h1 hg1
          clear h1 hg1 hc1 hf1
          go_wp2
          go_roundw
          case rel =>
            refine ⟨k + 1, by omega, by simp; omega, ?_, hb1⟩
            rw [show s + ((k + 1 : Nat) : Int) = s + k + 1 by omega, Line.waits_succ (by omega), if_neg HM.out]
            exact ho1
          case measure => simp [intOf]; omega
      · have hm : s + (k : Int) ∈ g := memB_iff.1 hx
        have HM := hid hm; clear hm
        go_wp2_with (go_at_call 37; refine (sisIn_any _ _ _ _ _ hs (by have := HG.out; omega)).mono ?_; rintro e w' ⟨rfl, rfl⟩)
        go_roundw
        case rel =>
          refine ⟨k + 1, by omega, by simp; omega, ?_, hb⟩
          rw [show s + ((k + 1 : Nat) : Int) = s + k + 1 by omega, Line.waits_succ (by omega), if_pos HM.out, List.append_nil]
          exact ho
        case measure => simp [intOf]; omega
    · go_wp2
      go_ret
      refine ⟨_, rfl, ?_, ((Below.refl _ _).alloc (Nat.le_refl _) _).trans (hb.mono (by omega))⟩
      rw [show n = s + k by omega]
      exact ho.mono (by omega)
end Go.Proofs.Ytcfijijpcafncac

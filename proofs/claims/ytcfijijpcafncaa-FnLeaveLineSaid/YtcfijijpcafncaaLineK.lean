/-
  What 'without' of the laws answers: the list without a number, as a list of the call's own. Condition: the list lies in memory and is at most 2^22 long.
-/
import Derived.Test.YtcfijijpcafncaaListA
namespace Go.Proofs.Ytcfijijpcafncaa
open Go.RowKit

theorem without_len (xs : List Int) (x : Int) : (xs.filter fun y => !(y == x)).length ≤ xs.length := List.length_filter_le _ _

set_option maxHeartbeats 1000000 in
theorem without_any (A : Option Addr) (c : Nat) (xs : List Int) (x : Int) (w : World) (h : Sees w w.heap.size A (ints xs)) (hn : xs.length ≤ 4194304) :
    Calls Try.prog 25 #[.slice A xs.length c, .int .i64 x] w fun e w' => ∃ v, e = .returned v ∧ Own w' w.heap.size v (xs.filter fun y => !(y == x)) ∧ Below w.heap.size w w' := by
  obtain ⟨i0, hi0, hz0, hz1, hz2⟩ := info_parts intInfo
  have HN := hid hn; clear hn
  obtain ⟨F, hF⟩ : ∃ F : Int → Bool, F = fun y => !(y == x) := ⟨_, rfl⟩
  rw [← hF]
  have HF := hid hF; clear hF
  go_enter Try.func25, Try.ntmps25
  go_wp2
  go_loopw [5, 6] (fun v i wr => ∃ k : Nat, k ≤ xs.length ∧ i = .int .i64 k ∧ Own wr w.heap.size v ((xs.take k).filter F) ∧ Below w.heap.size w wr) (fun _ i _ => xs.length - (intOf i).toNat)
  case atStart => exact ⟨0, Nat.zero_le _, rfl, by simpa using Own.made w w.heap.size (Nat.le_refl _), (Below.refl _ _).alloc (Nat.le_refl _) _⟩
  case round =>
    obtain ⟨k, hk, rfl, ho, hb⟩ := hrel
    have hn := HN.out
    by_cases hlt : k < xs.length
    · obtain ⟨b, o, rfl, _, hc⟩ := (h.below hb).int hlt
      have hi : (k : Int) < (xs.length : Int) := by omega
      rcases hx : (xs[k] == x) with _ | _
      · have hlen : ((xs.take k).filter F).length ≤ 4194304 := Nat.le_trans (List.length_filter_le _ _) (by simp; omega)
        go_wp2_with (at_builtin; refine wpList_append_own _ rfl _ _ 23 rfl w.heap.size 3 i0 (.int .i64 0) 1 8 Try.underlying23 hi0 hz0 hz1 hz2 rfl (by decide) _ _ _ rfl (ho.out.alloc _) ⟨wr.heap.size, 0, none⟩ 1 1 [.int .i64 xs[k]] rfl rfl (cell_one_new _ _ _) ?c2 ?c3 ?c4 ?c5 ?_)
        case c2 => simp [Value.oneCell']
        case c3 => unfold maxLen; omega
        case c4 => omega
        case c5 => have := hb.size; simp; omega
        case _ =>
          intro v1 w1 h1 hg1 _
          obtain ⟨ho1, hb1⟩ := ho.snoc hb (Nat.le_refl _) h1 hg1
          clear h1 hg1
          go_wp2
          go_roundw
          case rel =>
            refine ⟨k + 1, by omega, by go_num, ?_, hb1⟩
            rw [filter_take_succ hlt, if_pos (by rw [HF.out]; simp [hx])]; exact ho1
          case measure => simp [intOf]; omega
      · go_wp2
        go_roundw
        case rel =>
          refine ⟨k + 1, by omega, by go_num, ?_, hb⟩
          rw [filter_take_succ hlt, if_neg (by rw [HF.out]; simp [hx]), List.append_nil]; exact ho
        case measure => simp [intOf]; omega
    · have hi : ¬ (k : Int) < (xs.length : Int) := by omega
      go_wp2
      go_ret
      refine ⟨_, rfl, ?_, hb⟩
      rwa [take_whole hlt] at ho

end Go.Proofs.Ytcfijijpcafncaa

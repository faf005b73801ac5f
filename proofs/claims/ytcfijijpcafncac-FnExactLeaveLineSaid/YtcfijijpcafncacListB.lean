/-
  What insertNumber answers. Condition: the list lies in memory and is at most 2^22 long.
-/
import Derived.Test.YtcfijijpcafncacListA
import Derived.Test.YtcfijijpcafncacOwnB
namespace Go.Proofs.Ytcfijijpcafncac
open Go.RowKit

theorem lt_len (xs : List Int) (p : Int → Bool) (k : Nat) : ((xs.take k).filter p).length ≤ xs.length :=
  Nat.le_trans (List.length_filter_le _ _) (by rw [List.length_take]; omega)

set_option maxHeartbeats 1000000 in
theorem insertNumber_any (A : Option Addr) (c : Nat) (xs : List Int) (t : Int) (w : World) (h : Sees w w.heap.size A (ints xs)) (hn : xs.length ≤ 4194304) :
    Calls Try.prog 38 #[.slice A xs.length c, .int .i64 t] w fun e w' => ∃ v, e = .returned v ∧ Own w' w.heap.size v (Line.ins xs t) ∧ Below w.heap.size w w' := by
  obtain ⟨i0, hi0, hz0, hz1, hz2⟩ := info_parts intInfo
  have HN := hid hn; clear hn
  unfold Line.ins
  obtain ⟨F, hF⟩ : ∃ F : Int → Bool, F = fun x => decide (x < t) := ⟨_, rfl⟩
  obtain ⟨G, hG⟩ : ∃ G : Int → Bool, G = fun x => decide (t < x) := ⟨_, rfl⟩
  rw [← hF, ← hG]
  have HF := hid hF; clear hF
  have HG := hid hG; clear hG
  go_enter Try.func38, Try.ntmps38
  go_wp2
  go_loopw [5, 7, 12] (fun v _ i wr => ∃ k : Nat, k ≤ xs.length ∧ i = .int .i64 k ∧ Own wr w.heap.size v ((xs.take k).filter F) ∧ Below w.heap.size w wr) (fun _ _ i _ => xs.length - (intOf i).toNat)
  case atStart => exact ⟨0, Nat.zero_le _, rfl, Own.none_ _ _, Below.refl _ _⟩
  case round =>
    obtain ⟨k, hk, rfl, ho, hb⟩ := hrel
    have hn := HN.out
    by_cases hlt : k < xs.length
    · obtain ⟨b, o, rfl, _, hc⟩ := (h.below hb).int hlt
      have HL := hid (lt_len xs F k)
      by_cases hx : xs[k] < t
      · go_wp2_with (at_builtin; refine wpList_append_own _ rfl _ _ 22 rfl w.heap.size 3 i0 (.int .i64 0) 1 8 Try.underlying22 hi0 hz0 hz1 hz2 rfl (by decide) _ _ _ rfl (ho.out.alloc _) ⟨wr.heap.size, 0, none⟩ 1 1 [.int .i64 xs[k]] rfl rfl (cell_one_new _ _ _) ?c2 ?c3 ?c4 ?c5 ?_)
        case c2 => simp [Value.oneCell']
        case c3 => have := HL.out; unfold maxLen; omega
        case c4 => have := HL.out; omega
        case c5 => have := hb.size; simp; omega
        case _ =>
          intro v1 w1 h1 hg1 _
          obtain ⟨ho1, hb1⟩ := ho.snoc hb (Nat.le_refl _) h1 hg1
          clear h1 hg1
          go_wp2
          go_roundw
          case rel =>
            refine ⟨k + 1, by omega, by go_num, ?_, hb1⟩
            rw [filter_take_succ hlt, if_pos (by rw [HF.out]; simpa using hx)]; exact ho1
          case measure => simp [intOf]; omega
      · go_wp2
        go_roundw
        case rel =>
          refine ⟨k + 1, by omega, by go_num, ?_, hb⟩
          rw [filter_take_succ hlt, if_neg (by rw [HF.out]; simpa using hx), List.append_nil]; exact ho
        case measure => simp [intOf]; omega
    · have HL := hid (lt_len xs F k)
      go_wp2_with (at_builtin; refine wpList_append_own _ rfl _ _ 22 rfl w.heap.size 3 i0 (.int .i64 0) 1 8 Try.underlying22 hi0 hz0 hz1 hz2 rfl (by decide) _ _ _ rfl (ho.out.alloc _) ⟨wr.heap.size, 0, none⟩ 1 1 [.int .i64 t] rfl rfl (cell_one_new _ _ _) ?c2 ?c3 ?c4 ?c5 ?_)
      case c2 => simp [Value.oneCell']
      case c3 => have := HL.out; unfold maxLen; omega
      case c4 => have := HL.out; omega
      case c5 => have := hb.size; simp; omega
      case _ =>
        intro v1 w1 h1 hg1 _
        obtain ⟨ho1, hb1⟩ := ho.snoc hb (Nat.le_refl _) h1 hg1
        rw [take_whole hlt] at ho1
        clear h1 hg1 ho hb
        obtain ⟨P, hP⟩ : ∃ P, P = xs.filter F ++ [t] := ⟨_, rfl⟩
        rw [← hP] at ho1
        have HP := hid (show P.length ≤ xs.length + 1 by rw [hP]; have := List.length_filter_le F xs; simp; omega)
        have HE := hid hP
        clear hP HL HF
        go_wp2
        go_loopw [5, 9, 30] (fun v _ i wr => ∃ k : Nat, k ≤ xs.length ∧ i = .int .i64 k ∧ Own wr w.heap.size v (P ++ (xs.take k).filter G) ∧ Below w.heap.size w wr) (fun _ _ i _ => xs.length - (intOf i).toNat)
        case atStart => exact ⟨0, Nat.zero_le _, rfl, by simpa using ho1, hb1⟩
        case round =>
          obtain ⟨k, hk, rfl, ho, hb⟩ := hrel
          by_cases hlt : k < xs.length
          · obtain ⟨b, o, rfl, _, hc⟩ := (h.below hb).int hlt
            obtain ⟨Q, hQ⟩ : ∃ Q, Q = P ++ (xs.take k).filter G := ⟨_, rfl⟩
            have HL := hid (show Q.length ≤ 2 * xs.length + 1 by have := HP.out; have := lt_len xs G k; rw [hQ, List.length_append]; omega)
            rw [← hQ] at ho
            have HQ := hid hQ
            clear hQ
            by_cases hx : t < xs[k]
            · go_wp2_with (at_builtin; refine wpList_append_own _ rfl _ _ 22 rfl w.heap.size 3 i0 (.int .i64 0) 1 8 Try.underlying22 hi0 hz0 hz1 hz2 rfl (by decide) _ _ _ rfl (ho.out.alloc _) ⟨wr.heap.size, 0, none⟩ 1 1 [.int .i64 xs[k]] rfl rfl (cell_one_new _ _ _) ?d2 ?d3 ?d4 ?d5 ?_)
              case d2 => simp [Value.oneCell']
              case d3 => have := HL.out; unfold maxLen; omega
              case d4 => have := HL.out; omega
              case d5 => have := hb.size; simp; omega
              case _ =>
                intro v3 w3 h1 hg1 _
                obtain ⟨ho3, hb3⟩ := ho.snoc hb (Nat.le_refl _) h1 hg1
                clear h1 hg1
                go_wp2
                go_roundw
                case rel =>
                  refine ⟨k + 1, by omega, by go_num, ?_, hb3⟩
                  rw [filter_take_succ hlt, if_pos (by rw [HG.out]; simpa using hx), ← List.append_assoc, ← HQ.out]; exact ho3
                case measure => simp [intOf]; omega
            · go_wp2
              go_roundw
              case rel =>
                refine ⟨k + 1, by omega, by go_num, ?_, hb⟩
                rw [filter_take_succ hlt, if_neg (by rw [HG.out]; simpa using hx), List.append_nil, ← HQ.out]; exact ho
              case measure => simp [intOf]; omega
          · go_wp2
            go_ret
            refine ⟨_, rfl, ?_, hb⟩
            rwa [take_whole hlt, HE.out] at ho
end Go.Proofs.Ytcfijijpcafncac

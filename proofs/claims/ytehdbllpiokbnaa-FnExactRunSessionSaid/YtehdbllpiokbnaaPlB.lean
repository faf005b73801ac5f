/-
  What the program's small functions on the lists of a pool answer: copies, connections, owners, holds without one; tests of lists. Condition: the lists lie in memory.
-/
import Derived.Test.YtehdbllpiokbnaaPlA
import Derived.Test.YtehdbllpiokbnaaSsHold
import Derived.Test.YtehdbllpiokbnaaApp
import Derived.Test.YtehdbllpiokbnaaWithin

namespace Go.Proofs.Ytehdbllpiokbnaa
open Go.RowKit Pol

theorem Own.alloc4 {w : World} {base : Nat} {v : Value} {ys : List Int} (h : Own w base v ys) (o : Obj) : Own (w.alloc o) base v ys := h.below ((Below.refl _ _).alloc (Nat.le_refl _) o)
set_option maxHeartbeats 1000000 in
theorem copyNumbers_any (A : Option Addr) (c : Nat) (l : List Int) (w : World) (h : Sees w w.heap.size A (ints l)) (hn : l.length ≤ 4194304) :
    Calls Try.prog 83 #[.slice A l.length c] w fun e w' => ∃ v, e = .returned v ∧ Own w' w.heap.size v (l) ∧ Below w.heap.size w w' := by
  obtain ⟨i0, hi0, hz0, hz1, hz2⟩ := info_parts intInfo
  have HN := hid hn; clear hn
  go_enter Try.func83, Try.ntmps83
  go_wp2
  go_loopw [3, 8] (fun v i wr => ∃ k : Nat, k ≤ l.length ∧ i = .int .i64 k ∧ Own wr w.heap.size v ((l.take k)) ∧ Below w.heap.size w wr) (fun _ i _ => l.length - (intOf i).toNat)
  case atStart => exact ⟨0, Nat.zero_le _, rfl, Own.none_ _ _, Below.refl _ _⟩
  case round =>
    obtain ⟨k, hk, rfl, ho, hb⟩ := hrel
    have hn := HN.out
    by_cases hlt : k < l.length
    · have hi : (k : Int) < (l.length : Int) := by omega
      obtain ⟨b, o, rfl, hbl, e0⟩ := (h.below hb).int hlt
      have hz := hb.size
      have hbw : b < wr.heap.size := by omega
      have HT : Hid (l.take (k + 1) = l.take k ++ [l[k]]) := hid (List.take_succ_eq_append_getElem hlt)
      obtain ⟨x, hx⟩ : ∃ x, x = l[k] := ⟨_, rfl⟩
      rw [← hx] at HT e0
      clear hx
      have hrl : ((l.take k)).length ≤ 4194304 := by simp <;> try omega
      · have HX := hid (show (l.take (k + 1)) = (l.take k) ++ [x] by rw [HT.out] <;> simp)
        obtain ⟨R, hR⟩ : ∃ R, R = (l.take k) := ⟨_, rfl⟩
        rw [← hR] at HX ho hrl
        clear hR
        go_wp2_with (at_builtin; refine wpList_append_own _ rfl _ _ 22 rfl w.heap.size 3 i0 (.int .i64 0) 1 8 Try.underlying22 hi0 hz0 hz1 hz2 rfl (by decide) _ _ _ rfl (ho.alloc4 _).out ⟨wr.heap.size, 0, none⟩ 1 1 [.int .i64 x] rfl rfl (cell_one_new _ _ _) ?c2 ?c3 ?c4 ?c5 ?_)
        case c2 => simp [Value.oneCell']
        case c3 => unfold maxLen; omega
        case c4 => omega
        case c5 => simp; omega
        case _ =>
          intro v1 w3 h1 hg1 _
          have ho2 := ho
          have hb2 := hb
          obtain ⟨ho1, hb1⟩ := ho2.snoc (x := x) hb2 (Nat.le_refl _) h1 hg1
          clear h1 hg1 ho2 hb2
          go_wp2
          go_roundw
          case rel => exact ⟨k + 1, by omega, by go_num, by rw [HX.out]; exact ho1, hb1⟩
          case measure => simp [intOf]; omega
    · have hi : ¬ (k : Int) < (l.length : Int) := by omega
      rw [take_whole hlt] at ho
      go_wp2
      go_ret
      exact ⟨_, rfl, ho, hb⟩

set_option maxHeartbeats 1000000 in
theorem heldConns_any (A : Option Addr) (c : Nat) (l : List Ho) (w : World) (h : Sees w w.heap.size A (strip hcells l)) (hn : l.length ≤ 4194304) :
    Calls Try.prog 84 #[.slice A l.length c] w fun e w' => ∃ v, e = .returned v ∧ Own w' w.heap.size v ((l).map Ho.c) ∧ Below w.heap.size w w' := by
  obtain ⟨i0, hi0, hz0, hz1, hz2⟩ := info_parts intInfo
  have HN := hid hn; clear hn
  go_enter Try.func84, Try.ntmps84
  go_wp2
  go_loopw [3, 8] (fun v i wr => ∃ k : Nat, k ≤ l.length ∧ i = .int .i64 k ∧ Own wr w.heap.size v (((l.take k)).map Ho.c) ∧ Below w.heap.size w wr) (fun _ i _ => l.length - (intOf i).toNat)
  case atStart => exact ⟨0, Nat.zero_le _, rfl, Own.none_ _ _, Below.refl _ _⟩
  case round =>
    obtain ⟨k, hk, rfl, ho, hb⟩ := hrel
    have hn := HN.out
    by_cases hlt : k < l.length
    · have hi : (k : Int) < (l.length : Int) := by omega
      obtain ⟨b, o, rfl, hbl, e0, e1⟩ := (h.below hb).hold hlt
      have hz := hb.size
      have hbw : b < wr.heap.size := by omega
      have HT : Hid (l.take (k + 1) = l.take k ++ [l[k]]) := hid (List.take_succ_eq_append_getElem hlt)
      obtain ⟨x, hx⟩ : ∃ x, x = l[k] := ⟨_, rfl⟩
      rw [← hx] at HT e0 e1
      clear hx
      have hrl : (((l.take k)).map Ho.c).length ≤ 4194304 := by simp <;> try omega
      · have HX := hid (show ((l.take (k + 1))).map Ho.c = ((l.take k)).map Ho.c ++ [x.c] by rw [HT.out] <;> simp)
        obtain ⟨R, hR⟩ : ∃ R, R = ((l.take k)).map Ho.c := ⟨_, rfl⟩
        rw [← hR] at HX ho hrl
        clear hR
        go_wp2_with (at_builtin; refine wpList_append_own _ rfl _ _ 22 rfl w.heap.size 3 i0 (.int .i64 0) 1 8 Try.underlying22 hi0 hz0 hz1 hz2 rfl (by decide) _ _ _ rfl ((ho.alloc4 _).alloc4 _).out ⟨wr.heap.size + 1, 0, none⟩ 1 1 [.int .i64 x.c] rfl rfl (by simpa using cell_one_new (wr.alloc _) _ _) ?c2 ?c3 ?c4 ?c5 ?_)
        case c2 => simp [Value.oneCell']
        case c3 => unfold maxLen; omega
        case c4 => omega
        case c5 => simp; omega
        case _ =>
          intro v1 w3 h1 hg1 _
          have ho2 := ho.alloc4 (.cells #[.int .i64 x.c, .int .i64 x.o] 91)
          have hb2 := hb.alloc hz (.cells #[.int .i64 x.c, .int .i64 x.o] 91)
          obtain ⟨ho1, hb1⟩ := ho2.snoc (x := x.c) hb2 (Nat.le_refl _) h1 hg1
          clear h1 hg1 ho2 hb2
          go_wp2
          go_roundw
          case rel => exact ⟨k + 1, by omega, by go_num, by rw [HX.out]; exact ho1, hb1⟩
          case measure => simp [intOf]; omega
    · have hi : ¬ (k : Int) < (l.length : Int) := by omega
      rw [take_whole hlt] at ho
      go_wp2
      go_ret
      exact ⟨_, rfl, ho, hb⟩

set_option maxHeartbeats 1000000 in
theorem holders_any (A : Option Addr) (c : Nat) (l : List Ho) (w : World) (h : Sees w w.heap.size A (strip hcells l)) (hn : l.length ≤ 4194304) :
    Calls Try.prog 74 #[.slice A l.length c] w fun e w' => ∃ v, e = .returned v ∧ Own w' w.heap.size v ((l).map Ho.o) ∧ Below w.heap.size w w' := by
  obtain ⟨i0, hi0, hz0, hz1, hz2⟩ := info_parts intInfo
  have HN := hid hn; clear hn
  go_enter Try.func74, Try.ntmps74
  go_wp2
  go_loopw [3, 8] (fun v i wr => ∃ k : Nat, k ≤ l.length ∧ i = .int .i64 k ∧ Own wr w.heap.size v (((l.take k)).map Ho.o) ∧ Below w.heap.size w wr) (fun _ i _ => l.length - (intOf i).toNat)
  case atStart => exact ⟨0, Nat.zero_le _, rfl, Own.none_ _ _, Below.refl _ _⟩
  case round =>
    obtain ⟨k, hk, rfl, ho, hb⟩ := hrel
    have hn := HN.out
    by_cases hlt : k < l.length
    · have hi : (k : Int) < (l.length : Int) := by omega
      obtain ⟨b, o, rfl, hbl, e0, e1⟩ := (h.below hb).hold hlt
      have hz := hb.size
      have hbw : b < wr.heap.size := by omega
      have HT : Hid (l.take (k + 1) = l.take k ++ [l[k]]) := hid (List.take_succ_eq_append_getElem hlt)
      obtain ⟨x, hx⟩ : ∃ x, x = l[k] := ⟨_, rfl⟩
      rw [← hx] at HT e0 e1
      clear hx
      have hrl : (((l.take k)).map Ho.o).length ≤ 4194304 := by simp <;> try omega
      · have HX := hid (show ((l.take (k + 1))).map Ho.o = ((l.take k)).map Ho.o ++ [x.o] by rw [HT.out] <;> simp)
        obtain ⟨R, hR⟩ : ∃ R, R = ((l.take k)).map Ho.o := ⟨_, rfl⟩
        rw [← hR] at HX ho hrl
        clear hR
        go_wp2_with (at_builtin; refine wpList_append_own _ rfl _ _ 22 rfl w.heap.size 3 i0 (.int .i64 0) 1 8 Try.underlying22 hi0 hz0 hz1 hz2 rfl (by decide) _ _ _ rfl ((ho.alloc4 _).alloc4 _).out ⟨wr.heap.size + 1, 0, none⟩ 1 1 [.int .i64 x.o] rfl rfl (by simpa using cell_one_new (wr.alloc _) _ _) ?c2 ?c3 ?c4 ?c5 ?_)
        case c2 => simp [Value.oneCell']
        case c3 => unfold maxLen; omega
        case c4 => omega
        case c5 => simp; omega
        case _ =>
          intro v1 w3 h1 hg1 _
          have ho2 := ho.alloc4 (.cells #[.int .i64 x.c, .int .i64 x.o] 91)
          have hb2 := hb.alloc hz (.cells #[.int .i64 x.c, .int .i64 x.o] 91)
          obtain ⟨ho1, hb1⟩ := ho2.snoc (x := x.o) hb2 (Nat.le_refl _) h1 hg1
          clear h1 hg1 ho2 hb2
          go_wp2
          go_roundw
          case rel => exact ⟨k + 1, by omega, by go_num, by rw [HX.out]; exact ho1, hb1⟩
          case measure => simp [intOf]; omega
    · have hi : ¬ (k : Int) < (l.length : Int) := by omega
      rw [take_whole hlt] at ho
      go_wp2
      go_ret
      exact ⟨_, rfl, ho, hb⟩

set_option maxHeartbeats 1000000 in
theorem holdsWithout_any (A : Option Addr) (c : Nat) (l : List Ho) (q : Int) (w : World) (h : Sees w w.heap.size A (strip hcells l)) (hn : l.length ≤ 4194304) :
    Calls Try.prog 105 #[.slice A l.length c, .int .i64 q] w fun e w' => ∃ v, e = .returned v ∧ OwnS 91 2 hcells w' w.heap.size v (without (l) q) ∧ Below w.heap.size w w' := by
  obtain ⟨i0, hi0, hz0, hz1, hz2⟩ := info_parts holdInfo
  have HN := hid hn; clear hn
  go_enter Try.func105, Try.ntmps105
  go_wp2
  go_loopw [5, 10] (fun v i wr => ∃ k : Nat, k ≤ l.length ∧ i = .int .i64 k ∧ OwnS 91 2 hcells wr w.heap.size v (without ((l.take k)) q) ∧ Below w.heap.size w wr) (fun _ i _ => l.length - (intOf i).toNat)
  case atStart => exact ⟨0, Nat.zero_le _, rfl, OwnS.none_ _ _, Below.refl _ _⟩
  case round =>
    obtain ⟨k, hk, rfl, ho, hb⟩ := hrel
    have hn := HN.out
    by_cases hlt : k < l.length
    · have hi : (k : Int) < (l.length : Int) := by omega
      obtain ⟨b, o, rfl, hbl, e0, e1⟩ := (h.below hb).hold hlt
      have hz := hb.size
      have hbw : b < wr.heap.size := by omega
      have HT : Hid (l.take (k + 1) = l.take k ++ [l[k]]) := hid (List.take_succ_eq_append_getElem hlt)
      obtain ⟨x, hx⟩ : ∃ x, x = l[k] := ⟨_, rfl⟩
      rw [← hx] at HT e0 e1
      clear hx
      have hrl : (without ((l.take k)) q).length ≤ 4194304 := by unfold without; exact Nat.le_trans (List.length_filter_le _ _) (by simp; omega)
      rcases hc : (x.c != q) with _ | _
      · have HX := hid (show without ((l.take (k + 1))) q = without ((l.take k)) q by rw [HT.out]; unfold without; rw [List.filter_append]; simp at hc; simp [hc])
        go_wp2
        go_roundw
        case rel => exact ⟨k + 1, by omega, by go_num, by rw [HX.out]; exact (ho.alloc _), hb.alloc hz _⟩
        case measure => simp [intOf]; omega
      · have HX := hid (show without ((l.take (k + 1))) q = without ((l.take k)) q ++ [x] by rw [HT.out]; unfold without; rw [List.filter_append]; simp at hc; simp [hc])
        obtain ⟨R, hR⟩ : ∃ R, R = without ((l.take k)) q := ⟨_, rfl⟩
        rw [← hR] at HX ho hrl
        clear hR
        go_wp2_with (at_builtin; refine wpList_append_own _ rfl _ _ 28 rfl w.heap.size 91 i0 (.agg #[.int .i64 0, .int .i64 0]) 2 16 Try.underlying28 hi0 hz0 hz1 hz2 rfl (by decide) _ _ _ rfl ((ho.alloc _).alloc _).out ⟨wr.heap.size + 1, 0, none⟩ 1 1 [.int .i64 x.c, .int .i64 x.o] rfl rfl (by simpa using cells_new (wr.alloc _) _ _) ?c2 ?c3 ?c4 ?c5 ?_)
        case c2 => simp [Value.oneCell']
        case c3 => unfold maxLen; omega
        case c4 => omega
        case c5 => simp; omega
        case _ =>
          intro v1 w3 h1 hg1 _
          have ho2 := ho.alloc (.cells #[.int .i64 x.c, .int .i64 x.o] 91)
          have hb2 := hb.alloc hz (.cells #[.int .i64 x.c, .int .i64 x.o] 91)
          obtain ⟨ho1, hb1⟩ := ho2.snoc (x := x) hb2 (Nat.le_refl _) h1 hg1
          clear h1 hg1 ho2 hb2
          go_wp2
          go_roundw
          case rel => exact ⟨k + 1, by omega, by go_num, by rw [HX.out]; exact ho1, hb1⟩
          case measure => simp [intOf]; omega
    · have hi : ¬ (k : Int) < (l.length : Int) := by omega
      rw [take_whole hlt] at ho
      go_wp2
      go_ret
      exact ⟨_, rfl, ho, hb⟩

end Go.Proofs.Ytehdbllpiokbnaa

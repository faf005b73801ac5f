/-
  What the model's goodAfter, IsGood, GoodPath and GoodShare answer. Condition: the list lies in memory.
-/
import Derived.Test.YthghmpcfiakjgacChkC
namespace Go.Proofs.Ythghmpcfiakjgac
open Go.RowKit Chk

set_option maxHeartbeats 4000000 in
theorem sgoodAfter_any (A : Option Addr) (n c : Nat) (l : List Bool) (f g : Int) (w : World) (hl : l.length = n) (h : Sees w w.heap.size A (boos l)) (hcap : l.length ≤ c) (hn : l.length ≤ 12) :
    Calls Try.prog 21 #[.slice A n c, .int .i64 f, .int .i64 g] w fun e w' => e = .returned (.bool (gst l f g l.length)) ∧ Below w.heap.size w w' := by
  subst hl
  go_enter Try.func21, Try.ntmps21
  go_wp2
  go_loopw [7, 8] (fun v i wr => ∃ k : Nat, k ≤ l.length ∧ v = .bool (gst l f g k) ∧ i = .int .i64 k ∧ Below w.heap.size w wr) (fun _ i _ => l.length - (intOf i).toNat)
  case atStart => exact ⟨0, Nat.zero_le _, rfl, rfl, Below.refl _ _⟩
  case round =>
    obtain ⟨k, hk, rfl, rfl, hb⟩ := hrel
    by_cases hlt : k < l.length
    · have hi : (k : Int) < (l.length : Int) := by omega
      have hk1 : (k : Int) + 1 ≤ (l.length : Int) := by omega
      have hk2 : (l.length : Int) ≤ (c : Int) := by omega
      have hk3 : (k : Int) + 1 ≤ 12 := by omega
      have hk0 : (0 : Int) ≤ (k : Int) + 1 := by omega
      have hs := (h.below hb).more hb.size
      obtain ⟨b, o, rfl, hbl, hc⟩ := hs.boo hlt
      have hst := hs.btake (k + 1)
      have HKL := hid (show (l.take (k + 1)).length = k + 1 by rw [List.length_take]; omega)
      have HS := gst_step (f := f) (g := g) hlt
      obtain ⟨x, hx⟩ : ∃ x, x = l[k] := ⟨_, rfl⟩
      rw [← hx] at hc HS
      obtain ⟨G, hG⟩ : ∃ G, G = gst l f g k := ⟨_, rfl⟩
      rw [← hG] at HS ⊢
      obtain ⟨R, hR⟩ : ∃ R : Int, R = run (l.take (k + 1)) := ⟨_, rfl⟩
      rw [← hR] at HS
      have HR : Hid ((run (l.take (k + 1)) : Int) = R) := hid hR.symm
      clear hx hG hR
      cases x
      · cases G
        · by_cases hq : f ≤ R
          · have HG := hid (show gst l f g (k + 1) = false by rw [HS]; simp [hq])
            clear HS
            go_wp2_with fail
            refine (srun_any (some ⟨b, o, none⟩) _ c _ _ HKL.out hst (by rw [HKL.out]; omega)).mono ?_
            rintro e w2 ⟨he, hb2⟩
            rw [HR.out] at he
            subst he
            have hbw := hb.trans (hb2.mono hb.size)
            have hc2 := (hb2.cell (p := ⟨b, o + k, none⟩) hbl).trans hc
            clear hc
            go_wp2
            go_roundw
            case rel => exact ⟨k + 1, by omega, by rw [HG.out], by go_num, hbw⟩
            case measure => simp [intOf]; omega
          · have HG := hid (show gst l f g (k + 1) = false by rw [HS]; simp [hq])
            clear HS
            go_wp2_with fail
            refine (srun_any (some ⟨b, o, none⟩) _ c _ _ HKL.out hst (by rw [HKL.out]; omega)).mono ?_
            rintro e w2 ⟨he, hb2⟩
            rw [HR.out] at he
            subst he
            have hbw := hb.trans (hb2.mono hb.size)
            have hc2 := (hb2.cell (p := ⟨b, o + k, none⟩) hbl).trans hc
            clear hc
            go_wp2
            go_roundw
            case rel => exact ⟨k + 1, by omega, by rw [HG.out], by go_num, hbw⟩
            case measure => simp [intOf]; omega
        · by_cases hq : f ≤ R
          · have HG := hid (show gst l f g (k + 1) = false by rw [HS]; simp [hq])
            clear HS
            go_wp2_with fail
            refine (srun_any (some ⟨b, o, none⟩) _ c _ _ HKL.out hst (by rw [HKL.out]; omega)).mono ?_
            rintro e w2 ⟨he, hb2⟩
            rw [HR.out] at he
            subst he
            have hbw := hb.trans (hb2.mono hb.size)
            have hc2 := (hb2.cell (p := ⟨b, o + k, none⟩) hbl).trans hc
            clear hc
            go_wp2
            go_roundw
            case rel => exact ⟨k + 1, by omega, by rw [HG.out], by go_num, hbw⟩
            case measure => simp [intOf]; omega
          · have HG := hid (show gst l f g (k + 1) = true by rw [HS]; simp [hq])
            clear HS
            go_wp2_with fail
            refine (srun_any (some ⟨b, o, none⟩) _ c _ _ HKL.out hst (by rw [HKL.out]; omega)).mono ?_
            rintro e w2 ⟨he, hb2⟩
            rw [HR.out] at he
            subst he
            have hbw := hb.trans (hb2.mono hb.size)
            have hc2 := (hb2.cell (p := ⟨b, o + k, none⟩) hbl).trans hc
            clear hc
            go_wp2
            go_roundw
            case rel => exact ⟨k + 1, by omega, by rw [HG.out], by go_num, hbw⟩
            case measure => simp [intOf]; omega
      · cases G
        · by_cases hq : g ≤ R
          · have HG := hid (show gst l f g (k + 1) = true by rw [HS]; simp [hq])
            clear HS
            go_wp2_with fail
            refine (srun_any (some ⟨b, o, none⟩) _ c _ _ HKL.out hst (by rw [HKL.out]; omega)).mono ?_
            rintro e w2 ⟨he, hb2⟩
            rw [HR.out] at he
            subst he
            have hbw := hb.trans (hb2.mono hb.size)
            have hc2 := (hb2.cell (p := ⟨b, o + k, none⟩) hbl).trans hc
            clear hc
            go_wp2
            go_roundw
            case rel => exact ⟨k + 1, by omega, by rw [HG.out], by go_num, hbw⟩
            case measure => simp [intOf]; omega
          · have HG := hid (show gst l f g (k + 1) = false by rw [HS]; simp [hq])
            clear HS
            go_wp2_with fail
            refine (srun_any (some ⟨b, o, none⟩) _ c _ _ HKL.out hst (by rw [HKL.out]; omega)).mono ?_
            rintro e w2 ⟨he, hb2⟩
            rw [HR.out] at he
            subst he
            have hbw := hb.trans (hb2.mono hb.size)
            have hc2 := (hb2.cell (p := ⟨b, o + k, none⟩) hbl).trans hc
            clear hc
            go_wp2
            go_roundw
            case rel => exact ⟨k + 1, by omega, by rw [HG.out], by go_num, hbw⟩
            case measure => simp [intOf]; omega
        · by_cases hq : g ≤ R
          · have HG := hid (show gst l f g (k + 1) = true by rw [HS]; simp [hq])
            clear HS
            go_wp2_with fail
            refine (srun_any (some ⟨b, o, none⟩) _ c _ _ HKL.out hst (by rw [HKL.out]; omega)).mono ?_
            rintro e w2 ⟨he, hb2⟩
            rw [HR.out] at he
            subst he
            have hbw := hb.trans (hb2.mono hb.size)
            have hc2 := (hb2.cell (p := ⟨b, o + k, none⟩) hbl).trans hc
            clear hc
            go_wp2
            go_roundw
            case rel => exact ⟨k + 1, by omega, by rw [HG.out], by go_num, hbw⟩
            case measure => simp [intOf]; omega
          · have HG := hid (show gst l f g (k + 1) = true by rw [HS]; simp [hq])
            clear HS
            go_wp2_with fail
            refine (srun_any (some ⟨b, o, none⟩) _ c _ _ HKL.out hst (by rw [HKL.out]; omega)).mono ?_
            rintro e w2 ⟨he, hb2⟩
            rw [HR.out] at he
            subst he
            have hbw := hb.trans (hb2.mono hb.size)
            have hc2 := (hb2.cell (p := ⟨b, o + k, none⟩) hbl).trans hc
            clear hc
            go_wp2
            go_roundw
            case rel => exact ⟨k + 1, by omega, by rw [HG.out], by go_num, hbw⟩
            case measure => simp [intOf]; omega
    · have hi : ¬ (k : Int) < (l.length : Int) := by omega
      have hke : k = l.length := by omega
      have HG := hid (show gst l f g k = gst l f g l.length by rw [hke])
      clear hke
      go_wp2
      go_ret
      exact ⟨ret_bool HG.out, hb⟩

set_option maxHeartbeats 4000000 in
theorem sGoodPath_any (A : Option Addr) (n c : Nat) (l : List Bool) (f g : Int) (w : World) (hl : l.length = n) (h : Sees w w.heap.size A (boos l)) (hcap : l.length ≤ c) :
    Calls Try.prog 11 #[.slice A n c, .int .i64 f, .int .i64 g] w fun e w' => ∃ v, e = .returned v ∧ Own w' w.heap.size v (path l f g) ∧ Below w.heap.size w w' := by
  subst hl
  obtain ⟨i0, hi0, hz0, hz1, hz2⟩ := info_parts intInfo
  have hom := Own.made w w.heap.size (Nat.le_refl _)
  have hbm := (Below.refl w.heap.size w).alloc (Nat.le_refl _) (.cells #[] 3)
  rcases hv : chkB l f g with _ | _
  · have HV := hid hv
    have E0 := hid (show path l f g = [] by unfold path; rw [hv]; rfl)
    clear hv
    go_enter Try.func11, Try.ntmps11
    go_wp2_with fail
    refine (svalidChecks_any A l.length c l f g _ rfl).mono ?_
    rintro e w' ⟨he, rfl⟩
    rw [HV.out] at he
    subst he
    go_wp2
    go_ret
    exact ⟨_, rfl, by rw [E0.out]; exact Own.none_ _ _, hbm⟩
  · have HV := hid hv
    have E0 := hid (path_steps hv)
    have h12 := (chkB_iff.1 hv).1
    have GT := hid (fun (k : Nat) (hk : k ≤ l.length) => gst_take (l := l) (f := f) (g := g) (Nat.le_refl k))
    clear hv
    go_enter Try.func11, Try.ntmps11
    go_wp2_with fail
    refine (svalidChecks_any A l.length c l f g _ rfl).mono ?_
    rintro e w' ⟨he, rfl⟩
    rw [HV.out] at he
    subst he
    go_wp2
    go_loopw [7, 8] (fun v i wr => ∃ k : Nat, k ≤ l.length ∧ i = .int .i64 k ∧ Own wr w.heap.size v (steps l f g k) ∧ Below w.heap.size w wr) (fun _ i _ => l.length - (intOf i).toNat)
    case atStart => exact ⟨0, Nat.zero_le _, rfl, hom, hbm⟩
    case round =>
      clear hom hbm
      obtain ⟨k, hk, rfl, ho, hb⟩ := hrel
      by_cases hlt : k < l.length
      · have hi : (k : Int) < (l.length : Int) := by omega
        have hk1 : (k : Int) + 1 ≤ (l.length : Int) := by omega
        have hk2 : (l.length : Int) ≤ (c : Int) := by omega
        have hk3 : (k : Int) + 1 ≤ 12 := by omega
        have hk0 : (0 : Int) ≤ (k : Int) + 1 := by omega
        have hs := (h.below hb).more hb.size
        obtain ⟨b, o, rfl, hbl, _⟩ := hs.boo hlt
        have hst := hs.btake (k + 1)
        have HKL := hid (show (l.take (k + 1)).length = k + 1 by rw [List.length_take]; omega)
        have HG := hid (show gst (l.take (k + 1)) f g (l.take (k + 1)).length = gst l f g (k + 1) by rw [HKL.out]; exact GT.out (k + 1) (by omega))
        have HT := hid (steps_succ l f g k)
        have HL := hid (steps_len l f g k)
        obtain ⟨G, hG⟩ : ∃ G, G = gst l f g (k + 1) := ⟨_, rfl⟩
        rw [← hG] at HG HT
        obtain ⟨R, hR⟩ : ∃ R, R = steps l f g k := ⟨_, rfl⟩
        rw [← hR] at HT HL ho
        clear hG hR
        go_wp2_with fail
        refine (sgoodAfter_any (some ⟨b, o, none⟩) _ c _ f g _ HKL.out hst (by rw [HKL.out]; omega) (by rw [HKL.out]; omega)).mono ?_
        rintro e w2 ⟨he, hb2⟩
        rw [HG.out] at he
        subst he
        have hbw := hb.trans (hb2.mono hb.size)
        have ho2 := ho.below hb2
        clear hb ho hb2
        have hz := hbw.size
        go_wp2_with fail
        refine (stoInt_any G _).mono ?_
        rintro e w' ⟨rfl, rfl⟩
        have hL := HL.out
        go_wp2_with (at_builtin; refine wpList_append_own _ rfl _ _ 26 rfl w.heap.size 3 i0 (.int .i64 0) 1 8 Try.underlying26 hi0 hz0 hz1 hz2 rfl (by decide) _ _ _ rfl (ho2.out.alloc _) ⟨w2.heap.size, 0, none⟩ 1 1 [.int .i64 (bit G)] rfl rfl (cell_one_new _ _ _) ?c2 ?c3 ?c4 ?c5 ?_)
        case c2 => simp [Value.oneCell']
        case c3 => unfold maxLen; omega
        case c4 => omega
        case c5 => simp; omega
        case _ =>
          intro v1 w5 h5 hg5 _
          obtain ⟨ho5, hb5⟩ := ho2.snoc (x := bit G) hbw (Nat.le_refl _) (by rw [HL.out]; exact h5) hg5
          clear h5 hg5
          go_wp2
          go_roundw
          case rel => exact ⟨k + 1, by omega, by go_num, by rw [HT.out]; exact ho5, hb5⟩
          case measure => simp [intOf]; omega
      · have hi : ¬ (k : Int) < (l.length : Int) := by omega
        have hke : k = l.length := by omega
        rw [hke, ← E0.out] at ho
        clear hke
        go_wp2
        go_ret
        exact ⟨_, rfl, ho, hb⟩

theorem cnt_step {l : List Bool} {k : Nat} (h : k < l.length) : ((cnt (l.take (k + 1)) : Nat) : Int) = (cnt (l.take k) : Nat) + bit l[k] := by
  rw [List.take_succ_eq_append_getElem h, cnt_snoc]
  unfold bit
  split <;> simp_all
set_option maxHeartbeats 2000000 in
theorem sGoodShare_any (A : Option Addr) (n c : Nat) (l : List Bool) (w : World) {B : Nat} (hl : l.length = n) (h : Sees w B A (boos l)) (hn : l.length ≤ 4194304) :
    Calls Try.prog 15 #[.slice A n c] w fun e w' => e = .returned (.int .i64 (share l)) ∧ w = w' := by
  subst hl
  by_cases h12 : l.length ≤ 12
  · have hi12 : ¬ (l.length : Int) > 12 := by omega
    by_cases h0 : l.length = 0
    · have hi0 : ((l.length : Int) == 0) = true := by simp [h0]
      have E0 := hid (show share l = 100 by unfold share; rw [if_pos h12, if_pos h0])
      clear h0
      go_enter Try.func15, Try.ntmps15
      go_wp2
      go_ret
      exact ⟨ret_int (by rw [E0.out]), rfl⟩
    · have hi0 : ((l.length : Int) == 0) = false := by rw [beq_eq_false_iff_ne]; omega
      have E0 := hid (show share l = ((100 * cnt l / l.length : Nat) : Int) by unfold share; rw [if_pos h12, if_neg h0])
      have hi1 : ¬ (l.length : Int) = 0 := by omega
      go_enter Try.func15, Try.ntmps15
      go_wp2
      go_loop [3, 4] (fun v i => ∃ k : Nat, k ≤ l.length ∧ v = .int .i64 ((cnt (l.take k) : Nat) : Int) ∧ i = .int .i64 k) (fun _ i => l.length - (intOf i).toNat)
      case atStart => exact ⟨0, Nat.zero_le _, rfl, rfl⟩
      case round =>
        obtain ⟨k, hk, rfl, rfl⟩ := hrel
        have hC := cnt_le (l.take k)
        rw [List.length_take] at hC
        by_cases hlt : k < l.length
        · have hi : (k : Int) < (l.length : Int) := by omega
          obtain ⟨b, o, rfl, _, hc⟩ := h.boo hlt
          have HT := hid (cnt_step hlt)
          obtain ⟨x, hx⟩ : ∃ x, x = l[k] := ⟨_, rfl⟩
          rw [← hx] at hc HT
          obtain ⟨C, hCC⟩ : ∃ C, C = cnt (l.take k) := ⟨_, rfl⟩
          rw [← hCC] at HT hC ⊢
          have hb1 : 0 ≤ bit x ∧ bit x ≤ 1 := by unfold bit; split <;> omega
          have hw1 : IntKind.i64.wrap ((C : Int) + bit x) = (C : Int) + bit x := by rw [IntKind.wrap_i64]; omega
          clear hx hCC
          go_wp2_with fail
          refine (stoInt_any x _).mono ?_
          rintro e w' ⟨rfl, rfl⟩
          go_wp2
          go_round
          case rel => exact ⟨k + 1, by omega, by rw [HT.out], by go_num⟩
          case measure => simp [intOf]; omega
        · have hi : ¬ (k : Int) < (l.length : Int) := by omega
          rw [take_whole hlt] at hC ⊢
          obtain ⟨C, hCC⟩ : ∃ C, C = cnt l := ⟨_, rfl⟩
          rw [← hCC] at hC E0 ⊢
          have hw1 : IntKind.i64.wrap (100 * (C : Int)) = 100 * (C : Int) := by rw [IntKind.wrap_i64]; omega
          have hqn := Nat.div_le_self (100 * C) l.length
          have ht : (100 * (C : Int)).tdiv (l.length : Int) = ((100 * C / l.length : Nat) : Int) := by rw [Int.tdiv_eq_ediv_of_nonneg (by omega)]; simp
          have hqc : 100 * (C : Int) / (l.length : Int) = ((100 * C / l.length : Nat) : Int) := by simp
          obtain ⟨Q, hQ⟩ : ∃ Q, Q = 100 * C / l.length := ⟨_, rfl⟩
          rw [← hQ] at ht hqn hqc E0
          have hw2 : IntKind.i64.wrap (Q : Int) = Q := by rw [IntKind.wrap_i64]; omega
          clear hQ hCC
          go_wp2
          go_ret
          exact ⟨ret_int (by first | (rw [E0.out]; done) | (rw [E0.out, hqc]; done) | (rw [E0.out]; simp; done)), rfl⟩
  · have hi12 : (l.length : Int) > 12 := by omega
    have E0 := hid (show share l = -1 by unfold share; rw [if_neg h12])
    go_enter Try.func15, Try.ntmps15
    go_wp2
    go_ret
    exact ⟨ret_int (by rw [E0.out]), rfl⟩

end Go.Proofs.Ythghmpcfiakjgac

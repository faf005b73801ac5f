/-
  What the model's goodAfter, IsGood, GoodPath and GoodShare answer. Condition: the list lies in memory.
-/
import Derived.Test.YthghmpcfiakjgabChkC
namespace Go.Proofs.Ythghmpcfiakjgab
open Go.RowKit Chk

set_option maxHeartbeats 4000000 in
theorem sgoodAfter_any (A : Option Addr) (n c : Nat) (l : List Bool) (f g : Int) (w : World) (hl : l.length = n) (h : Sees w w.heap.size A (boos l)) (hcap : l.length ≤ c) (hn : l.length ≤ 12) :
    Calls Try.prog 21 #[.slice A n c, .int .i64 f, .int .i64 g] w fun e w' => e = .returned (.bool (gst l f g l.length)) ∧ Below w.heap.size w w' := by
  subst hl
  go_enter Try.func21, Try.ntmps21
  go_wp2
  go_loopw [7, 8] (fun v i wr => ∃ k : Nat, k ≤ l.length ∧ v = .bool (gst l f g k) ∧ i = .int .i64 k ∧ Below w.heap.size w wr) (fun _ i _ => l.length - (intOf i).toNat)
  case atStart => exact ⟨0, Nat.zero_le _, rfl, rfl, Below.refl _ _⟩
  case round =>
    obtain ⟨k, hk, rfl, rfl, hb⟩ := hrel
    by_cases hlt : k < l.length
    · have hi : (k : Int) < (l.length : Int) := by omega
      have hk1 : (k : Int) + 1 ≤ (l.length : Int) := by omega
      have hk2 : (l.length : Int) ≤ (c : Int) := by omega
      have hk3 : (k : Int) + 1 ≤ 12 := by omega
      have hk0 : (0 : Int) ≤ (k : Int) + 1 := by omega
      have hs := (h.below hb).more hb.size
      obtain ⟨b, o, rfl, hbl, hc⟩ := hs.boo hlt
      have hst := hs.btake (k + 1)
      have HKL := hid (show (l.take (k + 1)).length = k + 1 by rw [List.length_take]; omega)
      have HS := gst_step (f := f) (g := g) hlt
      obtain ⟨x, hx⟩ : ∃ x, x = l[k] := ⟨_, rfl⟩
      rw [← hx] at hc HS
      obtain ⟨G, hG⟩ : ∃ G, G = gst l f g k := ⟨_, rfl⟩
      rw [← hG] at HS ⊢
      obtain ⟨R, hR⟩ : ∃ R : Int, R = run (l.take (k + 1)) := ⟨_, rfl⟩
      rw [← hR] at HS
      have HR : Hid ((run (l.take (k + 1)) : Int) = R) := hid hR.symm
      clear hx hG hR
      cases x
      · cases G
        · by_cases hq : f ≤ R
          · have HG := hid (show gst l f g (k + 1) = false by rw [HS]; simp [hq])
            clear HS
            go_wp2_with fail
            refine (srun_any (some ⟨b, o, none⟩) _ c _ _ HKL.out hst (by rw [HKL.out]; omega)).mono ?_
            rintro e w2 ⟨he, hb2⟩
            rw [HR.out] at he
            subst he
            have hbw := hb.trans (hb2.mono hb.size)
            have hc2 := (hb2.cell (p := ⟨b, o + k, none⟩) hbl).trans hc
            clear hc
            go_wp2
            go_roundw
            case rel => exact ⟨k + 1, by omega, by rw [HG.out], by go_num, hbw⟩
            case measure => simp [intOf]; omega
          · have HG := hid (show gst l f g (k + 1) = false by rw [HS]; simp [hq])
            clear HS
            go_wp2_with fail
            refine (srun_any (some ⟨b, o, none⟩) _ c _ _ HKL.out hst (by rw [HKL.out]; omega)).mono ?_
            rintro e w2 ⟨he, hb2⟩
            rw [HR.out] at he
            subst he
            have hbw := hb.trans (hb2.mono hb.size)
            have hc2 := (hb2.cell (p := ⟨b, o + k, none⟩) hbl).trans hc
            clear hc
            go_wp2
            go_roundw
            case rel => exact ⟨k + 1, by omega, by rw [HG.out], by go_num, hbw⟩
            case measure => simp [intOf]; omega
        · by_cases hq : f ≤ R
          · have HG := hid (show gst l f g (k + 1) = false by rw [HS]; simp [hq])
            clear HS
            go_wp2_with fail
            refine (srun_any (some ⟨b, o, none⟩) _ c _ _ HKL.out hst (by rw [HKL.out]; omega)).mono ?_
            rintro e w2 ⟨he, hb2⟩
            rw [HR.out] at he
            subst he
            have hbw := hb.trans (hb2.mono hb.size)
            have hc2 := (hb2.cell (p := ⟨b, o + k, none⟩) hbl).trans hc
            clear hc
            go_wp2
            go_roundw
            case rel => exact ⟨k + 1, by omega, by rw [HG.out], by go_num, hbw⟩
            case measure => simp [intOf]; omega
          · have HG := hid (show gst l f g (k + 1) = true by rw [HS]; simp [hq])
            clear HS
            go_wp2_with fail
            refine (srun_any (some ⟨b, o, none⟩) _ c _ _ HKL.out hst (by rw [HKL.out]; omega)).mono ?_
            rintro e w2 ⟨he, hb2⟩
            rw [HR.out] at he
            subst he
            have hbw := hb.trans (hb2.mono hb.size)
            have hc2 := (hb2.cell (p := ⟨b, o + k, none⟩) hbl).trans hc
            clear hc
            go_wp2
            go_roundw
            case rel => exact ⟨k + 1, by omega, by rw [HG.out], by go_num, hbw⟩
            case measure => simp [intOf]; omega
      · cases G
        · by_cases hq : g ≤ R
          · have HG := hid (show gst l f g (k + 1) = true by rw [HS]; simp [hq])
            clear HS
            go_wp2_with fail
            refine (srun_any (some ⟨b, o, none⟩) _ c _ _ HKL.out hst (by rw [HKL.out]; omega)).mono ?_
            rintro e w2 ⟨he, hb2⟩
            rw [HR.out] at he
            subst he
            have hbw := hb.trans (hb2.mono hb.size)
            have hc2 := (hb2.cell (p := ⟨b, o + k, none⟩) hbl).trans hc
            clear hc
            go_wp2
            go_roundw
            case rel => exact ⟨k + 1, by omega, by rw [HG.out], by go_num, hbw⟩
            case measure => simp [intOf]; omega
          · have HG := hid (show gst l f g (k + 1) = false by rw [HS]; simp [hq])
            clear HS
            go_wp2_with fail
            refine (srun_any (some ⟨b, o, none⟩) _ c _ _ HKL.out hst (by rw [HKL.out]; omega)).mono ?_
            rintro e w2 ⟨he, hb2⟩
            rw [HR.out] at he
            subst he
            have hbw := hb.trans (hb2.mono hb.size)
            have hc2 := (hb2.cell (p := ⟨b, o + k, none⟩) hbl).trans hc
            clear hc
            go_wp2
            go_roundw
            case rel => exact ⟨k + 1, by omega, by rw [HG.out], by go_num, hbw⟩
            case measure => simp [intOf]; omega
        · by_cases hq : g ≤ R
          · have HG := hid (show gst l f g (k + 1) = true by rw [HS]; simp [hq])
            clear HS
            go_wp2_with fail
            refine (srun_any (some ⟨b, o, none⟩) _ c _ _ HKL.out hst (by rw [HKL.out]; omega)).mono ?_
            rintro e w2 ⟨he, hb2⟩
            rw [HR.out] at he
            subst he
            have hbw := hb.trans (hb2.mono hb.size)
            have hc2 := (hb2.cell (p := ⟨b, o + k, none⟩) hbl).trans hc
            clear hc
            go_wp2
            go_roundw
            case rel => exact ⟨k + 1, by omega, by rw [HG.out], by go_num, hbw⟩
            case measure => simp [intOf]; omega
          · have HG := hid (show gst l f g (k + 1) = true by rw [HS]; simp [hq])
            clear HS
            go_wp2_with fail
            refine (srun_any (some ⟨b, o, none⟩) _ c _ _ HKL.out hst (by rw [HKL.out]; omega)).mono ?_
            rintro e w2 ⟨he, hb2⟩
            rw [HR.out] at he
            subst he
            have hbw := hb.trans (hb2.mono hb.size)
            have hc2 := (hb2.cell (p := ⟨b, o + k, none⟩) hbl).trans hc
            clear hc
            go_wp2
            go_roundw
            case rel => exact ⟨k + 1, by omega, by rw [HG.out], by go_num, hbw⟩
            case measure => simp [intOf]; omega
    · have hi : ¬ (k : Int) < (l.length : Int) := by omega
      have hke : k = l.length := by omega
      have HG := hid (show gst l f g k = gst l f g l.length by rw [hke])
      clear hke
      go_wp2
      go_ret
      exact ⟨ret_bool HG.out, hb⟩

set_option maxHeartbeats 1000000 in
theorem sIsGood_any (A : Option Addr) (n c : Nat) (l : List Bool) (f g : Int) (w : World) (hl : l.length = n) (h : Sees w w.heap.size A (boos l)) (hcap : l.length ≤ c) :
    Calls Try.prog 13 #[.slice A n c, .int .i64 f, .int .i64 g] w fun e w' => e = .returned (.bool (goodB l f g)) ∧ Below w.heap.size w w' := by
  subst hl
  rcases hv : chkB l f g with _ | _
  · have HV := hid hv
    have E0 := hid (good_no hv)
    clear hv
    go_enter Try.func13, Try.ntmps13
    go_wp2_with fail
    refine (svalidChecks_any A l.length c l f g _ rfl).mono ?_
    rintro e w' ⟨he, rfl⟩
    rw [HV.out] at he
    subst he
    go_wp2
    go_ret
    exact ⟨ret_bool (by rw [E0.out]), Below.refl _ _⟩
  · have HV := hid hv
    have E0 := good_yes hv
    have h12 := (chkB_iff.1 hv).1
    obtain ⟨G, hG⟩ : ∃ G, G = gst l f g l.length := ⟨_, rfl⟩
    rw [← hG] at E0
    have HG : Hid (gst l f g l.length = G) := hid hG.symm
    have HE0 := hid E0
    clear hv hG E0
    go_enter Try.func13, Try.ntmps13
    go_wp2_with fail
    refine (svalidChecks_any A l.length c l f g _ rfl).mono ?_
    rintro e w' ⟨he, rfl⟩
    rw [HV.out] at he
    subst he
    go_wp2_with fail
    refine (sgoodAfter_any A _ c l f g _ rfl h hcap h12).mono ?_
    rintro e w2 ⟨he, hb⟩
    rw [HG.out] at he
    subst he
    go_wp2
    go_ret
    exact ⟨ret_bool (by rw [HE0.out]), hb⟩

theorem cnt_step {l : List Bool} {k : Nat} (h : k < l.length) : ((cnt (l.take (k + 1)) : Nat) : Int) = (cnt (l.take k) : Nat) + bit l[k] := by
  rw [List.take_succ_eq_append_getElem h, cnt_snoc]
  unfold bit
  split <;> simp_all
end Go.Proofs.Ythghmpcfiakjgab

/-
  What the program's IsGood, GoodPath and GoodShare answer. Condition: the list lies in memory.
-/
import Derived.Test.YthghmpcfiakjgabChkA
import Derived.Test.YthghmpcfiakjgabOwnI
namespace Go.Proofs.Ythghmpcfiakjgab
open Go.RowKit Chk

theorem good_no {l : List Bool} {f g : Int} (h : chkB l f g = false) : goodB l f g = false := by unfold goodB; rw [h]; rfl
theorem good_yes {l : List Bool} {f g : Int} (h : chkB l f g = true) : goodB l f g = gst l f g l.length := by unfold goodB; rw [h]; rfl
theorem gst_step {l : List Bool} {f g : Int} {k : Nat} (h : k < l.length) : gst l f g (k + 1) = if l[k] = true then (if g ≤ run (l.take (k + 1)) then true else gst l f g k) else (if f ≤ run (l.take (k + 1)) then false else gst l f g k) := by
  have e : l.getD k false = l[k] := by simp [List.getD_eq_getElem?_getD, h]
  conv => lhs; unfold gst
  rw [e]
theorem last_take {l : List Bool} {k : Nat} (h : l.length ≤ 12) : lastRun (l.take k) = run (l.take k) := by
  unfold lastRun
  rw [if_pos (by rw [List.length_take]; omega)]

set_option maxHeartbeats 4000000 in
theorem iIsGood_any (A : Option Addr) (n c : Nat) (l : List Bool) (f g : Int) (w : World) {B : Nat} (hl : l.length = n) (h : Sees w B A (boos l)) (hcap : l.length ≤ c) (hn : l.length ≤ 4194304) :
    Calls Try.prog 12 #[.slice A n c, .int .i64 f, .int .i64 g] w fun e w' => e = .returned (.bool (goodB l f g)) ∧ w = w' := by
  subst hl
  rcases hv : chkB l f g with _ | _
  · have HV := hid hv
    have E0 := hid (good_no hv)
    clear hv
    go_enter Try.func12, Try.ntmps12
    go_wp2_with fail
    refine (ivalidChecks_any A l.length c l f g _ rfl).mono ?_
    rintro e w' ⟨he, rfl⟩
    rw [HV.out] at he
    subst he
    go_wp2
    go_ret
    exact ⟨ret_bool (by rw [E0.out]), rfl⟩
  · have HV := hid hv
    have E0 := hid (good_yes hv)
    have h12 := (chkB_iff.1 hv).1
    clear hv
    go_enter Try.func12, Try.ntmps12
    go_wp2_with fail
    refine (ivalidChecks_any A l.length c l f g _ rfl).mono ?_
    rintro e w' ⟨he, rfl⟩
    rw [HV.out] at he
    subst he
    go_wp2
    go_loop [7, 18] (fun v i => ∃ k : Nat, k ≤ l.length ∧ v = .bool (gst l f g k) ∧ i = .int .i64 k) (fun _ i => l.length - (intOf i).toNat)
    case atStart => exact ⟨0, Nat.zero_le _, rfl, rfl⟩
    case round =>
      obtain ⟨k, hk, rfl, rfl⟩ := hrel
      by_cases hlt : k < l.length
      · have hi : (k : Int) < (l.length : Int) := by omega
        have hk1 : (k : Int) + 1 ≤ (l.length : Int) := by omega
        have hk2 : (l.length : Int) ≤ (c : Int) := by omega
        have hk3 : (k : Int) + 1 ≤ 12 := by omega
        have hk0 : (0 : Int) ≤ (k : Int) + 1 := by omega
        obtain ⟨b, o, rfl, _, hc⟩ := h.boo hlt
        have hst := h.btake (k + 1)
        have HKL := hid (show (l.take (k + 1)).length = k + 1 by rw [List.length_take]; omega)
        have HS := gst_step (f := f) (g := g) hlt
        have HR := last_take (k := k + 1) h12
        obtain ⟨x, hx⟩ : ∃ x, x = l[k] := ⟨_, rfl⟩
        rw [← hx] at hc HS
        obtain ⟨G, hG⟩ : ∃ G, G = gst l f g k := ⟨_, rfl⟩
        rw [← hG] at HS ⊢
        obtain ⟨R, hR⟩ : ∃ R : Int, R = run (l.take (k + 1)) := ⟨_, rfl⟩
        rw [← hR] at HS HR
        have HRR := hid HR
        clear hx hG hR HR
        cases x
        · by_cases hq : f ≤ R
          · have HG := hid (show gst l f g (k + 1) = false by rw [HS]; simp [hq])
            clear HS
            go_wp2_with fail
            refine (iLastRun_any (some ⟨b, o, none⟩) _ c _ _ HKL.out hst (by rw [HKL.out]; omega)).mono ?_
            rintro e w' ⟨he, rfl⟩
            rw [HRR.out] at he
            subst he
            go_wp2
            go_round
            case rel => exact ⟨k + 1, by omega, by rw [HG.out], by go_num⟩
            case measure => simp [intOf]; omega
          · have HG := hid (show gst l f g (k + 1) = G by rw [HS]; simp [hq])
            clear HS
            go_wp2_with fail
            refine (iLastRun_any (some ⟨b, o, none⟩) _ c _ _ HKL.out hst (by rw [HKL.out]; omega)).mono ?_
            rintro e w' ⟨he, rfl⟩
            rw [HRR.out] at he
            subst he
            go_wp2
            go_round
            case rel => exact ⟨k + 1, by omega, by rw [HG.out], by go_num⟩
            case measure => simp [intOf]; omega
        · by_cases hq : g ≤ R
          · have HG := hid (show gst l f g (k + 1) = true by rw [HS]; simp [hq])
            clear HS
            go_wp2_with fail
            refine (iLastRun_any (some ⟨b, o, none⟩) _ c _ _ HKL.out hst (by rw [HKL.out]; omega)).mono ?_
            rintro e w' ⟨he, rfl⟩
            rw [HRR.out] at he
            subst he
            go_wp2
            go_round
            case rel => exact ⟨k + 1, by omega, by rw [HG.out], by go_num⟩
            case measure => simp [intOf]; omega
          · have HG := hid (show gst l f g (k + 1) = G by rw [HS]; simp [hq])
            clear HS
            go_wp2_with fail
            refine (iLastRun_any (some ⟨b, o, none⟩) _ c _ _ HKL.out hst (by rw [HKL.out]; omega)).mono ?_
            rintro e w' ⟨he, rfl⟩
            rw [HRR.out] at he
            subst he
            go_wp2
            go_round
            case rel => exact ⟨k + 1, by omega, by rw [HG.out], by go_num⟩
            case measure => simp [intOf]; omega
      · have hi : ¬ (k : Int) < (l.length : Int) := by omega
        have hke : k = l.length := by omega
        have HG := hid (show gst l f g k = goodB l f g by rw [hke, E0.out])
        clear hke
        go_wp2
        go_ret
        exact ⟨ret_bool HG.out, rfl⟩

end Go.Proofs.Ythghmpcfiakjgab

/-
  The walk of the law FnResetPlan: at every code it returns true and changes nothing that was there. Conditions: none.
-/
import Derived.Test.YtindbplgbfjjcabLawSt
import Derived.Test.YtindbplgbfjjcabLawFrame
import Derived.BigQuiet

namespace Go.Proofs.Ytindbplgbfjjcab
open Go.RowKit Stt

set_option maxHeartbeats 8000000 in
theorem walkResetPlan (a : Option Addr) (len cap : Nat) (zs : List Int) (w : World) (hn : zs.length = len) (hc : len ≤ cap) (hcc : cap ≤ maxLen) (h : Sees w w.heap.size a (byts zs)) (hz : ∀ y ∈ zs, 0 ≤ y ∧ y ≤ 255) :
    Calls Try.prog 5 #[.slice a len cap] w fun e w' => e = .returned (.bool true) ∧ Below w.heap.size w w' := by
  have HE := hid hn
  have HC := hid hcc
  have HZ := hid hz
  clear hn hcc hz
  by_cases hbig : 1048576 < len
  · go_enter Try.func5, Try.ntmps5
    go_wp2
    go_ret
    exact ⟨rfl, Below.refl _ _⟩
  · go_enter Try.func5, Try.ntmps5
    go_wp2_with fail
    refine (drawResetPlan_any _ _ _ _ _ h HZ.out HE.out hc (by omega) HC.out).mono ?_
    rintro e w1 ⟨A, c, l, B, d, m, rfl, dl⟩
    obtain ⟨_, _, _, hl17, hlc, hm17, hmc, hcm⟩ := id dl
    unfold maxLen at hcm
    have HTL := hid (planL_len l m)
    obtain ⟨T, hT⟩ : ∃ T, T = planL l m := ⟨_, rfl⟩
    have ET : Hid (planL l m = T) := hid hT.symm
    rw [← hT] at HTL
    have HTN := hid (show T.length ≤ 4194304 by have := HTL.out; omega)
    have HT := hid hT
    clear hT
    rcases hv1 : setsB l with _ | _
    · skip
      have HV := hid hv1
      clear hv1
      go_wp2_with fail
      refine (iResetPlan_any A B c d l m _ dl.s1 dl.s2 dl.n1 dl.n2).mono ?_
      rintro e w2 ⟨v1, rfl, ho1, hb⟩
      rw [ET.out] at ho1
      replace dl := dl.below hb
      clear hb
      obtain ⟨A1, c1, rfl, hc1, hcm1, _⟩ := ho1.form
      go_wp2_with fail
      refine (sResetPlan_any A B c d l m _ dl.s1 dl.s2 dl.n1 dl.n2).mono ?_
      rintro e w2 ⟨v2, rfl, ho2, hb⟩
      rw [ET.out] at ho2
      replace dl := dl.below hb
      replace ho1 := ho1.below hb
      clear hb
      obtain ⟨A2, c2, rfl, hc2, hcm2, _⟩ := ho2.form
      go_wp2_with fail
      refine (equalSettings_same A1 A2 c1 c2 T _ ho1.sees ho2.sees HTN.out).mono ?_
      rintro e w2 ⟨rfl, hb⟩
      replace dl := dl.below hb
      replace ho1 := ho1.below hb
      replace ho2 := ho2.below hb
      clear hb
      clear ho2
      go_wp2_with fail
      refine (iValidSettings_any A c l _ dl.s1 dl.n1).mono ?_
      rintro e w2 ⟨he, hb⟩
      rw [HV.out] at he
      subst he
      replace dl := dl.below hb
      replace ho1 := ho1.below hb
      clear hb
      go_wp2_with fail
      refine (sResetPlan_any A B c d l m _ dl.s1 dl.s2 dl.n1 dl.n2).mono ?_
      rintro e w2 ⟨v3, rfl, ho3, hb⟩
      rw [ET.out] at ho3
      replace dl := dl.below hb
      replace ho1 := ho1.below hb
      clear hb
      obtain ⟨A3, c3, rfl, hc3, hcm3, _⟩ := ho3.form
      go_wp2_with fail
      refine (equalSettings_same A1 A3 c1 c3 T _ ho1.sees ho3.sees HTN.out).mono ?_
      rintro e w2 ⟨rfl, hb⟩
      replace dl := dl.below hb
      replace ho1 := ho1.below hb
      replace ho3 := ho3.below hb
      clear hb
      go_wp2
      go_ret
      exact ⟨by simp, dl.bel⟩
    rcases hv2 : setsB m with _ | _
    · skip
      have HV := hid hv1
      have HV2 := hid hv2
      clear hv1 hv2
      go_wp2_with fail
      refine (iResetPlan_any A B c d l m _ dl.s1 dl.s2 dl.n1 dl.n2).mono ?_
      rintro e w2 ⟨v1, rfl, ho1, hb⟩
      rw [ET.out] at ho1
      replace dl := dl.below hb
      clear hb
      obtain ⟨A1, c1, rfl, hc1, hcm1, _⟩ := ho1.form
      go_wp2_with fail
      refine (sResetPlan_any A B c d l m _ dl.s1 dl.s2 dl.n1 dl.n2).mono ?_
      rintro e w2 ⟨v2, rfl, ho2, hb⟩
      rw [ET.out] at ho2
      replace dl := dl.below hb
      replace ho1 := ho1.below hb
      clear hb
      obtain ⟨A2, c2, rfl, hc2, hcm2, _⟩ := ho2.form
      go_wp2_with fail
      refine (equalSettings_same A1 A2 c1 c2 T _ ho1.sees ho2.sees HTN.out).mono ?_
      rintro e w2 ⟨rfl, hb⟩
      replace dl := dl.below hb
      replace ho1 := ho1.below hb
      replace ho2 := ho2.below hb
      clear hb
      clear ho2
      go_wp2_with fail
      refine (iValidSettings_any A c l _ dl.s1 dl.n1).mono ?_
      rintro e w2 ⟨he, hb⟩
      rw [HV.out] at he
      subst he
      replace dl := dl.below hb
      replace ho1 := ho1.below hb
      clear hb
      go_wp2_with fail
      refine (iValidSettings_any B d m _ dl.s2 dl.n2).mono ?_
      rintro e w2 ⟨he, hb⟩
      rw [HV2.out] at he
      subst he
      replace dl := dl.below hb
      replace ho1 := ho1.below hb
      clear hb
      go_wp2_with fail
      refine (sResetPlan_any A B c d l m _ dl.s1 dl.s2 dl.n1 dl.n2).mono ?_
      rintro e w2 ⟨v3, rfl, ho3, hb⟩
      rw [ET.out] at ho3
      replace dl := dl.below hb
      replace ho1 := ho1.below hb
      clear hb
      obtain ⟨A3, c3, rfl, hc3, hcm3, _⟩ := ho3.form
      go_wp2_with fail
      refine (equalSettings_same A1 A3 c1 c3 T _ ho1.sees ho3.sees HTN.out).mono ?_
      rintro e w2 ⟨rfl, hb⟩
      replace dl := dl.below hb
      replace ho1 := ho1.below hb
      replace ho3 := ho3.below hb
      clear hb
      go_wp2
      go_ret
      exact ⟨by simp, dl.bel⟩
    · skip
      have HV := hid hv1
      have HV2 := hid hv2
      have HB := hid (plan_apply hv1 hv2).1
      have HL := hid (plan_apply hv1 hv2).2
      have hmost := planL_most hv1 hv2
      rw [ET.out] at HB HL hmost
      clear hv1 hv2
      go_wp2_with fail
      refine (iResetPlan_any A B c d l m _ dl.s1 dl.s2 dl.n1 dl.n2).mono ?_
      rintro e w2 ⟨v1, rfl, ho1, hb⟩
      rw [ET.out] at ho1
      replace dl := dl.below hb
      clear hb
      obtain ⟨A1, c1, rfl, hc1, hcm1, _⟩ := ho1.form
      go_wp2_with fail
      refine (sResetPlan_any A B c d l m _ dl.s1 dl.s2 dl.n1 dl.n2).mono ?_
      rintro e w2 ⟨v2, rfl, ho2, hb⟩
      rw [ET.out] at ho2
      replace dl := dl.below hb
      replace ho1 := ho1.below hb
      clear hb
      obtain ⟨A2, c2, rfl, hc2, hcm2, _⟩ := ho2.form
      go_wp2_with fail
      refine (equalSettings_same A1 A2 c1 c2 T _ ho1.sees ho2.sees HTN.out).mono ?_
      rintro e w2 ⟨rfl, hb⟩
      replace dl := dl.below hb
      replace ho1 := ho1.below hb
      replace ho2 := ho2.below hb
      clear hb
      clear ho2
      go_wp2_with fail
      refine (iValidSettings_any A c l _ dl.s1 dl.n1).mono ?_
      rintro e w2 ⟨he, hb⟩
      rw [HV.out] at he
      subst he
      replace dl := dl.below hb
      replace ho1 := ho1.below hb
      clear hb
      go_wp2_with fail
      refine (iValidSettings_any B d m _ dl.s2 dl.n2).mono ?_
      rintro e w2 ⟨he, hb⟩
      rw [HV2.out] at he
      subst he
      replace dl := dl.below hb
      replace ho1 := ho1.below hb
      clear hb
      go_wp2_with fail
      refine (iApplySettings_len rfl rfl dl.s1 ho1.sees dl.n1 HTN.out).mono ?_
      rintro e w2 ⟨v3, he, ho3, hb⟩
      rw [HL.out] at ho3
      rw [HB.out] at he
      subst he
      replace dl := dl.below hb
      replace ho1 := ho1.below hb
      clear hb
      obtain ⟨A3, c3, rfl, hc3, hcm3, _⟩ := ho3.form
      go_wp2_with fail
      refine (equalSettings_same A3 B c3 d m _ ho3.sees dl.s2 dl.n2).mono ?_
      rintro e w2 ⟨rfl, hb⟩
      replace dl := dl.below hb
      replace ho1 := ho1.below hb
      replace ho3 := ho3.below hb
      clear hb
      have hw : IntKind.i64.wrap ((l.length : Int) + (m.length : Int)) = (l.length : Int) + (m.length : Int) := by rw [IntKind.wrap_i64]; omega
      have hmi : (T.length : Int) ≤ (l.length : Int) + (m.length : Int) := by omega
      go_wp2
      go_ret
      exact ⟨by simp, dl.bel⟩
end Go.Proofs.Ytindbplgbfjjcab

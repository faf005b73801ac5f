/-
  The walk of the law FnApplySettingsNone: at every code it returns true and changes nothing that was there. Conditions: none.
-/
import Derived.Test.YtindbplgbfjjcabLawSt
import Derived.Test.YtindbplgbfjjcabLawFrame
import Derived.BigQuiet

namespace Go.Proofs.Ytindbplgbfjjcab
open Go.RowKit Stt

set_option maxHeartbeats 8000000 in
theorem walkApplySettingsNone (a : Option Addr) (len cap : Nat) (zs : List Int) (w : World) (hn : zs.length = len) (hc : len ≤ cap) (hcc : cap ≤ maxLen) (h : Sees w w.heap.size a (byts zs)) (hz : ∀ y ∈ zs, 0 ≤ y ∧ y ≤ 255) :
    Calls Try.prog 4 #[.slice a len cap] w fun e w' => e = .returned (.bool true) ∧ Below w.heap.size w w' := by
  have HE := hid hn
  have HC := hid hcc
  have HZ := hid hz
  clear hn hcc hz
  by_cases hbig : 1048576 < len
  · go_enter Try.func4, Try.ntmps4
    go_wp2
    go_ret
    exact ⟨rfl, Below.refl _ _⟩
  · go_enter Try.func4, Try.ntmps4
    go_wp2_with fail
    refine (drawApplySettings_any _ _ _ _ _ h HZ.out HE.out hc (by omega) HC.out).mono ?_
    rintro e w1 ⟨A, c, l, B, d, m, rfl, dl⟩
    obtain ⟨_, _, _, hl17, hlc, hm17, hmc, hcm⟩ := id dl
    unfold maxLen at hcm
    have HTL := hid (applyL_len l m)
    have HVT := hid (fun hh => apply_valid (l := l) (cs := m) hh)
    obtain ⟨T, hT⟩ : ∃ T, T = applyL l m := ⟨_, rfl⟩
    have ET : Hid (applyL l m = T) := hid hT.symm
    rw [← hT] at HTL
    rw [← hT] at HVT
    have HTN := hid (show T.length ≤ 4194304 by have := HTL.out; omega)
    have HT := hid hT
    clear hT
    obtain ⟨K, hK⟩ : ∃ K, K = applyB l m := ⟨_, rfl⟩
    have EK : Hid (applyB l m = K) := hid hK.symm
    clear hK
    rcases hv : setsB l with _ | _
    · skip
      have HV := hid hv
      clear hv
      go_wp2_with fail
      refine (iApplySettings_any A B c d l m _ dl.s1 dl.s2 dl.n1 dl.n2).mono ?_
      rintro e w2 ⟨v1, he, ho1, hb⟩
      rw [ET.out] at ho1
      rw [EK.out] at he
      subst he
      replace dl := dl.below hb
      clear hb
      obtain ⟨A1, c1, rfl, hc1, hcm1, _⟩ := ho1.form
      go_wp2_with fail
      refine (sApplySettings_any A B c d l m _ dl.s1 dl.s2 dl.n1 dl.n2).mono ?_
      rintro e w2 ⟨v2, he, ho2, hb⟩
      rw [ET.out] at ho2
      rw [EK.out] at he
      subst he
      replace dl := dl.below hb
      replace ho1 := ho1.below hb
      clear hb
      obtain ⟨A2, c2, rfl, hc2, hcm2, _⟩ := ho2.form
      go_wp2_with fail
      refine (equalSettings_same A1 A2 c1 c2 T _ ho1.sees ho2.sees HTN.out).mono ?_
      rintro e w2 ⟨rfl, hb⟩
      replace dl := dl.below hb
      replace ho1 := ho1.below hb
      replace ho2 := ho2.below hb
      clear hb
      go_wp2_with fail
      refine (iValidSettings_any A c l _ dl.s1 dl.n1).mono ?_
      rintro e w2 ⟨he, hb⟩
      rw [HV.out] at he
      subst he
      replace dl := dl.below hb
      replace ho1 := ho1.below hb
      replace ho2 := ho2.below hb
      clear hb
      go_wp2_with fail
      refine (equalSettings_same A1 A2 c1 c2 T _ ho1.sees ho2.sees HTN.out).mono ?_
      rintro e w2 ⟨rfl, hb⟩
      replace dl := dl.below hb
      replace ho1 := ho1.below hb
      replace ho2 := ho2.below hb
      clear hb
      go_wp2
      go_ret
      exact ⟨by simp, dl.bel⟩
    · skip
      have HV := hid hv
      have HB := hid (apply_none hv).1
      have HL := hid (apply_none hv).2
      clear hv
      go_wp2_with fail
      refine (iApplySettings_any A B c d l m _ dl.s1 dl.s2 dl.n1 dl.n2).mono ?_
      rintro e w2 ⟨v1, he, ho1, hb⟩
      rw [ET.out] at ho1
      rw [EK.out] at he
      subst he
      replace dl := dl.below hb
      clear hb
      obtain ⟨A1, c1, rfl, hc1, hcm1, _⟩ := ho1.form
      go_wp2_with fail
      refine (sApplySettings_any A B c d l m _ dl.s1 dl.s2 dl.n1 dl.n2).mono ?_
      rintro e w2 ⟨v2, he, ho2, hb⟩
      rw [ET.out] at ho2
      rw [EK.out] at he
      subst he
      replace dl := dl.below hb
      replace ho1 := ho1.below hb
      clear hb
      obtain ⟨A2, c2, rfl, hc2, hcm2, _⟩ := ho2.form
      go_wp2_with fail
      refine (equalSettings_same A1 A2 c1 c2 T _ ho1.sees ho2.sees HTN.out).mono ?_
      rintro e w2 ⟨rfl, hb⟩
      replace dl := dl.below hb
      replace ho1 := ho1.below hb
      replace ho2 := ho2.below hb
      clear hb
      go_wp2_with fail
      refine (iValidSettings_any A c l _ dl.s1 dl.n1).mono ?_
      rintro e w2 ⟨he, hb⟩
      rw [HV.out] at he
      subst he
      replace dl := dl.below hb
      replace ho1 := ho1.below hb
      replace ho2 := ho2.below hb
      clear hb
      clear ho1
      clear ho2
      go_wp2_with fail
      refine (iApplySettings_len (n2 := 0) (cs := []) rfl rfl dl.s1 Sees.nil dl.n1 (by simp)).mono ?_
      rintro e w2 ⟨v3, he, ho3, hb⟩
      rw [HL.out] at ho3
      rw [HB.out] at he
      subst he
      replace dl := dl.below hb
      clear hb
      obtain ⟨A3, c3, rfl, hc3, hcm3, _⟩ := ho3.form
      go_wp2_with fail
      refine (equalSettings_same A3 A c3 c l _ ho3.sees dl.s1 dl.n1).mono ?_
      rintro e w2 ⟨rfl, hb⟩
      replace dl := dl.below hb
      replace ho3 := ho3.below hb
      clear hb
      go_wp2
      go_ret
      exact ⟨by simp, dl.bel⟩
end Go.Proofs.Ytindbplgbfjjcab

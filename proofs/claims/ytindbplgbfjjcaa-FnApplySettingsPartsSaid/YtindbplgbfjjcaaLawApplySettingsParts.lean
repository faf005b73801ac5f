/-
  The walk of the law FnApplySettingsParts: at every code it returns true and changes nothing that was there. Conditions: none.
-/
import Derived.Test.YtindbplgbfjjcaaLawSt
import Derived.Test.YtindbplgbfjjcaaLawFrame
import Derived.BigQuiet

namespace Go.Proofs.Ytindbplgbfjjcaa
open Go.RowKit Stt

set_option maxHeartbeats 8000000 in
theorem walkApplySettingsParts (a : Option Addr) (len cap : Nat) (zs : List Int) (w : World) (hn : zs.length = len) (hc : len ≤ cap) (hcc : cap ≤ maxLen) (h : Sees w w.heap.size a (byts zs)) (hz : ∀ y ∈ zs, 0 ≤ y ∧ y ≤ 255) :
    Calls Try.prog 9 #[.slice a len cap] w fun e w' => e = .returned (.bool true) ∧ Below w.heap.size w w' := by
  have HE := hid hn
  have HC := hid hcc
  have HZ := hid hz
  clear hn hcc hz
  by_cases hbig : 1048576 < len
  · go_enter Try.func9, Try.ntmps9
    go_wp2
    go_ret
    exact ⟨rfl, Below.refl _ _⟩
  · go_enter Try.func9, Try.ntmps9
    go_wp2_with fail
    refine (drawApplySettings_any _ _ _ _ _ h HZ.out HE.out hc (by omega) HC.out).mono ?_
    rintro e w1 ⟨A, c, l, B, d, m, rfl, dl⟩
    obtain ⟨_, _, _, hl17, hlc, hm17, hmc, hcm⟩ := id dl
    unfold maxLen at hcm
    have HTL := hid (applyL_len l m)
    have HVT := hid (fun hh => apply_valid (l := l) (cs := m) hh)
    obtain ⟨T, hT⟩ : ∃ T, T = applyL l m := ⟨_, rfl⟩
    have ET : Hid (applyL l m = T) := hid hT.symm
    rw [← hT] at HTL
    rw [← hT] at HVT
    have HTN := hid (show T.length ≤ 4194304 by have := HTL.out; omega)
    have HT := hid hT
    clear hT
    rcases hk : applyB l m with _ | _
    · skip
      have EK := hid hk
      clear hk
      go_wp2_with fail
      refine (iApplySettings_any A B c d l m _ dl.s1 dl.s2 dl.n1 dl.n2).mono ?_
      rintro e w2 ⟨v1, he, ho1, hb⟩
      rw [ET.out] at ho1
      rw [EK.out] at he
      subst he
      replace dl := dl.below hb
      clear hb
      obtain ⟨A1, c1, rfl, hc1, hcm1, _⟩ := ho1.form
      go_wp2_with fail
      refine (sApplySettings_any A B c d l m _ dl.s1 dl.s2 dl.n1 dl.n2).mono ?_
      rintro e w2 ⟨v2, he, ho2, hb⟩
      rw [ET.out] at ho2
      rw [EK.out] at he
      subst he
      replace dl := dl.below hb
      replace ho1 := ho1.below hb
      clear hb
      obtain ⟨A2, c2, rfl, hc2, hcm2, _⟩ := ho2.form
      go_wp2_with fail
      refine (equalSettings_same A1 A2 c1 c2 T _ ho1.sees ho2.sees HTN.out).mono ?_
      rintro e w2 ⟨rfl, hb⟩
      replace dl := dl.below hb
      replace ho1 := ho1.below hb
      replace ho2 := ho2.below hb
      clear hb
      go_wp2_with fail
      refine (equalSettings_same A1 A2 c1 c2 T _ ho1.sees ho2.sees HTN.out).mono ?_
      rintro e w2 ⟨rfl, hb⟩
      replace dl := dl.below hb
      replace ho1 := ho1.below hb
      replace ho2 := ho2.below hb
      clear hb
      go_wp2
      go_ret
      exact ⟨by simp, dl.bel⟩
    · skip
      have EK := hid hk
      have HP := hid (fun k => apply_parts hk k)
      clear hk
      go_wp2_with fail
      refine (iApplySettings_any A B c d l m _ dl.s1 dl.s2 dl.n1 dl.n2).mono ?_
      rintro e w2 ⟨v1, he, ho1, hb⟩
      rw [ET.out] at ho1
      rw [EK.out] at he
      subst he
      replace dl := dl.below hb
      clear hb
      obtain ⟨A1, c1, rfl, hc1, hcm1, _⟩ := ho1.form
      go_wp2_with fail
      refine (sApplySettings_any A B c d l m _ dl.s1 dl.s2 dl.n1 dl.n2).mono ?_
      rintro e w2 ⟨v2, he, ho2, hb⟩
      rw [ET.out] at ho2
      rw [EK.out] at he
      subst he
      replace dl := dl.below hb
      replace ho1 := ho1.below hb
      clear hb
      obtain ⟨A2, c2, rfl, hc2, hcm2, _⟩ := ho2.form
      go_wp2_with fail
      refine (equalSettings_same A1 A2 c1 c2 T _ ho1.sees ho2.sees HTN.out).mono ?_
      rintro e w2 ⟨rfl, hb⟩
      replace dl := dl.below hb
      replace ho1 := ho1.below hb
      replace ho2 := ho2.below hb
      clear hb
      by_cases hm0 : m.length = 0
      · skip
        have hmb : ((m.length : Int) == 0) = true := by simpa using hm0
        have HM0 := hid hm0
        clear hm0
        go_wp2_with fail
        refine (equalSettings_same A1 A2 c1 c2 T _ ho1.sees ho2.sees HTN.out).mono ?_
        rintro e w2 ⟨rfl, hb⟩
        replace dl := dl.below hb
        replace ho1 := ho1.below hb
        replace ho2 := ho2.below hb
        clear hb
        go_wp2
        go_ret
        exact ⟨by simp, dl.bel⟩
      · skip
        have hmb : ((m.length : Int) == 0) = false := beq_eq_false_iff_ne.2 (by omega)
        obtain ⟨n, hn⟩ : ∃ n, m.length = n + 1 := ⟨m.length - 1, by omega⟩
        obtain ⟨q1, q2, q3⟩ := HP.out n
        have Q1 := hid q1
        have Q2 := hid q2
        have Q3 := hid q3
        clear q1 q2 q3 hm0
        have HPL := hid (applyL_len l (m.take n))
        obtain ⟨S, hS⟩ : ∃ S, S = applyL l (m.take n) := ⟨_, rfl⟩
        have ES : Hid (applyL l (m.take n) = S) := hid hS.symm
        rw [← hS] at Q2 Q3 HPL
        clear hS
        rw [ET.out] at Q3
        have HSN := hid (show S.length ≤ 4194304 by have := HPL.out; omega)
        have HD := hid (show (m.drop n).length = m.length - n from List.length_drop)
        have HTK := hid (show (m.take n).length = n by rw [List.length_take]; omega)
        have hs2 := dl.s2
        obtain ⟨b, o, rfl, hbl, f0, f1⟩ := hs2.stg (show n < m.length by omega)
        clear f0 f1 hs2 hbl
        have hw1 : IntKind.i64.wrap ((m.length : Int) - 1) = (m.length : Int) - 1 := by rw [IntKind.wrap_i64]; omega
        have hw2 : (m.length : Int) - 1 = (n : Int) := by omega
        have p0 : (0 : Int) ≤ (n : Int) := by omega
        have p1 : (n : Int) ≤ (d : Int) := by omega
        have p2 : (n : Int) ≤ (m.length : Int) := by omega
        have p3 : (m.length : Int) ≤ (d : Int) := by omega
        have p4 : ¬ d = n := by omega
        have p5 : ¬ n = d := by omega
        have HNN := hid hn
        clear hn
        clear ho2
        go_wp2_with fail
        refine (iApplySettings_len rfl HTK.out dl.s1 (stcl_take dl.s2 n) dl.n1 (by rw [HTK.out]; omega)).mono ?_
        rintro e w2 ⟨v3, he, ho3, hb⟩
        rw [ES.out] at ho3
        rw [Q1.out] at he
        subst he
        replace dl := dl.below hb
        replace ho1 := ho1.below hb
        clear hb
        obtain ⟨A3, c3, rfl, hc3, hcm3, _⟩ := ho3.form
        have hsD : Sees w2 w2.heap.size (some ⟨b, o + n * 2, none⟩) (strip stcl (m.drop n)) := by
          have := dl.s2.drop (k := n * 2) rfl
          rwa [← strip_drop stcl_len] at this
        go_wp2_with fail
        refine (iApplySettings_len rfl HD.out ho3.sees hsD HSN.out (by rw [HD.out]; omega)).mono ?_
        rintro e w2 ⟨v4, he, ho4, hb⟩
        rw [Q3.out] at ho4
        rw [Q2.out] at he
        subst he
        replace dl := dl.below hb
        replace ho1 := ho1.below hb
        replace ho3 := ho3.below hb
        clear hb
        obtain ⟨A4, c4, rfl, hc4, hcm4, _⟩ := ho4.form
        go_wp2_with fail
        refine (equalSettings_same A4 A1 c4 c1 T _ ho4.sees ho1.sees HTN.out).mono ?_
        rintro e w2 ⟨rfl, hb⟩
        replace dl := dl.below hb
        replace ho1 := ho1.below hb
        replace ho3 := ho3.below hb
        replace ho4 := ho4.below hb
        clear hb
        go_wp2
        go_ret
        exact ⟨by simp, dl.bel⟩
end Go.Proofs.Ytindbplgbfjjcaa

/-
  The walk of the law FnResetPlanShort: at every code it returns true and changes nothing that was there. Conditions: none.
-/
import Derived.Test.YtindbplgbfjjcabLawSt
import Derived.Test.YtindbplgbfjjcabLawFrame
import Derived.BigQuiet
import Derived.Deep.RegionHeldLaw
namespace Go.Proofs.Ytindbplgbfjjcab
open Go.RowKit Stt

set_option maxHeartbeats 8000000 in
theorem walkResetPlanShort (a : Option Addr) (len cap : Nat) (zs : List Int) (w : World) (hn : zs.length = len) (hc : len ≤ cap) (hcc : cap ≤ maxLen) (h : Sees w w.heap.size a (byts zs)) (hz : ∀ y ∈ zs, 0 ≤ y ∧ y ≤ 255) :
    Calls Try.prog 7 #[.slice a len cap] w fun e w' => e = .returned (.bool true) ∧ Below w.heap.size w w' := by
  have HE := hid hn
  have HC := hid hcc
  have HZ := hid hz
  clear hn hcc hz
  by_cases hbig : 1048576 < len
  · go_enter Try.func7, Try.ntmps7
    go_wp2
    go_ret
    exact ⟨rfl, Below.refl _ _⟩
  · go_enter Try.func7, Try.ntmps7
    go_wp2_with fail
    refine (drawResetPlan_any _ _ _ _ _ h HZ.out HE.out hc (by omega) HC.out).mono ?_
    rintro e w1 ⟨A, c, l, B, d, m, rfl, dl⟩
    obtain ⟨_, _, _, hl17, hlc, hm17, hmc, hcm⟩ := id dl
    unfold maxLen at hcm
    have HTL := hid (planL_len l m)
    obtain ⟨T, hT⟩ : ∃ T, T = planL l m := ⟨_, rfl⟩
    have ET : Hid (planL l m = T) := hid hT.symm
    rw [← hT] at HTL
    have HTN := hid (show T.length ≤ 4194304 by have := HTL.out; omega)
    have HT := hid hT
    clear hT
    obtain ⟨i0, hi0, hz0, hz1, hz2⟩ := info_parts stgInfo
    go_wp2_with fail
    refine (iResetPlan_any A B c d l m _ dl.s1 dl.s2 dl.n1 dl.n2).mono ?_
    rintro e w2 ⟨v1, rfl, ho1, hb⟩
    rw [ET.out] at ho1
    replace dl := dl.below hb
    clear hb
    obtain ⟨A1, c1, rfl, hc1, hcm1, _⟩ := ho1.form
    go_wp2_with fail
    refine (sResetPlan_any A B c d l m _ dl.s1 dl.s2 dl.n1 dl.n2).mono ?_
    rintro e w2 ⟨v2, rfl, ho2, hb⟩
    rw [ET.out] at ho2
    replace dl := dl.below hb
    replace ho1 := ho1.below hb
    clear hb
    obtain ⟨A2, c2, rfl, hc2, hcm2, _⟩ := ho2.form
    go_wp2_with fail
    refine (equalSettings_same A1 A2 c1 c2 T _ ho1.sees ho2.sees HTN.out).mono ?_
    rintro e w2 ⟨rfl, hb⟩
    replace dl := dl.below hb
    replace ho1 := ho1.below hb
    replace ho2 := ho2.below hb
    clear hb
    clear ho2
    by_cases ht0 : T.length = 0
    · skip
      have htb : ((T.length : Int) == 0) = true := by simpa using ht0
      have HT0 := hid ht0
      clear ht0
      go_wp2_with fail
      refine (sResetPlan_any A B c d l m _ dl.s1 dl.s2 dl.n1 dl.n2).mono ?_
      rintro e w2 ⟨v3, rfl, ho3, hb⟩
      rw [ET.out] at ho3
      replace dl := dl.below hb
      replace ho1 := ho1.below hb
      clear hb
      obtain ⟨A3, c3, rfl, hc3, hcm3, _⟩ := ho3.form
      go_wp2_with fail
      refine (equalSettings_same A1 A3 c1 c3 T _ ho1.sees ho3.sees HTN.out).mono ?_
      rintro e w2 ⟨rfl, hb⟩
      replace dl := dl.below hb
      replace ho1 := ho1.below hb
      replace ho3 := ho3.below hb
      clear hb
      go_wp2
      go_ret
      exact ⟨by simp, dl.bel⟩
    · skip
      have htb : ((T.length : Int) == 0) = false := beq_eq_false_iff_ne.2 (by omega)
      have hok := planL_ok (a := l) (b := m) (by rw [ET.out]; intro e; rw [e] at ht0; exact ht0 rfl)
      have HTL2 := HTL.out
      obtain ⟨w3, hw3⟩ : ∃ w3, w3 = w2 := ⟨_, rfl⟩
      subst hw3
      obtain ⟨k, hk⟩ : ∃ k, k = len % T.length := ⟨_, rfl⟩
      have hkl : k < T.length := by rw [hk]; exact Nat.mod_lt _ (by omega)
      have hmod1 : (len : Int) % (T.length : Int) = (k : Int) := by rw [hk]; rfl
      have hmod2 : (len : Int).tmod (T.length : Int) = (k : Int) := by rw [Int.tmod_eq_emod_of_nonneg (by omega)]; exact hmod1
      clear hk
      have hps := plan_short hok.1 hok.2 (k := k) (by rw [ET.out]; exact hkl)
      rw [ET.out] at hps
      have HB := hid hps.1
      have HNE := hid (eqT_no hps.2)
      obtain ⟨S, hS⟩ : ∃ S, S = applyL l (T.take k ++ T.drop (k + 1)) := ⟨_, rfl⟩
      have ES : Hid (applyL l (T.take k ++ T.drop (k + 1)) = S) := hid hS.symm
      have HSN := hid (show S.length ≤ 4194304 by rw [hS]; have := applyL_len l (T.take k ++ T.drop (k + 1)); omega)
      rw [← hS] at HNE
      clear hS hok hps
      have hs3 := ho1.sees
      obtain ⟨b, o, rfl, hbl, e0, e1⟩ := hs3.stg hkl
      clear e0 e1
      have hsT := stcl_take hs3 k
      have HL1 := hid (show (strip stcl (T.take k)).length = k * 2 by rw [strip_len stcl_len, List.length_take, Nat.min_eq_left (by omega)])
      have HL3 := hid (show (T.take k ++ T.drop (k + 1)).length = k + (T.length - (k + 1)) by simp; omega)
      have HX5 := hid (show [] ++ strip stcl (T.take k) ++ strip stcl (T.drop (k + 1)) = strip stcl (T.take k ++ T.drop (k + 1)) by rw [strip_app]; rfl)
      have hkI : (k : Int) < (T.length : Int) := by omega
      have hkc : (k : Int) ≤ (c1 : Int) := by omega
      have hk0 : (0 : Int) ≤ (k : Int) := by omega
      have hk1c : (k : Int) + 1 ≤ (T.length : Int) := by omega
      have hlc1 : (T.length : Int) ≤ (c1 : Int) := by omega
      have hwk : IntKind.i64.wrap ((k : Int) + 1) = (k : Int) + 1 := by rw [IntKind.wrap_i64]; omega
      have HL2 := hid (show (strip stcl (T.drop (k + 1))).length = (T.length - (k + 1)) * 2 by rw [strip_len stcl_len, List.length_drop])
      by_cases hck : c1 = k + 1
      · skip
        have HD0 := hid (show strip stcl (T.drop (k + 1)) = [] by rw [List.drop_eq_nil_of_le (by omega)]; rfl)
        subst hck
        have HL5 := hid (show (T.take k ++ T.drop (k + 1)).length = k by rw [List.drop_eq_nil_of_le (by omega)]; simp; omega)
        go_wp2_with fail
        go_region_held_law (fun _ => True)
          (trivial)
          (first
            | (refine step_append_want _ (by rfl) _ _ 23 (by rfl) w3.heap.size 31 i0 (.agg #[.int .i64 0, .int .i64 0]) 2 16 Try.underlying23 hi0 hz0 hz1 hz2 rfl (by decide) (.slice (some ⟨w3.heap.size, 0, none⟩) 0 0) 0 [] (by rfl) (made_at 31 2 rfl (Nat.le_refl _)) ⟨b, o, none⟩ k (k + 1) (strip stcl (T.take k)) (by rfl) (HL1.out) (((hsT.alloc (Nat.le_refl _) _).drew).add) (stcl_one _) (by unfold maxLen; omega) (by omega) (by simp) ?_; intro v4 w4 h4 hg4; have hb4 : Below w3.heap.size w3 w4 := Below.grown (by go_grown) hg4 (by simp) (fun q hq => by injection hq with hq; exact Nat.le_of_eq hq))
            | (refine step_append_want _ (by rfl) _ _ 23 (by rfl) w3.heap.size 31 i0 (.agg #[.int .i64 0, .int .i64 0]) 2 16 Try.underlying23 hi0 hz0 hz1 hz2 rfl (by decide) v4 (0 + k) ([] ++ strip stcl (T.take k)) (by rfl) (h4) ⟨b, o, none⟩ 0 0 (strip stcl (T.drop (k + 1))) (by rfl) (by rw [HD0.out]; rfl) (by intro j u hu; rw [HD0.out] at hu; simp at hu) (stcl_one _) (by unfold maxLen; omega) (by omega) (hb4.size) ?_; intro v5 w5 h5 hg5; have hb5 : Below w3.heap.size w3 w5 := hb4.grown hg5 hb4.size (fun q hq => (h4.lt q hq).1); obtain ⟨A5, c5, hv5, hc5, _⟩ := own_form h5; subst hv5; have dl5 := dl.below hb5)
            | (go_at_call 11; (with_reducible refine (iApplySettings_len (cs := T.take k ++ T.drop (k + 1)) rfl HL5.out dl5.s1 (by have hh := Sees.of_own h5; rw [HX5.out] at hh; exact hh) dl.n1 (by rw [HL5.out]; omega)).mono ?_); rintro e w6 ⟨v6, he, ho6, hbx⟩; rw [HB.out] at he; rw [ES.out] at ho6; subst he; obtain ⟨A6, c6, rfl, _⟩ := ho6.form; have dl6 := dl5.below hbx)
            | fail)
        all_goals
          go_wp2_with fail
          refine (equalSettings_any A6 B c6 d S m _ ho6.sees dl6.s2 HSN.out).mono ?_
          rintro e w7 ⟨he, hb7⟩
          rw [HNE.out] at he
          subst he
          go_wp2
          go_ret
          exact ⟨by simp, (dl6.below hb7).bel⟩
      · skip
        have hsD : Sees w3 w3.heap.size (some ⟨b, o + (k + 1) * 2, none⟩) (strip stcl (T.drop (k + 1))) := by
          have := hs3.drop (k := (k + 1) * 2) rfl
          rwa [← strip_drop stcl_len] at this
        go_wp2_with fail
        go_region_held_law (fun _ => True)
          (trivial)
          (first
            | (refine step_append_want _ (by rfl) _ _ 23 (by rfl) w3.heap.size 31 i0 (.agg #[.int .i64 0, .int .i64 0]) 2 16 Try.underlying23 hi0 hz0 hz1 hz2 rfl (by decide) (.slice (some ⟨w3.heap.size, 0, none⟩) 0 0) 0 [] (by rfl) (made_at 31 2 rfl (Nat.le_refl _)) ⟨b, o, none⟩ k c1 (strip stcl (T.take k)) (by rfl) (HL1.out) (((hsT.alloc (Nat.le_refl _) _).drew).add) (stcl_one _) (by unfold maxLen; omega) (by omega) (by simp) ?_; intro v4 w4 h4 hg4; have hb4 : Below w3.heap.size w3 w4 := Below.grown (by go_grown) hg4 (by simp) (fun q hq => by injection hq with hq; exact Nat.le_of_eq hq))
            | (refine step_append_want _ (by rfl) _ _ 23 (by rfl) w3.heap.size 31 i0 (.agg #[.int .i64 0, .int .i64 0]) 2 16 Try.underlying23 hi0 hz0 hz1 hz2 rfl (by decide) v4 (0 + k) ([] ++ strip stcl (T.take k)) (by rfl) (h4) ⟨b, o + (k + 1) * 2, none⟩ (T.length - (k + 1)) (c1 - (k + 1)) (strip stcl (T.drop (k + 1))) (by rfl) (HL2.out) ((hsD.below hb4).add) (stcl_one _) (by unfold maxLen; omega) (by omega) (hb4.size) ?_; intro v5 w5 h5 hg5; have hb5 : Below w3.heap.size w3 w5 := hb4.grown hg5 hb4.size (fun q hq => (h4.lt q hq).1); obtain ⟨A5, c5, hv5, hc5, _⟩ := own_form h5; subst hv5; have dl5 := dl.below hb5)
            | (go_at_call 11; (with_reducible refine (iApplySettings_len (cs := T.take k ++ T.drop (k + 1)) rfl HL3.out dl5.s1 (by have hh := Sees.of_own h5; rw [HX5.out] at hh; exact hh) dl.n1 (by rw [HL3.out]; omega)).mono ?_); rintro e w6 ⟨v6, he, ho6, hbx⟩; rw [HB.out] at he; rw [ES.out] at ho6; subst he; obtain ⟨A6, c6, rfl, _⟩ := ho6.form; have dl6 := dl5.below hbx)
            | fail)
        all_goals
          go_wp2_with fail
          refine (equalSettings_any A6 B c6 d S m _ ho6.sees dl6.s2 HSN.out).mono ?_
          rintro e w7 ⟨he, hb7⟩
          rw [HNE.out] at he
          subst he
          go_wp2
          go_ret
          exact ⟨by simp, (dl6.below hb7).bel⟩
end Go.Proofs.Ytindbplgbfjjcab

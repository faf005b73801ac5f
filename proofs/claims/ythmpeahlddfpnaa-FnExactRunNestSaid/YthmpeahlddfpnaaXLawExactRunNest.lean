/-
  The walk of the exact law FnExactRunNest: at every argument it returns true and changes nothing that was there. Conditions: none.
-/
import Derived.Test.YthmpeahlddfpnaaSlNest
import Derived.Test.YthmpeahlddfpnaaMarkL
import Derived.Test.YthmpeahlddfpnaaExF
import Derived.Test.YthmpeahlddfpnaaNsG
import Derived.Test.YthmpeahlddfpnaaNsH
import Derived.Deep.RegionHeld3
namespace Go.Proofs.Ythmpeahlddfpnaa
open Go.RowKit Nes

set_option maxHeartbeats 16000000 in
theorem walkExactRunNest (A_l : Option Addr) (c_l : Nat) (l : List Int) (w : World) (_hm_l : l.length ≤ maxLen) (_hc_l : l.length ≤ c_l) (h_l : Sees w w.heap.size A_l (ints l)) :
    Calls Try.prog 5 #[.slice A_l l.length c_l] w fun e w' => e = .returned (.bool true) ∧ Below w.heap.size w w' := by
  by_cases hbig_l : 1048576 < l.length
  · skip
    have hB_1 := Below.refl w.heap.size w
    go_enter Try.func5, Try.ntmps5
    go_wp2
    go_ret
    exact ⟨rfl, hB_1⟩
  · skip
    have F_l := hid (show l.length ≤ 4194304 by omega)
    have G_l := hid (show l.length ≤ 1048576 by omega)
    have hk1 : ¬ (1 : Int) + (l.length : Int) < 0 := by omega
    have hk2 : ¬ (((1 : Nat) : Int) + (l.length : Int)) < 0 := by omega
    have r1 : (runS l).m.length ≤ 4194304 := Nat.le_trans (runS_len l) (by decide)
    obtain ⟨R, hR⟩ : ∃ R, R = runS l := ⟨_, rfl⟩
    have HR : Hid (runS l = R) := hid hR.symm
    obtain ⟨K, hK⟩ : ∃ K, K = runV l := ⟨_, rfl⟩
    have HK : Hid (runV l = K) := hid hK.symm
    rw [← hR] at r1
    have R1 := hid r1
    clear r1
    clear hR
    clear hK
    obtain ⟨CR, hCR⟩ : ∃ CR : Int, CR = R.count := ⟨_, rfl⟩
    have HCR : Hid (R.count = CR) := hid hCR.symm
    have nCR : ¬ CR < 0 := by rw [hCR]; exact R.count_pos
    clear hCR
    have hB_2 := Below.refl w.heap.size w
    go_enter Try.func5, Try.ntmps5
    go_wp2_with fail
    with_reducible refine (toIntS_any A_l c_l l _ ((h_l.below hB_2).more hB_2.size) F_l.out).mono ?_
    rintro e w1 ⟨val, rfl, hoal, hb1⟩
    obtain ⟨Bal1, dal1, rfl, _⟩ := hoal.form
    have b_al := hid hB_2.size
    have hB_3 := hB_2.trans (hb1.mono hB_2.size)
    clear hb1 hB_2
    have al_4 := IvL.of_own hoal
    have t_al_4 := hid (Nat.le_refl w1.heap.size)
    clear hoal
    go_wp2_with fail
    with_reducible refine (sRunNest_any Bal1 dal1 l _ al_4.sees F_l.out).mono ?_
    rintro e w2 ⟨Bw1, dw1, he, how, hb2⟩
    rw [HR.out, HK.out] at he
    rw [HR.out] at how
    subst he
    have d_al_w := t_al_4
    have b_w := hid hB_3.size
    have al_5 := al_4.below hb2
    have t_al_5 := hid (Nat.le_trans t_al_4.out hb2.size)
    have hB_6 := hB_3.trans (hb2.mono hB_3.size)
    clear hb2 al_4 t_al_4 hB_3
    have w_7 := IvNest.of_own how
    have t_w_7 := hid (Nat.le_refl w2.heap.size)
    clear how
    clear al_5 t_al_5 b_al d_al_w
    have d_w_pw := t_w_7
    have w_8 := w_7.alloc (.cells #[.int .i64 R.d, .int .i64 R.w, .slice Bw1 R.m.length dw1, .bool R.b] 27)
    have t_w_8 := hid (Nat.le_trans t_w_7.out ((Below.refl _ _).alloc (Nat.le_refl _) (.cells #[.int .i64 R.d, .int .i64 R.w, .slice Bw1 R.m.length dw1, .bool R.b] 27)).size)
    have hB_9 := hB_6.alloc hB_6.size (.cells #[.int .i64 R.d, .int .i64 R.w, .slice Bw1 R.m.length dw1, .bool R.b] 27)
    have pw_10 : At (w2.alloc (.cells #[.int .i64 R.d, .int .i64 R.w, .slice Bw1 R.m.length dw1, .bool R.b] 27)) w2.heap.size 27 #[.int .i64 R.d, .int .i64 R.w, .slice Bw1 R.m.length dw1, .bool R.b] := At.newAt _ _ rfl
    clear w_7 t_w_7 hB_6
    obtain ⟨pwc0, pwc1, pwc2, pwc3, pwcl⟩ := (⟨pw_10.cell 0, pw_10.cell 1, pw_10.cell 2, pw_10.cell 3, pw_10.lt⟩ : _ ∧ _ ∧ _ ∧ _ ∧ _)
    go_wp2_with fail
    with_reducible refine (toIntS_any A_l c_l l _ ((h_l.below hB_9).more hB_9.size) F_l.out).mono ?_
    rintro e w3 ⟨vyl, rfl, hoyl, hb3⟩
    clear pwc0 pwc1 pwc2 pwc3 pwcl
    obtain ⟨Byl1, dyl1, rfl, _⟩ := hoyl.form
    have d_w_yl := t_w_8
    have e_pw_yl := hid pw_10.lt
    have b_yl := hid hB_9.size
    have w_11 := w_8.below hb3
    have t_w_11 := hid (Nat.le_trans t_w_8.out hb3.size)
    have pw_12 := pw_10.below hb3 pw_10.lt
    have hB_13 := hB_9.trans (hb3.mono hB_9.size)
    clear hb3 w_8 t_w_8 pw_10 hB_9
    have yl_14 := IvL.of_own hoyl
    have t_yl_14 := hid (Nat.le_refl w3.heap.size)
    clear hoyl
    obtain ⟨pwc0, pwc1, pwc2, pwc3, pwcl⟩ := (⟨pw_12.cell 0, pw_12.cell 1, pw_12.cell 2, pw_12.cell 3, pw_12.lt⟩ : _ ∧ _ ∧ _ ∧ _ ∧ _)
    go_wp2_with fail
    with_reducible refine (iRunNest_any Byl1 dyl1 l _ yl_14.sees F_l.out).mono ?_
    rintro e w4 ⟨Bg1, dg1, he, hog, hb4⟩
    rw [HR.out, HK.out] at he
    rw [HR.out] at hog
    subst he
    clear pwc0 pwc1 pwc2 pwc3 pwcl
    have d_w_g := t_w_11
    have d_yl_g := t_yl_14
    have e_pw_g := hid pw_12.lt
    have b_g := hid hB_13.size
    have w_15 := w_11.below hb4
    have t_w_15 := hid (Nat.le_trans t_w_11.out hb4.size)
    have yl_16 := yl_14.below hb4
    have t_yl_16 := hid (Nat.le_trans t_yl_14.out hb4.size)
    have pw_17 := pw_12.below hb4 pw_12.lt
    have hB_18 := hB_13.trans (hb4.mono hB_13.size)
    clear hb4 w_11 t_w_11 yl_14 t_yl_14 pw_12 hB_13
    have g_19 := IvNest.of_own hog
    have t_g_19 := hid (Nat.le_refl w4.heap.size)
    clear hog
    have d_w_pg := t_w_15
    have w_20 := w_15.alloc (.cells #[.int .i64 R.d, .int .i64 R.w, .slice Bg1 R.m.length dg1, .bool R.b] 27)
    have t_w_20 := hid (Nat.le_trans t_w_15.out ((Below.refl _ _).alloc (Nat.le_refl _) (.cells #[.int .i64 R.d, .int .i64 R.w, .slice Bg1 R.m.length dg1, .bool R.b] 27)).size)
    have d_yl_pg := t_yl_16
    have yl_21 := yl_16.alloc (.cells #[.int .i64 R.d, .int .i64 R.w, .slice Bg1 R.m.length dg1, .bool R.b] 27)
    have t_yl_21 := hid (Nat.le_trans t_yl_16.out ((Below.refl _ _).alloc (Nat.le_refl _) (.cells #[.int .i64 R.d, .int .i64 R.w, .slice Bg1 R.m.length dg1, .bool R.b] 27)).size)
    have d_g_pg := t_g_19
    have g_22 := g_19.alloc (.cells #[.int .i64 R.d, .int .i64 R.w, .slice Bg1 R.m.length dg1, .bool R.b] 27)
    have t_g_22 := hid (Nat.le_trans t_g_19.out ((Below.refl _ _).alloc (Nat.le_refl _) (.cells #[.int .i64 R.d, .int .i64 R.w, .slice Bg1 R.m.length dg1, .bool R.b] 27)).size)
    have pw_23 := pw_17.alloc (.cells #[.int .i64 R.d, .int .i64 R.w, .slice Bg1 R.m.length dg1, .bool R.b] 27)
    have hB_24 := hB_18.alloc hB_18.size (.cells #[.int .i64 R.d, .int .i64 R.w, .slice Bg1 R.m.length dg1, .bool R.b] 27)
    have pg_25 : At (w4.alloc (.cells #[.int .i64 R.d, .int .i64 R.w, .slice Bg1 R.m.length dg1, .bool R.b] 27)) w4.heap.size 27 #[.int .i64 R.d, .int .i64 R.w, .slice Bg1 R.m.length dg1, .bool R.b] := At.newAt _ _ rfl
    clear w_15 t_w_15 yl_16 t_yl_16 g_19 t_g_19 pw_17 hB_18
    obtain ⟨pwc0, pwc1, pwc2, pwc3, pwcl⟩ := (⟨pw_23.cell 0, pw_23.cell 1, pw_23.cell 2, pw_23.cell 3, pw_23.lt⟩ : _ ∧ _ ∧ _ ∧ _ ∧ _)
    obtain ⟨pgc0, pgc1, pgc2, pgc3, pgcl⟩ := (⟨pg_25.cell 0, pg_25.cell 1, pg_25.cell 2, pg_25.cell 3, pg_25.lt⟩ : _ ∧ _ ∧ _ ∧ _ ∧ _)
    go_wp2_with fail
    with_reducible refine (eqNest_same Bg1 Bw1 dg1 dw1 R _ g_22.sees w_20.sees R1.out).mono ?_
    rintro e w5 ⟨rfl, hb5⟩
    clear pwc0 pwc1 pwc2 pwc3 pwcl pgc0 pgc1 pgc2 pgc3 pgcl
    have w_26 := w_20.below hb5
    have t_w_26 := hid (Nat.le_trans t_w_20.out hb5.size)
    have yl_27 := yl_21.below hb5
    have t_yl_27 := hid (Nat.le_trans t_yl_21.out hb5.size)
    have g_28 := g_22.below hb5
    have t_g_28 := hid (Nat.le_trans t_g_22.out hb5.size)
    have pw_29 := pw_23.below hb5 pw_23.lt
    have pg_30 := pg_25.below hb5 pg_25.lt
    have hB_31 := hB_24.trans (hb5.mono hB_24.size)
    clear hb5 w_20 t_w_20 yl_21 t_yl_21 g_22 t_g_22 pw_23 pg_25 hB_24
    obtain ⟨pwc0, pwc1, pwc2, pwc3, pwcl⟩ := (⟨pw_29.cell 0, pw_29.cell 1, pw_29.cell 2, pw_29.cell 3, pw_29.lt⟩ : _ ∧ _ ∧ _ ∧ _ ∧ _)
    obtain ⟨pgc0, pgc1, pgc2, pgc3, pgcl⟩ := (⟨pg_30.cell 0, pg_30.cell 1, pg_30.cell 2, pg_30.cell 3, pg_30.lt⟩ : _ ∧ _ ∧ _ ∧ _ ∧ _)
    go_wp2_with fail
    with_reducible refine (toIntS_any A_l c_l l _ ((h_l.below hB_31).more hB_31.size) F_l.out).mono ?_
    rintro e w6 ⟨vzl, rfl, hozl, hb6⟩
    clear pwc0 pwc1 pwc2 pwc3 pwcl pgc0 pgc1 pgc2 pgc3 pgcl
    obtain ⟨Bzl1, dzl1, rfl, _⟩ := hozl.form
    have d_w_zl := t_w_26
    have d_yl_zl := t_yl_27
    have d_g_zl := t_g_28
    have e_pw_zl := hid pw_29.lt
    have e_pg_zl := hid pg_30.lt
    have b_zl := hid hB_31.size
    have w_32 := w_26.below hb6
    have t_w_32 := hid (Nat.le_trans t_w_26.out hb6.size)
    have yl_33 := yl_27.below hb6
    have t_yl_33 := hid (Nat.le_trans t_yl_27.out hb6.size)
    have g_34 := g_28.below hb6
    have t_g_34 := hid (Nat.le_trans t_g_28.out hb6.size)
    have pw_35 := pw_29.below hb6 pw_29.lt
    have pg_36 := pg_30.below hb6 pg_30.lt
    have hB_37 := hB_31.trans (hb6.mono hB_31.size)
    clear hb6 w_26 t_w_26 yl_27 t_yl_27 g_28 t_g_28 pw_29 pg_30 hB_31
    have zl_38 := IvL.of_own hozl
    have t_zl_38 := hid (Nat.le_refl w6.heap.size)
    clear hozl
    obtain ⟨pwc0, pwc1, pwc2, pwc3, pwcl⟩ := (⟨pw_35.cell 0, pw_35.cell 1, pw_35.cell 2, pw_35.cell 3, pw_35.lt⟩ : _ ∧ _ ∧ _ ∧ _ ∧ _)
    obtain ⟨pgc0, pgc1, pgc2, pgc3, pgcl⟩ := (⟨pg_36.cell 0, pg_36.cell 1, pg_36.cell 2, pg_36.cell 3, pg_36.lt⟩ : _ ∧ _ ∧ _ ∧ _ ∧ _)
    go_wp2_with fail
    with_reducible refine (eqIntS_same Byl1 Bzl1 dyl1 dzl1 l _ yl_33.sees zl_38.sees F_l.out).mono ?_
    rintro e w7 ⟨rfl, hb7⟩
    clear pwc0 pwc1 pwc2 pwc3 pwcl pgc0 pgc1 pgc2 pgc3 pgcl
    have w_39 := w_32.below hb7
    have t_w_39 := hid (Nat.le_trans t_w_32.out hb7.size)
    have yl_40 := yl_33.below hb7
    have t_yl_40 := hid (Nat.le_trans t_yl_33.out hb7.size)
    have g_41 := g_34.below hb7
    have t_g_41 := hid (Nat.le_trans t_g_34.out hb7.size)
    have zl_42 := zl_38.below hb7
    have t_zl_42 := hid (Nat.le_trans t_zl_38.out hb7.size)
    have pw_43 := pw_35.below hb7 pw_35.lt
    have pg_44 := pg_36.below hb7 pg_36.lt
    have hB_45 := hB_37.trans (hb7.mono hB_37.size)
    clear hb7 w_32 t_w_32 yl_33 t_yl_33 g_34 t_g_34 zl_38 t_zl_38 pw_35 pg_36 hB_37
    clear zl_42 t_zl_42 b_zl d_w_zl d_yl_zl d_g_zl e_pw_zl e_pg_zl
    obtain ⟨pwc0, pwc1, pwc2, pwc3, pwcl⟩ := (⟨pw_43.cell 0, pw_43.cell 1, pw_43.cell 2, pw_43.cell 3, pw_43.lt⟩ : _ ∧ _ ∧ _ ∧ _ ∧ _)
    obtain ⟨pgc0, pgc1, pgc2, pgc3, pgcl⟩ := (⟨pg_44.cell 0, pg_44.cell 1, pg_44.cell 2, pg_44.cell 3, pg_44.lt⟩ : _ ∧ _ ∧ _ ∧ _ ∧ _)
    go_wp2_with fail
    refine (markIvL_any 1 _ _ Byl1 dyl1 l _ yl_40 F_l.out (by decide)).mono ?_
    rintro e w8 ⟨he, hm8, hmo⟩
    subst he
    clear pwc0 pwc1 pwc2 pwc3 pwcl pgc0 pgc1 pgc2 pgc3 pgcl
    have w_46 := w_39.mid hm8 (.inl d_w_yl.out)
    have t_w_46 := hid (Nat.le_trans t_w_39.out hm8.size)
    have yl_47 := hmo
    have t_yl_47 := hid (Nat.le_trans t_yl_40.out hm8.size)
    have g_48 := g_41.mid hm8 (.inr d_yl_g.out)
    have t_g_48 := hid (Nat.le_trans t_g_41.out hm8.size)
    have pw_49 := pw_43.mid hm8 (.inl e_pw_yl.out)
    have pg_50 := pg_44.mid hm8 (.inr d_yl_pg.out)
    have hB_51 := below_mid hB_45 hm8 b_yl.out hB_45.size
    clear hm8 w_39 t_w_39 yl_40 t_yl_40 g_41 t_g_41 hmo pw_43 pg_44 hB_45
    clear yl_47 t_yl_47 b_yl d_w_yl e_pw_yl d_yl_g d_yl_pg
    obtain ⟨pwc0, pwc1, pwc2, pwc3, pwcl⟩ := (⟨pw_49.cell 0, pw_49.cell 1, pw_49.cell 2, pw_49.cell 3, pw_49.lt⟩ : _ ∧ _ ∧ _ ∧ _ ∧ _)
    obtain ⟨pgc0, pgc1, pgc2, pgc3, pgcl⟩ := (⟨pg_50.cell 0, pg_50.cell 1, pg_50.cell 2, pg_50.cell 3, pg_50.lt⟩ : _ ∧ _ ∧ _ ∧ _ ∧ _)
    go_wp2_with fail
    with_reducible refine (eqNest_same Bg1 Bw1 dg1 dw1 R _ g_48.sees w_46.sees R1.out).mono ?_
    rintro e w9 ⟨rfl, hb9⟩
    clear pwc0 pwc1 pwc2 pwc3 pwcl pgc0 pgc1 pgc2 pgc3 pgcl
    have w_52 := w_46.below hb9
    have t_w_52 := hid (Nat.le_trans t_w_46.out hb9.size)
    have g_53 := g_48.below hb9
    have t_g_53 := hid (Nat.le_trans t_g_48.out hb9.size)
    have pw_54 := pw_49.below hb9 pw_49.lt
    have pg_55 := pg_50.below hb9 pg_50.lt
    have hB_56 := hB_51.trans (hb9.mono hB_51.size)
    clear hb9 w_46 t_w_46 g_48 t_g_48 pw_49 pg_50 hB_51
    obtain ⟨pwc0, pwc1, pwc2, pwc3, pwcl⟩ := (⟨pw_54.cell 0, pw_54.cell 1, pw_54.cell 2, pw_54.cell 3, pw_54.lt⟩ : _ ∧ _ ∧ _ ∧ _ ∧ _)
    obtain ⟨pgc0, pgc1, pgc2, pgc3, pgcl⟩ := (⟨pg_55.cell 0, pg_55.cell 1, pg_55.cell 2, pg_55.cell 3, pg_55.lt⟩ : _ ∧ _ ∧ _ ∧ _ ∧ _)
    go_wp2_with fail
    with_reducible refine (markNest_any _ _ Bg1 dg1 R _ g_53 R1.out).mono ?_
    rintro e w10 ⟨he, hm10, hmo⟩
    rw [HCR.out] at he
    subst he
    clear pwc0 pwc1 pwc2 pwc3 pwcl pgc0 pgc1 pgc2 pgc3 pgcl
    have w_57 := w_52.mid hm10 (.inl d_w_g.out)
    have t_w_57 := hid (Nat.le_trans t_w_52.out hm10.size)
    have g_58 := hmo
    have t_g_58 := hid (Nat.le_trans t_g_53.out hm10.size)
    have pw_59 := pw_54.mid hm10 (.inl e_pw_g.out)
    have pg_60 := pg_55.mid hm10 (.inr d_g_pg.out)
    have hB_61 := below_mid hB_56 hm10 b_g.out hB_56.size
    clear hm10 w_52 t_w_52 g_53 t_g_53 hmo pw_54 pg_55 hB_56
    obtain ⟨pwc0, pwc1, pwc2, pwc3, pwcl⟩ := (⟨pw_59.cell 0, pw_59.cell 1, pw_59.cell 2, pw_59.cell 3, pw_59.lt⟩ : _ ∧ _ ∧ _ ∧ _ ∧ _)
    obtain ⟨pgc0, pgc1, pgc2, pgc3, pgcl⟩ := (⟨pg_60.cell 0, pg_60.cell 1, pg_60.cell 2, pg_60.cell 3, pg_60.lt⟩ : _ ∧ _ ∧ _ ∧ _ ∧ _)
    go_wp2_with fail
    with_reducible refine (heldNest_any Bg1 dg1 R _ g_58.sees R1.out).mono ?_
    rintro e w11 ⟨he, hb11⟩
    rw [HCR.out] at he
    subst he
    clear pwc0 pwc1 pwc2 pwc3 pwcl pgc0 pgc1 pgc2 pgc3 pgcl
    have w_62 := w_57.below hb11
    have t_w_62 := hid (Nat.le_trans t_w_57.out hb11.size)
    have g_63 := g_58.below hb11
    have t_g_63 := hid (Nat.le_trans t_g_58.out hb11.size)
    have pw_64 := pw_59.below hb11 pw_59.lt
    have pg_65 := pg_60.below hb11 pg_60.lt
    have hB_66 := hB_61.trans (hb11.mono hB_61.size)
    clear hb11 w_57 t_w_57 g_58 t_g_58 pw_59 pg_60 hB_61
    obtain ⟨pwc0, pwc1, pwc2, pwc3, pwcl⟩ := (⟨pw_64.cell 0, pw_64.cell 1, pw_64.cell 2, pw_64.cell 3, pw_64.lt⟩ : _ ∧ _ ∧ _ ∧ _ ∧ _)
    obtain ⟨pgc0, pgc1, pgc2, pgc3, pgcl⟩ := (⟨pg_65.cell 0, pg_65.cell 1, pg_65.cell 2, pg_65.cell 3, pg_65.lt⟩ : _ ∧ _ ∧ _ ∧ _ ∧ _)
    go_wp2_with fail
    with_reducible refine (toIntS_any A_l c_l l _ ((h_l.below hB_66).more hB_66.size) F_l.out).mono ?_
    rintro e w12 ⟨vcl, rfl, hocl, hb12⟩
    clear pwc0 pwc1 pwc2 pwc3 pwcl pgc0 pgc1 pgc2 pgc3 pgcl
    obtain ⟨Bcl1, dcl1, rfl, _⟩ := hocl.form
    have d_w_cl := t_w_62
    have d_g_cl := t_g_63
    have e_pw_cl := hid pw_64.lt
    have e_pg_cl := hid pg_65.lt
    have b_cl := hid hB_66.size
    have w_67 := w_62.below hb12
    have t_w_67 := hid (Nat.le_trans t_w_62.out hb12.size)
    have g_68 := g_63.below hb12
    have t_g_68 := hid (Nat.le_trans t_g_63.out hb12.size)
    have pw_69 := pw_64.below hb12 pw_64.lt
    have pg_70 := pg_65.below hb12 pg_65.lt
    have hB_71 := hB_66.trans (hb12.mono hB_66.size)
    clear hb12 w_62 t_w_62 g_63 t_g_63 pw_64 pg_65 hB_66
    have cl_72 := IvL.of_own hocl
    have t_cl_72 := hid (Nat.le_refl w12.heap.size)
    clear hocl
    obtain ⟨pwc0, pwc1, pwc2, pwc3, pwcl⟩ := (⟨pw_69.cell 0, pw_69.cell 1, pw_69.cell 2, pw_69.cell 3, pw_69.lt⟩ : _ ∧ _ ∧ _ ∧ _ ∧ _)
    obtain ⟨pgc0, pgc1, pgc2, pgc3, pgcl⟩ := (⟨pg_70.cell 0, pg_70.cell 1, pg_70.cell 2, pg_70.cell 3, pg_70.lt⟩ : _ ∧ _ ∧ _ ∧ _ ∧ _)
    go_wp2_with fail
    with_reducible refine (iRunNest_any Bcl1 dcl1 l _ cl_72.sees F_l.out).mono ?_
    rintro e w13 ⟨Bh1, dh1, he, hoh, hb13⟩
    rw [HR.out, HK.out] at he
    rw [HR.out] at hoh
    subst he
    clear pwc0 pwc1 pwc2 pwc3 pwcl pgc0 pgc1 pgc2 pgc3 pgcl
    have d_w_h := t_w_67
    have d_g_h := t_g_68
    have d_cl_h := t_cl_72
    have e_pw_h := hid pw_69.lt
    have e_pg_h := hid pg_70.lt
    have b_h := hid hB_71.size
    have w_73 := w_67.below hb13
    have t_w_73 := hid (Nat.le_trans t_w_67.out hb13.size)
    have g_74 := g_68.below hb13
    have t_g_74 := hid (Nat.le_trans t_g_68.out hb13.size)
    have cl_75 := cl_72.below hb13
    have t_cl_75 := hid (Nat.le_trans t_cl_72.out hb13.size)
    have pw_76 := pw_69.below hb13 pw_69.lt
    have pg_77 := pg_70.below hb13 pg_70.lt
    have hB_78 := hB_71.trans (hb13.mono hB_71.size)
    clear hb13 w_67 t_w_67 g_68 t_g_68 cl_72 t_cl_72 pw_69 pg_70 hB_71
    have h_79 := IvNest.of_own hoh
    have t_h_79 := hid (Nat.le_refl w13.heap.size)
    clear hoh
    clear cl_75 t_cl_75 b_cl d_w_cl d_g_cl e_pw_cl e_pg_cl d_cl_h
    have d_w_ph := t_w_73
    have w_80 := w_73.alloc (.cells #[.int .i64 R.d, .int .i64 R.w, .slice Bh1 R.m.length dh1, .bool R.b] 27)
    have t_w_80 := hid (Nat.le_trans t_w_73.out ((Below.refl _ _).alloc (Nat.le_refl _) (.cells #[.int .i64 R.d, .int .i64 R.w, .slice Bh1 R.m.length dh1, .bool R.b] 27)).size)
    have d_g_ph := t_g_74
    have g_81 := g_74.alloc (.cells #[.int .i64 R.d, .int .i64 R.w, .slice Bh1 R.m.length dh1, .bool R.b] 27)
    have t_g_81 := hid (Nat.le_trans t_g_74.out ((Below.refl _ _).alloc (Nat.le_refl _) (.cells #[.int .i64 R.d, .int .i64 R.w, .slice Bh1 R.m.length dh1, .bool R.b] 27)).size)
    have d_h_ph := t_h_79
    have h_82 := h_79.alloc (.cells #[.int .i64 R.d, .int .i64 R.w, .slice Bh1 R.m.length dh1, .bool R.b] 27)
    have t_h_82 := hid (Nat.le_trans t_h_79.out ((Below.refl _ _).alloc (Nat.le_refl _) (.cells #[.int .i64 R.d, .int .i64 R.w, .slice Bh1 R.m.length dh1, .bool R.b] 27)).size)
    have pw_83 := pw_76.alloc (.cells #[.int .i64 R.d, .int .i64 R.w, .slice Bh1 R.m.length dh1, .bool R.b] 27)
    have pg_84 := pg_77.alloc (.cells #[.int .i64 R.d, .int .i64 R.w, .slice Bh1 R.m.length dh1, .bool R.b] 27)
    have hB_85 := hB_78.alloc hB_78.size (.cells #[.int .i64 R.d, .int .i64 R.w, .slice Bh1 R.m.length dh1, .bool R.b] 27)
    have ph_86 : At (w13.alloc (.cells #[.int .i64 R.d, .int .i64 R.w, .slice Bh1 R.m.length dh1, .bool R.b] 27)) w13.heap.size 27 #[.int .i64 R.d, .int .i64 R.w, .slice Bh1 R.m.length dh1, .bool R.b] := At.newAt _ _ rfl
    clear w_73 t_w_73 g_74 t_g_74 h_79 t_h_79 pw_76 pg_77 hB_78
    obtain ⟨pwc0, pwc1, pwc2, pwc3, pwcl⟩ := (⟨pw_83.cell 0, pw_83.cell 1, pw_83.cell 2, pw_83.cell 3, pw_83.lt⟩ : _ ∧ _ ∧ _ ∧ _ ∧ _)
    obtain ⟨pgc0, pgc1, pgc2, pgc3, pgcl⟩ := (⟨pg_84.cell 0, pg_84.cell 1, pg_84.cell 2, pg_84.cell 3, pg_84.lt⟩ : _ ∧ _ ∧ _ ∧ _ ∧ _)
    obtain ⟨phc0, phc1, phc2, phc3, phcl⟩ := (⟨ph_86.cell 0, ph_86.cell 1, ph_86.cell 2, ph_86.cell 3, ph_86.lt⟩ : _ ∧ _ ∧ _ ∧ _ ∧ _)
    go_wp2_with fail
    with_reducible refine (eqNest_same Bh1 Bw1 dh1 dw1 R _ h_82.sees w_80.sees R1.out).mono ?_
    rintro e w14 ⟨rfl, hb14⟩
    clear pwc0 pwc1 pwc2 pwc3 pwcl pgc0 pgc1 pgc2 pgc3 pgcl phc0 phc1 phc2 phc3 phcl
    have w_87 := w_80.below hb14
    have t_w_87 := hid (Nat.le_trans t_w_80.out hb14.size)
    have g_88 := g_81.below hb14
    have t_g_88 := hid (Nat.le_trans t_g_81.out hb14.size)
    have h_89 := h_82.below hb14
    have t_h_89 := hid (Nat.le_trans t_h_82.out hb14.size)
    have pw_90 := pw_83.below hb14 pw_83.lt
    have pg_91 := pg_84.below hb14 pg_84.lt
    have ph_92 := ph_86.below hb14 ph_86.lt
    have hB_93 := hB_85.trans (hb14.mono hB_85.size)
    clear hb14 w_80 t_w_80 g_81 t_g_81 h_82 t_h_82 pw_83 pg_84 ph_86 hB_85
    obtain ⟨pwc0, pwc1, pwc2, pwc3, pwcl⟩ := (⟨pw_90.cell 0, pw_90.cell 1, pw_90.cell 2, pw_90.cell 3, pw_90.lt⟩ : _ ∧ _ ∧ _ ∧ _ ∧ _)
    obtain ⟨pgc0, pgc1, pgc2, pgc3, pgcl⟩ := (⟨pg_91.cell 0, pg_91.cell 1, pg_91.cell 2, pg_91.cell 3, pg_91.lt⟩ : _ ∧ _ ∧ _ ∧ _ ∧ _)
    obtain ⟨phc0, phc1, phc2, phc3, phcl⟩ := (⟨ph_92.cell 0, ph_92.cell 1, ph_92.cell 2, ph_92.cell 3, ph_92.lt⟩ : _ ∧ _ ∧ _ ∧ _ ∧ _)
    go_wp2_with fail
    with_reducible refine (heldNest_any Bg1 dg1 R _ g_88.sees R1.out).mono ?_
    rintro e w15 ⟨he, hb15⟩
    rw [HCR.out] at he
    subst he
    clear pwc0 pwc1 pwc2 pwc3 pwcl pgc0 pgc1 pgc2 pgc3 pgcl phc0 phc1 phc2 phc3 phcl
    have w_94 := w_87.below hb15
    have t_w_94 := hid (Nat.le_trans t_w_87.out hb15.size)
    have g_95 := g_88.below hb15
    have t_g_95 := hid (Nat.le_trans t_g_88.out hb15.size)
    have h_96 := h_89.below hb15
    have t_h_96 := hid (Nat.le_trans t_h_89.out hb15.size)
    have pw_97 := pw_90.below hb15 pw_90.lt
    have pg_98 := pg_91.below hb15 pg_91.lt
    have ph_99 := ph_92.below hb15 ph_92.lt
    have hB_100 := hB_93.trans (hb15.mono hB_93.size)
    clear hb15 w_87 t_w_87 g_88 t_g_88 h_89 t_h_89 pw_90 pg_91 ph_92 hB_93
    obtain ⟨pwc0, pwc1, pwc2, pwc3, pwcl⟩ := (⟨pw_97.cell 0, pw_97.cell 1, pw_97.cell 2, pw_97.cell 3, pw_97.lt⟩ : _ ∧ _ ∧ _ ∧ _ ∧ _)
    obtain ⟨pgc0, pgc1, pgc2, pgc3, pgcl⟩ := (⟨pg_98.cell 0, pg_98.cell 1, pg_98.cell 2, pg_98.cell 3, pg_98.lt⟩ : _ ∧ _ ∧ _ ∧ _ ∧ _)
    obtain ⟨phc0, phc1, phc2, phc3, phcl⟩ := (⟨ph_99.cell 0, ph_99.cell 1, ph_99.cell 2, ph_99.cell 3, ph_99.lt⟩ : _ ∧ _ ∧ _ ∧ _ ∧ _)
    go_wp2
    go_ret
    exact ⟨rfl, hB_100⟩
end Go.Proofs.Ythmpeahlddfpnaa

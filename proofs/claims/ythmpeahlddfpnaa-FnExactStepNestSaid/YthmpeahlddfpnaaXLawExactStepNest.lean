/-
  The walk of the exact law FnExactStepNest: at every argument it returns true and changes nothing that was there. Conditions: none.
-/
import Derived.Test.YthmpeahlddfpnaaSlNest
import Derived.Test.YthmpeahlddfpnaaMarkL
import Derived.Test.YthmpeahlddfpnaaNsD
import Derived.Test.YthmpeahlddfpnaaNsF
import Derived.Deep.RegionHeld3
namespace Go.Proofs.Ythmpeahlddfpnaa
open Go.RowKit Nes

set_option maxHeartbeats 16000000 in
theorem walkExactStepNest (A1 : Option Addr) (c1 : Nat) (p : Nst) (o : Int) (w : World) (hm1 : p.m.length ≤ maxLen) (h : SeesM w w.heap.size A1 p) :
    Calls Try.prog 4 #[.agg #[.int .i64 p.d, .int .i64 p.w, .slice A1 p.m.length c1, .bool p.b], .int .i64 o] w fun e w' => e = .returned (.bool true) ∧ Below w.heap.size w w' := by
  have M1 := hid hm1
  clear hm1
  by_cases hbig : 1048576 < p.m.length
  · skip
    have E0 : Hid ((if 1048576 < p.m.length then (-1 : Int) else 1048576 - (p.m.length : Int)) = -1) := hid (if_pos hbig)
    clear hbig
    have hB_1 := Below.refl w.heap.size w
    have hB_2 := hB_1.alloc hB_1.size (.cells #[.int .i64 p.d, .int .i64 p.w, .slice A1 p.m.length c1, .bool p.b] 24)
    have x_3 : At (w.alloc (.cells #[.int .i64 p.d, .int .i64 p.w, .slice A1 p.m.length c1, .bool p.b] 24)) w.heap.size 24 #[.int .i64 p.d, .int .i64 p.w, .slice A1 p.m.length c1, .bool p.b] := At.newAt _ _ rfl
    clear hB_1
    go_enter Try.func4, Try.ntmps4
    obtain ⟨xc0, xc1, xc2, xc3, xcl⟩ := (⟨x_3.cell 0, x_3.cell 1, x_3.cell 2, x_3.cell 3, x_3.lt⟩ : _ ∧ _ ∧ _ ∧ _ ∧ _)
    go_wp2_with fail
    with_reducible refine (szNest_any A1 p.m.length c1 p.d p.w p.b _ M1.out).mono ?_
    rintro e w1 ⟨he, hb1⟩
    rw [E0.out] at he
    subst he
    clear xc0 xc1 xc2 xc3 xcl
    have x_4 := x_3.below hb1 x_3.lt
    have hB_5 := hB_2.trans (hb1.mono hB_2.size)
    clear hb1 x_3 hB_2
    go_wp2
    go_ret
    exact ⟨rfl, hB_5⟩
  · skip
    have N1 := hid (show p.m.length ≤ 4194304 by omega)
    have HTOT := hid (show p.m.length ≤ 1048576 by omega)
    obtain ⟨V, hV⟩ : ∃ V : Int, V = 1048576 - (p.m.length : Int) := ⟨_, rfl⟩
    have E0 : Hid ((if 1048576 < p.m.length then (-1 : Int) else 1048576 - (p.m.length : Int)) = V) := hid (by rw [if_neg hbig, hV])
    have hle : ¬ V < 0 := by omega
    clear hV hbig
    have r1 : (stepS p o).m.length ≤ 4194304 := Nat.le_trans (stepS_len p o) (by decide)
    obtain ⟨R, hR⟩ : ∃ R, R = stepS p o := ⟨_, rfl⟩
    have HR : Hid (stepS p o = R) := hid hR.symm
    obtain ⟨K, hK⟩ : ∃ K, K = stepB p o := ⟨_, rfl⟩
    have HK : Hid (stepB p o = K) := hid hK.symm
    rw [← hR] at r1
    have R1 := hid r1
    clear r1
    clear hR
    clear hK
    obtain ⟨CP, hCP⟩ : ∃ CP : Int, CP = p.count := ⟨_, rfl⟩
    have HCP : Hid (p.count = CP) := hid hCP.symm
    have nCP : ¬ CP < 0 := by rw [hCP]; exact p.count_pos
    have hCPb : Hid (CP = p.count) := hid hCP
    clear hCP
    obtain ⟨CR, hCR⟩ : ∃ CR : Int, CR = R.count := ⟨_, rfl⟩
    have HCR : Hid (R.count = CR) := hid hCR.symm
    have nCR : ¬ CR < 0 := by rw [hCR]; exact R.count_pos
    have hCRb : Hid (CR = R.count) := hid hCR
    clear hCR
    have hB_6 := Below.refl w.heap.size w
    have hB_7 := hB_6.alloc hB_6.size (.cells #[.int .i64 p.d, .int .i64 p.w, .slice A1 p.m.length c1, .bool p.b] 24)
    have x_8 : At (w.alloc (.cells #[.int .i64 p.d, .int .i64 p.w, .slice A1 p.m.length c1, .bool p.b] 24)) w.heap.size 24 #[.int .i64 p.d, .int .i64 p.w, .slice A1 p.m.length c1, .bool p.b] := At.newAt _ _ rfl
    clear hB_6
    go_enter Try.func4, Try.ntmps4
    obtain ⟨xc0, xc1, xc2, xc3, xcl⟩ := (⟨x_8.cell 0, x_8.cell 1, x_8.cell 2, x_8.cell 3, x_8.lt⟩ : _ ∧ _ ∧ _ ∧ _ ∧ _)
    go_wp2_with fail
    with_reducible refine (szNest_any A1 p.m.length c1 p.d p.w p.b _ M1.out).mono ?_
    rintro e w2 ⟨he, hb2⟩
    rw [E0.out] at he
    subst he
    clear xc0 xc1 xc2 xc3 xcl
    have x_9 := x_8.below hb2 x_8.lt
    have hB_10 := hB_7.trans (hb2.mono hB_7.size)
    clear hb2 x_8 hB_7
    obtain ⟨xc0, xc1, xc2, xc3, xcl⟩ := (⟨x_9.cell 0, x_9.cell 1, x_9.cell 2, x_9.cell 3, x_9.lt⟩ : _ ∧ _ ∧ _ ∧ _ ∧ _)
    go_wp2_with fail
    with_reducible refine (toNest_any p A1 c1 _ (SeesM.on h hB_10) N1.out).mono ?_
    rintro e w3 ⟨Ba1, da1, rfl, hoa, hb3⟩
    clear xc0 xc1 xc2 xc3 xcl
    have e_x_a := hid x_9.lt
    have b_a := hid hB_10.size
    have x_11 := x_9.below hb3 x_9.lt
    have hB_12 := hB_10.trans (hb3.mono hB_10.size)
    clear hb3 x_9 hB_10
    have a_13 := IvNest.of_own hoa
    have t_a_13 := hid (Nat.le_refl w3.heap.size)
    clear hoa
    obtain ⟨xc0, xc1, xc2, xc3, xcl⟩ := (⟨x_11.cell 0, x_11.cell 1, x_11.cell 2, x_11.cell 3, x_11.lt⟩ : _ ∧ _ ∧ _ ∧ _ ∧ _)
    go_wp2_with fail
    with_reducible refine (sStepNest_any p o Ba1 da1 _ a_13.sees a_13.l1.cap N1.out).mono ?_
    rintro e w4 ⟨Bw1, dw1, he, how, hb4⟩
    rw [HR.out, HK.out] at he
    rw [HR.out] at how
    subst he
    clear xc0 xc1 xc2 xc3 xcl
    have d_a_w := t_a_13
    have e_x_w := hid x_11.lt
    have b_w := hid hB_12.size
    have a_14 := a_13.below hb4
    have t_a_14 := hid (Nat.le_trans t_a_13.out hb4.size)
    have x_15 := x_11.below hb4 x_11.lt
    have hB_16 := hB_12.trans (hb4.mono hB_12.size)
    clear hb4 a_13 t_a_13 x_11 hB_12
    have w_17 := IvNest.of_own how
    have t_w_17 := hid (Nat.le_refl w4.heap.size)
    clear how
    clear a_14 t_a_14 b_a e_x_a d_a_w
    have d_w_pw := t_w_17
    have w_18 := w_17.alloc (.cells #[.int .i64 R.d, .int .i64 R.w, .slice Bw1 R.m.length dw1, .bool R.b] 27)
    have t_w_18 := hid (Nat.le_trans t_w_17.out ((Below.refl _ _).alloc (Nat.le_refl _) (.cells #[.int .i64 R.d, .int .i64 R.w, .slice Bw1 R.m.length dw1, .bool R.b] 27)).size)
    have x_19 := x_15.alloc (.cells #[.int .i64 R.d, .int .i64 R.w, .slice Bw1 R.m.length dw1, .bool R.b] 27)
    have hB_20 := hB_16.alloc hB_16.size (.cells #[.int .i64 R.d, .int .i64 R.w, .slice Bw1 R.m.length dw1, .bool R.b] 27)
    have pw_21 : At (w4.alloc (.cells #[.int .i64 R.d, .int .i64 R.w, .slice Bw1 R.m.length dw1, .bool R.b] 27)) w4.heap.size 27 #[.int .i64 R.d, .int .i64 R.w, .slice Bw1 R.m.length dw1, .bool R.b] := At.newAt _ _ rfl
    clear w_17 t_w_17 x_15 hB_16
    obtain ⟨xc0, xc1, xc2, xc3, xcl⟩ := (⟨x_19.cell 0, x_19.cell 1, x_19.cell 2, x_19.cell 3, x_19.lt⟩ : _ ∧ _ ∧ _ ∧ _ ∧ _)
    obtain ⟨pwc0, pwc1, pwc2, pwc3, pwcl⟩ := (⟨pw_21.cell 0, pw_21.cell 1, pw_21.cell 2, pw_21.cell 3, pw_21.lt⟩ : _ ∧ _ ∧ _ ∧ _ ∧ _)
    go_wp2_with fail
    with_reducible refine (toNest_any p A1 c1 _ (SeesM.on h hB_20) N1.out).mono ?_
    rintro e w5 ⟨By1, dy1, rfl, hoy, hb5⟩
    clear xc0 xc1 xc2 xc3 xcl pwc0 pwc1 pwc2 pwc3 pwcl
    have d_w_y := t_w_18
    have e_x_y := hid x_19.lt
    have e_pw_y := hid pw_21.lt
    have b_y := hid hB_20.size
    have w_22 := w_18.below hb5
    have t_w_22 := hid (Nat.le_trans t_w_18.out hb5.size)
    have x_23 := x_19.below hb5 x_19.lt
    have pw_24 := pw_21.below hb5 pw_21.lt
    have hB_25 := hB_20.trans (hb5.mono hB_20.size)
    clear hb5 w_18 t_w_18 x_19 pw_21 hB_20
    have y_26 := IvNest.of_own hoy
    have t_y_26 := hid (Nat.le_refl w5.heap.size)
    clear hoy
    have d_w_px := t_w_22
    have w_27 := w_22.alloc (.cells #[.int .i64 p.d, .int .i64 p.w, .slice By1 p.m.length dy1, .bool p.b] 27)
    have t_w_27 := hid (Nat.le_trans t_w_22.out ((Below.refl _ _).alloc (Nat.le_refl _) (.cells #[.int .i64 p.d, .int .i64 p.w, .slice By1 p.m.length dy1, .bool p.b] 27)).size)
    have d_y_px := t_y_26
    have y_28 := y_26.alloc (.cells #[.int .i64 p.d, .int .i64 p.w, .slice By1 p.m.length dy1, .bool p.b] 27)
    have t_y_28 := hid (Nat.le_trans t_y_26.out ((Below.refl _ _).alloc (Nat.le_refl _) (.cells #[.int .i64 p.d, .int .i64 p.w, .slice By1 p.m.length dy1, .bool p.b] 27)).size)
    have x_29 := x_23.alloc (.cells #[.int .i64 p.d, .int .i64 p.w, .slice By1 p.m.length dy1, .bool p.b] 27)
    have pw_30 := pw_24.alloc (.cells #[.int .i64 p.d, .int .i64 p.w, .slice By1 p.m.length dy1, .bool p.b] 27)
    have hB_31 := hB_25.alloc hB_25.size (.cells #[.int .i64 p.d, .int .i64 p.w, .slice By1 p.m.length dy1, .bool p.b] 27)
    have px_32 : At (w5.alloc (.cells #[.int .i64 p.d, .int .i64 p.w, .slice By1 p.m.length dy1, .bool p.b] 27)) w5.heap.size 27 #[.int .i64 p.d, .int .i64 p.w, .slice By1 p.m.length dy1, .bool p.b] := At.newAt _ _ rfl
    clear w_22 t_w_22 y_26 t_y_26 x_23 pw_24 hB_25
    obtain ⟨xc0, xc1, xc2, xc3, xcl⟩ := (⟨x_29.cell 0, x_29.cell 1, x_29.cell 2, x_29.cell 3, x_29.lt⟩ : _ ∧ _ ∧ _ ∧ _ ∧ _)
    obtain ⟨pxc0, pxc1, pxc2, pxc3, pxcl⟩ := (⟨px_32.cell 0, px_32.cell 1, px_32.cell 2, px_32.cell 3, px_32.lt⟩ : _ ∧ _ ∧ _ ∧ _ ∧ _)
    obtain ⟨pwc0, pwc1, pwc2, pwc3, pwcl⟩ := (⟨pw_30.cell 0, pw_30.cell 1, pw_30.cell 2, pw_30.cell 3, pw_30.lt⟩ : _ ∧ _ ∧ _ ∧ _ ∧ _)
    go_wp2_with fail
    with_reducible refine (iStepNest_any p o By1 dy1 _ y_28.sees y_28.l1.cap N1.out).mono ?_
    rintro e w6 ⟨Bg1, dg1, he, hog, hb6⟩
    rw [HR.out, HK.out] at he
    rw [HR.out] at hog
    subst he
    clear xc0 xc1 xc2 xc3 xcl pxc0 pxc1 pxc2 pxc3 pxcl pwc0 pwc1 pwc2 pwc3 pwcl
    have d_w_g := t_w_27
    have d_y_g := t_y_28
    have e_x_g := hid x_29.lt
    have e_pw_g := hid pw_30.lt
    have e_px_g := hid px_32.lt
    have b_g := hid hB_31.size
    have w_33 := w_27.below hb6
    have t_w_33 := hid (Nat.le_trans t_w_27.out hb6.size)
    have y_34 := y_28.below hb6
    have t_y_34 := hid (Nat.le_trans t_y_28.out hb6.size)
    have x_35 := x_29.below hb6 x_29.lt
    have pw_36 := pw_30.below hb6 pw_30.lt
    have px_37 := px_32.below hb6 px_32.lt
    have hB_38 := hB_31.trans (hb6.mono hB_31.size)
    clear hb6 w_27 t_w_27 y_28 t_y_28 x_29 pw_30 px_32 hB_31
    have g_39 := IvNest.of_own hog
    have t_g_39 := hid (Nat.le_refl w6.heap.size)
    clear hog
    have d_w_pg := t_w_33
    have w_40 := w_33.alloc (.cells #[.int .i64 R.d, .int .i64 R.w, .slice Bg1 R.m.length dg1, .bool R.b] 27)
    have t_w_40 := hid (Nat.le_trans t_w_33.out ((Below.refl _ _).alloc (Nat.le_refl _) (.cells #[.int .i64 R.d, .int .i64 R.w, .slice Bg1 R.m.length dg1, .bool R.b] 27)).size)
    have d_y_pg := t_y_34
    have y_41 := y_34.alloc (.cells #[.int .i64 R.d, .int .i64 R.w, .slice Bg1 R.m.length dg1, .bool R.b] 27)
    have t_y_41 := hid (Nat.le_trans t_y_34.out ((Below.refl _ _).alloc (Nat.le_refl _) (.cells #[.int .i64 R.d, .int .i64 R.w, .slice Bg1 R.m.length dg1, .bool R.b] 27)).size)
    have d_g_pg := t_g_39
    have g_42 := g_39.alloc (.cells #[.int .i64 R.d, .int .i64 R.w, .slice Bg1 R.m.length dg1, .bool R.b] 27)
    have t_g_42 := hid (Nat.le_trans t_g_39.out ((Below.refl _ _).alloc (Nat.le_refl _) (.cells #[.int .i64 R.d, .int .i64 R.w, .slice Bg1 R.m.length dg1, .bool R.b] 27)).size)
    have x_43 := x_35.alloc (.cells #[.int .i64 R.d, .int .i64 R.w, .slice Bg1 R.m.length dg1, .bool R.b] 27)
    have pw_44 := pw_36.alloc (.cells #[.int .i64 R.d, .int .i64 R.w, .slice Bg1 R.m.length dg1, .bool R.b] 27)
    have px_45 := px_37.alloc (.cells #[.int .i64 R.d, .int .i64 R.w, .slice Bg1 R.m.length dg1, .bool R.b] 27)
    have hB_46 := hB_38.alloc hB_38.size (.cells #[.int .i64 R.d, .int .i64 R.w, .slice Bg1 R.m.length dg1, .bool R.b] 27)
    have pg_47 : At (w6.alloc (.cells #[.int .i64 R.d, .int .i64 R.w, .slice Bg1 R.m.length dg1, .bool R.b] 27)) w6.heap.size 27 #[.int .i64 R.d, .int .i64 R.w, .slice Bg1 R.m.length dg1, .bool R.b] := At.newAt _ _ rfl
    clear w_33 t_w_33 y_34 t_y_34 g_39 t_g_39 x_35 pw_36 px_37 hB_38
    obtain ⟨xc0, xc1, xc2, xc3, xcl⟩ := (⟨x_43.cell 0, x_43.cell 1, x_43.cell 2, x_43.cell 3, x_43.lt⟩ : _ ∧ _ ∧ _ ∧ _ ∧ _)
    obtain ⟨pxc0, pxc1, pxc2, pxc3, pxcl⟩ := (⟨px_45.cell 0, px_45.cell 1, px_45.cell 2, px_45.cell 3, px_45.lt⟩ : _ ∧ _ ∧ _ ∧ _ ∧ _)
    obtain ⟨pwc0, pwc1, pwc2, pwc3, pwcl⟩ := (⟨pw_44.cell 0, pw_44.cell 1, pw_44.cell 2, pw_44.cell 3, pw_44.lt⟩ : _ ∧ _ ∧ _ ∧ _ ∧ _)
    obtain ⟨pgc0, pgc1, pgc2, pgc3, pgcl⟩ := (⟨pg_47.cell 0, pg_47.cell 1, pg_47.cell 2, pg_47.cell 3, pg_47.lt⟩ : _ ∧ _ ∧ _ ∧ _ ∧ _)
    go_wp2_with fail
    with_reducible refine (eqNest_same Bg1 Bw1 dg1 dw1 R _ g_42.sees w_40.sees R1.out).mono ?_
    rintro e w7 ⟨rfl, hb7⟩
    clear xc0 xc1 xc2 xc3 xcl pxc0 pxc1 pxc2 pxc3 pxcl pwc0 pwc1 pwc2 pwc3 pwcl pgc0 pgc1 pgc2 pgc3 pgcl
    have w_48 := w_40.below hb7
    have t_w_48 := hid (Nat.le_trans t_w_40.out hb7.size)
    have y_49 := y_41.below hb7
    have t_y_49 := hid (Nat.le_trans t_y_41.out hb7.size)
    have g_50 := g_42.below hb7
    have t_g_50 := hid (Nat.le_trans t_g_42.out hb7.size)
    have x_51 := x_43.below hb7 x_43.lt
    have pw_52 := pw_44.below hb7 pw_44.lt
    have px_53 := px_45.below hb7 px_45.lt
    have pg_54 := pg_47.below hb7 pg_47.lt
    have hB_55 := hB_46.trans (hb7.mono hB_46.size)
    clear hb7 w_40 t_w_40 y_41 t_y_41 g_42 t_g_42 x_43 pw_44 px_45 pg_47 hB_46
    obtain ⟨xc0, xc1, xc2, xc3, xcl⟩ := (⟨x_51.cell 0, x_51.cell 1, x_51.cell 2, x_51.cell 3, x_51.lt⟩ : _ ∧ _ ∧ _ ∧ _ ∧ _)
    obtain ⟨pxc0, pxc1, pxc2, pxc3, pxcl⟩ := (⟨px_53.cell 0, px_53.cell 1, px_53.cell 2, px_53.cell 3, px_53.lt⟩ : _ ∧ _ ∧ _ ∧ _ ∧ _)
    obtain ⟨pwc0, pwc1, pwc2, pwc3, pwcl⟩ := (⟨pw_52.cell 0, pw_52.cell 1, pw_52.cell 2, pw_52.cell 3, pw_52.lt⟩ : _ ∧ _ ∧ _ ∧ _ ∧ _)
    obtain ⟨pgc0, pgc1, pgc2, pgc3, pgcl⟩ := (⟨pg_54.cell 0, pg_54.cell 1, pg_54.cell 2, pg_54.cell 3, pg_54.lt⟩ : _ ∧ _ ∧ _ ∧ _ ∧ _)
    have K1 := hid (⟨x_51.cell 0, x_51.cell 1, x_51.cell 2, x_51.cell 3, px_53.cell 0, px_53.cell 1, px_53.cell 2, px_53.cell 3⟩ : (fun w' => w'.cell? ⟨w.heap.size, 0, none⟩ = some (.int .i64 p.d) ∧ w'.cell? ⟨w.heap.size, 1, none⟩ = some (.int .i64 p.w) ∧ w'.cell? ⟨w.heap.size, 2, none⟩ = some (.slice A1 p.m.length c1) ∧ w'.cell? ⟨w.heap.size, 3, none⟩ = some (.bool p.b) ∧ w'.cell? ⟨w5.heap.size, 0, none⟩ = some (.int .i64 p.d) ∧ w'.cell? ⟨w5.heap.size, 1, none⟩ = some (.int .i64 p.w) ∧ w'.cell? ⟨w5.heap.size, 2, none⟩ = some (.slice By1 p.m.length dy1) ∧ w'.cell? ⟨w5.heap.size, 3, none⟩ = some (.bool p.b)) w7)
    have w_d := w_48.drew
    have y_d := y_49.drew
    have g_d := g_50.drew
    have x_d := x_51.drew
    have pw_d := pw_52.drew
    have px_d := px_53.drew
    have pg_d := pg_54.drew
    have hB_d := hB_55.drew
    have K2 := hid (⟨x_d.cell 0, x_d.cell 1, x_d.cell 2, x_d.cell 3, px_d.cell 0, px_d.cell 1, px_d.cell 2, px_d.cell 3⟩ : (fun w' => w'.cell? ⟨w.heap.size, 0, none⟩ = some (.int .i64 p.d) ∧ w'.cell? ⟨w.heap.size, 1, none⟩ = some (.int .i64 p.w) ∧ w'.cell? ⟨w.heap.size, 2, none⟩ = some (.slice A1 p.m.length c1) ∧ w'.cell? ⟨w.heap.size, 3, none⟩ = some (.bool p.b) ∧ w'.cell? ⟨w5.heap.size, 0, none⟩ = some (.int .i64 p.d) ∧ w'.cell? ⟨w5.heap.size, 1, none⟩ = some (.int .i64 p.w) ∧ w'.cell? ⟨w5.heap.size, 2, none⟩ = some (.slice By1 p.m.length dy1) ∧ w'.cell? ⟨w5.heap.size, 3, none⟩ = some (.bool p.b)) w7.drew)
    go_wp2_with fail
    go_region_held3 (fun w' => w'.cell? ⟨w.heap.size, 0, none⟩ = some (.int .i64 p.d) ∧ w'.cell? ⟨w.heap.size, 1, none⟩ = some (.int .i64 p.w) ∧ w'.cell? ⟨w.heap.size, 2, none⟩ = some (.slice A1 p.m.length c1) ∧ w'.cell? ⟨w.heap.size, 3, none⟩ = some (.bool p.b) ∧ w'.cell? ⟨w5.heap.size, 0, none⟩ = some (.int .i64 p.d) ∧ w'.cell? ⟨w5.heap.size, 1, none⟩ = some (.int .i64 p.w) ∧ w'.cell? ⟨w5.heap.size, 2, none⟩ = some (.slice By1 p.m.length dy1) ∧ w'.cell? ⟨w5.heap.size, 3, none⟩ = some (.bool p.b))
      (first | with_reducible exact K1.out | with_reducible exact K2.out | with_reducible exact K3.out | with_reducible exact K4.out | go_keep)
      (first
        | (go_at_call 14; (with_reducible refine (toNest_any p A1 c1 _ (SeesM.on h hB_d) N1.out).mono ?_); rintro e wa ⟨Bz1, dz1, rfl, hoz, hba⟩; have w_a := w_d.below hba; have y_a := y_d.below hba; have g_a := g_d.below hba; have x_a := x_d.below hba x_d.lt; have pw_a := pw_d.below hba pw_d.lt; have px_a := px_d.below hba px_d.lt; have pg_a := pg_d.below hba pg_d.lt; have hB_a := hB_d.trans (hba.mono hB_d.size); have K3 := hid (⟨x_a.cell 0, x_a.cell 1, x_a.cell 2, x_a.cell 3, px_a.cell 0, px_a.cell 1, px_a.cell 2, px_a.cell 3⟩ : (fun w' => w'.cell? ⟨w.heap.size, 0, none⟩ = some (.int .i64 p.d) ∧ w'.cell? ⟨w.heap.size, 1, none⟩ = some (.int .i64 p.w) ∧ w'.cell? ⟨w.heap.size, 2, none⟩ = some (.slice A1 p.m.length c1) ∧ w'.cell? ⟨w.heap.size, 3, none⟩ = some (.bool p.b) ∧ w'.cell? ⟨w5.heap.size, 0, none⟩ = some (.int .i64 p.d) ∧ w'.cell? ⟨w5.heap.size, 1, none⟩ = some (.int .i64 p.w) ∧ w'.cell? ⟨w5.heap.size, 2, none⟩ = some (.slice By1 p.m.length dy1) ∧ w'.cell? ⟨w5.heap.size, 3, none⟩ = some (.bool p.b)) wa))
        | (go_at_call 16; (with_reducible refine (eqNest_same By1 Bz1 dy1 dz1 p _ y_a.sees (IvNest.of_own hoz).sees N1.out).mono ?_); rintro e wb ⟨rfl, hbb⟩; have w_b := w_a.below hbb; have y_b := y_a.below hbb; have g_b := g_a.below hbb; have x_b := x_a.below hbb x_a.lt; have pw_b := pw_a.below hbb pw_a.lt; have px_b := px_a.below hbb px_a.lt; have pg_b := pg_a.below hbb pg_a.lt; have hB_b := hB_a.trans (hbb.mono hB_a.size); have K4 := hid (⟨x_b.cell 0, x_b.cell 1, x_b.cell 2, x_b.cell 3, px_b.cell 0, px_b.cell 1, px_b.cell 2, px_b.cell 3⟩ : (fun w' => w'.cell? ⟨w.heap.size, 0, none⟩ = some (.int .i64 p.d) ∧ w'.cell? ⟨w.heap.size, 1, none⟩ = some (.int .i64 p.w) ∧ w'.cell? ⟨w.heap.size, 2, none⟩ = some (.slice A1 p.m.length c1) ∧ w'.cell? ⟨w.heap.size, 3, none⟩ = some (.bool p.b) ∧ w'.cell? ⟨w5.heap.size, 0, none⟩ = some (.int .i64 p.d) ∧ w'.cell? ⟨w5.heap.size, 1, none⟩ = some (.int .i64 p.w) ∧ w'.cell? ⟨w5.heap.size, 2, none⟩ = some (.slice By1 p.m.length dy1) ∧ w'.cell? ⟨w5.heap.size, 3, none⟩ = some (.bool p.b)) wb))
        | fail)
    have w_56 := w_b
    have t_w_56 := hid (Nat.le_trans t_w_48.out (Nat.le_trans hba.size hbb.size))
    have y_57 := y_b
    have t_y_57 := hid (Nat.le_trans t_y_49.out (Nat.le_trans hba.size hbb.size))
    have g_58 := g_b
    have t_g_58 := hid (Nat.le_trans t_g_50.out (Nat.le_trans hba.size hbb.size))
    have x_59 := x_b
    have pw_60 := pw_b
    have px_61 := px_b
    have pg_62 := pg_b
    have hB_63 := hB_b
    clear w_48 t_w_48 y_49 t_y_49 g_50 t_g_50 x_51 pw_52 px_53 pg_54 hB_55 K1 K2 K3 K4 w_d w_a w_b y_d y_a y_b g_d g_a g_b x_d x_a x_b pw_d pw_a pw_b px_d px_a px_b pg_d pg_a pg_b hB_d hB_a hB_b hba hbb hoz
    clear xc0 xc1 xc2 xc3 xcl pxc0 pxc1 pxc2 pxc3 pxcl pwc0 pwc1 pwc2 pwc3 pwcl pgc0 pgc1 pgc2 pgc3 pgcl
    obtain ⟨xc0, xc1, xc2, xc3, xcl⟩ := (⟨x_59.cell 0, x_59.cell 1, x_59.cell 2, x_59.cell 3, x_59.lt⟩ : _ ∧ _ ∧ _ ∧ _ ∧ _)
    obtain ⟨pxc0, pxc1, pxc2, pxc3, pxcl⟩ := (⟨px_61.cell 0, px_61.cell 1, px_61.cell 2, px_61.cell 3, px_61.lt⟩ : _ ∧ _ ∧ _ ∧ _ ∧ _)
    obtain ⟨pwc0, pwc1, pwc2, pwc3, pwcl⟩ := (⟨pw_60.cell 0, pw_60.cell 1, pw_60.cell 2, pw_60.cell 3, pw_60.lt⟩ : _ ∧ _ ∧ _ ∧ _ ∧ _)
    obtain ⟨pgc0, pgc1, pgc2, pgc3, pgcl⟩ := (⟨pg_62.cell 0, pg_62.cell 1, pg_62.cell 2, pg_62.cell 3, pg_62.lt⟩ : _ ∧ _ ∧ _ ∧ _ ∧ _)
    go_wp2_with fail
    with_reducible refine (markNest_any _ _ By1 dy1 p _ y_57 N1.out).mono ?_
    rintro e w8 ⟨he, hm8, hmo⟩
    rw [HCP.out] at he
    subst he
    clear xc0 xc1 xc2 xc3 xcl pxc0 pxc1 pxc2 pxc3 pxcl pwc0 pwc1 pwc2 pwc3 pwcl pgc0 pgc1 pgc2 pgc3 pgcl
    have w_64 := w_56.mid hm8 (.inl d_w_y.out)
    have t_w_64 := hid (Nat.le_trans t_w_56.out hm8.size)
    have y_65 := hmo
    have t_y_65 := hid (Nat.le_trans t_y_57.out hm8.size)
    have g_66 := g_58.mid hm8 (.inr d_y_g.out)
    have t_g_66 := hid (Nat.le_trans t_g_58.out hm8.size)
    have x_67 := x_59.mid hm8 (.inl e_x_y.out)
    have pw_68 := pw_60.mid hm8 (.inl e_pw_y.out)
    have px_69 := px_61.mid hm8 (.inr d_y_px.out)
    have pg_70 := pg_62.mid hm8 (.inr d_y_pg.out)
    have hB_71 := below_mid hB_63 hm8 b_y.out hB_63.size
    clear hm8 w_56 t_w_56 y_57 t_y_57 g_58 t_g_58 hmo x_59 pw_60 px_61 pg_62 hB_63
    clear y_65 t_y_65 b_y d_w_y e_x_y e_pw_y d_y_px d_y_g d_y_pg
    obtain ⟨xc0, xc1, xc2, xc3, xcl⟩ := (⟨x_67.cell 0, x_67.cell 1, x_67.cell 2, x_67.cell 3, x_67.lt⟩ : _ ∧ _ ∧ _ ∧ _ ∧ _)
    obtain ⟨pxc0, pxc1, pxc2, pxc3, pxcl⟩ := (⟨px_69.cell 0, px_69.cell 1, px_69.cell 2, px_69.cell 3, px_69.lt⟩ : _ ∧ _ ∧ _ ∧ _ ∧ _)
    obtain ⟨pwc0, pwc1, pwc2, pwc3, pwcl⟩ := (⟨pw_68.cell 0, pw_68.cell 1, pw_68.cell 2, pw_68.cell 3, pw_68.lt⟩ : _ ∧ _ ∧ _ ∧ _ ∧ _)
    obtain ⟨pgc0, pgc1, pgc2, pgc3, pgcl⟩ := (⟨pg_70.cell 0, pg_70.cell 1, pg_70.cell 2, pg_70.cell 3, pg_70.lt⟩ : _ ∧ _ ∧ _ ∧ _ ∧ _)
    go_wp2_with fail
    with_reducible refine (eqNest_same Bg1 Bw1 dg1 dw1 R _ g_66.sees w_64.sees R1.out).mono ?_
    rintro e w9 ⟨rfl, hb9⟩
    clear xc0 xc1 xc2 xc3 xcl pxc0 pxc1 pxc2 pxc3 pxcl pwc0 pwc1 pwc2 pwc3 pwcl pgc0 pgc1 pgc2 pgc3 pgcl
    have w_72 := w_64.below hb9
    have t_w_72 := hid (Nat.le_trans t_w_64.out hb9.size)
    have g_73 := g_66.below hb9
    have t_g_73 := hid (Nat.le_trans t_g_66.out hb9.size)
    have x_74 := x_67.below hb9 x_67.lt
    have pw_75 := pw_68.below hb9 pw_68.lt
    have px_76 := px_69.below hb9 px_69.lt
    have pg_77 := pg_70.below hb9 pg_70.lt
    have hB_78 := hB_71.trans (hb9.mono hB_71.size)
    clear hb9 w_64 t_w_64 g_66 t_g_66 x_67 pw_68 px_69 pg_70 hB_71
    obtain ⟨xc0, xc1, xc2, xc3, xcl⟩ := (⟨x_74.cell 0, x_74.cell 1, x_74.cell 2, x_74.cell 3, x_74.lt⟩ : _ ∧ _ ∧ _ ∧ _ ∧ _)
    obtain ⟨pxc0, pxc1, pxc2, pxc3, pxcl⟩ := (⟨px_76.cell 0, px_76.cell 1, px_76.cell 2, px_76.cell 3, px_76.lt⟩ : _ ∧ _ ∧ _ ∧ _ ∧ _)
    obtain ⟨pwc0, pwc1, pwc2, pwc3, pwcl⟩ := (⟨pw_75.cell 0, pw_75.cell 1, pw_75.cell 2, pw_75.cell 3, pw_75.lt⟩ : _ ∧ _ ∧ _ ∧ _ ∧ _)
    obtain ⟨pgc0, pgc1, pgc2, pgc3, pgcl⟩ := (⟨pg_77.cell 0, pg_77.cell 1, pg_77.cell 2, pg_77.cell 3, pg_77.lt⟩ : _ ∧ _ ∧ _ ∧ _ ∧ _)
    go_wp2_with fail
    with_reducible refine (markNest_any _ _ Bg1 dg1 R _ g_73 R1.out).mono ?_
    rintro e w10 ⟨he, hm10, hmo⟩
    rw [HCR.out] at he
    subst he
    clear xc0 xc1 xc2 xc3 xcl pxc0 pxc1 pxc2 pxc3 pxcl pwc0 pwc1 pwc2 pwc3 pwcl pgc0 pgc1 pgc2 pgc3 pgcl
    have w_79 := w_72.mid hm10 (.inl d_w_g.out)
    have t_w_79 := hid (Nat.le_trans t_w_72.out hm10.size)
    have g_80 := hmo
    have t_g_80 := hid (Nat.le_trans t_g_73.out hm10.size)
    have x_81 := x_74.mid hm10 (.inl e_x_g.out)
    have pw_82 := pw_75.mid hm10 (.inl e_pw_g.out)
    have px_83 := px_76.mid hm10 (.inl e_px_g.out)
    have pg_84 := pg_77.mid hm10 (.inr d_g_pg.out)
    have hB_85 := below_mid hB_78 hm10 b_g.out hB_78.size
    clear hm10 w_72 t_w_72 g_73 t_g_73 hmo x_74 pw_75 px_76 pg_77 hB_78
    obtain ⟨xc0, xc1, xc2, xc3, xcl⟩ := (⟨x_81.cell 0, x_81.cell 1, x_81.cell 2, x_81.cell 3, x_81.lt⟩ : _ ∧ _ ∧ _ ∧ _ ∧ _)
    obtain ⟨pxc0, pxc1, pxc2, pxc3, pxcl⟩ := (⟨px_83.cell 0, px_83.cell 1, px_83.cell 2, px_83.cell 3, px_83.lt⟩ : _ ∧ _ ∧ _ ∧ _ ∧ _)
    obtain ⟨pwc0, pwc1, pwc2, pwc3, pwcl⟩ := (⟨pw_82.cell 0, pw_82.cell 1, pw_82.cell 2, pw_82.cell 3, pw_82.lt⟩ : _ ∧ _ ∧ _ ∧ _ ∧ _)
    obtain ⟨pgc0, pgc1, pgc2, pgc3, pgcl⟩ := (⟨pg_84.cell 0, pg_84.cell 1, pg_84.cell 2, pg_84.cell 3, pg_84.lt⟩ : _ ∧ _ ∧ _ ∧ _ ∧ _)
    go_wp2_with fail
    with_reducible refine (heldNest_any Bg1 dg1 R _ g_80.sees R1.out).mono ?_
    rintro e w11 ⟨he, hb11⟩
    rw [HCR.out] at he
    subst he
    clear xc0 xc1 xc2 xc3 xcl pxc0 pxc1 pxc2 pxc3 pxcl pwc0 pwc1 pwc2 pwc3 pwcl pgc0 pgc1 pgc2 pgc3 pgcl
    have w_86 := w_79.below hb11
    have t_w_86 := hid (Nat.le_trans t_w_79.out hb11.size)
    have g_87 := g_80.below hb11
    have t_g_87 := hid (Nat.le_trans t_g_80.out hb11.size)
    have x_88 := x_81.below hb11 x_81.lt
    have pw_89 := pw_82.below hb11 pw_82.lt
    have px_90 := px_83.below hb11 px_83.lt
    have pg_91 := pg_84.below hb11 pg_84.lt
    have hB_92 := hB_85.trans (hb11.mono hB_85.size)
    clear hb11 w_79 t_w_79 g_80 t_g_80 x_81 pw_82 px_83 pg_84 hB_85
    obtain ⟨xc0, xc1, xc2, xc3, xcl⟩ := (⟨x_88.cell 0, x_88.cell 1, x_88.cell 2, x_88.cell 3, x_88.lt⟩ : _ ∧ _ ∧ _ ∧ _ ∧ _)
    obtain ⟨pxc0, pxc1, pxc2, pxc3, pxcl⟩ := (⟨px_90.cell 0, px_90.cell 1, px_90.cell 2, px_90.cell 3, px_90.lt⟩ : _ ∧ _ ∧ _ ∧ _ ∧ _)
    obtain ⟨pwc0, pwc1, pwc2, pwc3, pwcl⟩ := (⟨pw_89.cell 0, pw_89.cell 1, pw_89.cell 2, pw_89.cell 3, pw_89.lt⟩ : _ ∧ _ ∧ _ ∧ _ ∧ _)
    obtain ⟨pgc0, pgc1, pgc2, pgc3, pgcl⟩ := (⟨pg_91.cell 0, pg_91.cell 1, pg_91.cell 2, pg_91.cell 3, pg_91.lt⟩ : _ ∧ _ ∧ _ ∧ _ ∧ _)
    go_wp2_with fail
    with_reducible refine (toNest_any p A1 c1 _ (SeesM.on h hB_92) N1.out).mono ?_
    rintro e w12 ⟨Bc1, dc1, rfl, hoc, hb12⟩
    clear xc0 xc1 xc2 xc3 xcl pxc0 pxc1 pxc2 pxc3 pxcl pwc0 pwc1 pwc2 pwc3 pwcl pgc0 pgc1 pgc2 pgc3 pgcl
    have d_w_c := t_w_86
    have d_g_c := t_g_87
    have e_x_c := hid x_88.lt
    have e_pw_c := hid pw_89.lt
    have e_px_c := hid px_90.lt
    have e_pg_c := hid pg_91.lt
    have b_c := hid hB_92.size
    have w_93 := w_86.below hb12
    have t_w_93 := hid (Nat.le_trans t_w_86.out hb12.size)
    have g_94 := g_87.below hb12
    have t_g_94 := hid (Nat.le_trans t_g_87.out hb12.size)
    have x_95 := x_88.below hb12 x_88.lt
    have pw_96 := pw_89.below hb12 pw_89.lt
    have px_97 := px_90.below hb12 px_90.lt
    have pg_98 := pg_91.below hb12 pg_91.lt
    have hB_99 := hB_92.trans (hb12.mono hB_92.size)
    clear hb12 w_86 t_w_86 g_87 t_g_87 x_88 pw_89 px_90 pg_91 hB_92
    have c_100 := IvNest.of_own hoc
    have t_c_100 := hid (Nat.le_refl w12.heap.size)
    clear hoc
    obtain ⟨xc0, xc1, xc2, xc3, xcl⟩ := (⟨x_95.cell 0, x_95.cell 1, x_95.cell 2, x_95.cell 3, x_95.lt⟩ : _ ∧ _ ∧ _ ∧ _ ∧ _)
    obtain ⟨pxc0, pxc1, pxc2, pxc3, pxcl⟩ := (⟨px_97.cell 0, px_97.cell 1, px_97.cell 2, px_97.cell 3, px_97.lt⟩ : _ ∧ _ ∧ _ ∧ _ ∧ _)
    obtain ⟨pwc0, pwc1, pwc2, pwc3, pwcl⟩ := (⟨pw_96.cell 0, pw_96.cell 1, pw_96.cell 2, pw_96.cell 3, pw_96.lt⟩ : _ ∧ _ ∧ _ ∧ _ ∧ _)
    obtain ⟨pgc0, pgc1, pgc2, pgc3, pgcl⟩ := (⟨pg_98.cell 0, pg_98.cell 1, pg_98.cell 2, pg_98.cell 3, pg_98.lt⟩ : _ ∧ _ ∧ _ ∧ _ ∧ _)
    go_wp2_with fail
    with_reducible refine (iStepNest_any p o Bc1 dc1 _ c_100.sees c_100.l1.cap N1.out).mono ?_
    rintro e w13 ⟨Bh1, dh1, he, hoh, hb13⟩
    rw [HR.out, HK.out] at he
    rw [HR.out] at hoh
    subst he
    clear xc0 xc1 xc2 xc3 xcl pxc0 pxc1 pxc2 pxc3 pxcl pwc0 pwc1 pwc2 pwc3 pwcl pgc0 pgc1 pgc2 pgc3 pgcl
    have d_w_h := t_w_93
    have d_g_h := t_g_94
    have d_c_h := t_c_100
    have e_x_h := hid x_95.lt
    have e_pw_h := hid pw_96.lt
    have e_px_h := hid px_97.lt
    have e_pg_h := hid pg_98.lt
    have b_h := hid hB_99.size
    have w_101 := w_93.below hb13
    have t_w_101 := hid (Nat.le_trans t_w_93.out hb13.size)
    have g_102 := g_94.below hb13
    have t_g_102 := hid (Nat.le_trans t_g_94.out hb13.size)
    have c_103 := c_100.below hb13
    have t_c_103 := hid (Nat.le_trans t_c_100.out hb13.size)
    have x_104 := x_95.below hb13 x_95.lt
    have pw_105 := pw_96.below hb13 pw_96.lt
    have px_106 := px_97.below hb13 px_97.lt
    have pg_107 := pg_98.below hb13 pg_98.lt
    have hB_108 := hB_99.trans (hb13.mono hB_99.size)
    clear hb13 w_93 t_w_93 g_94 t_g_94 c_100 t_c_100 x_95 pw_96 px_97 pg_98 hB_99
    have h_109 := IvNest.of_own hoh
    have t_h_109 := hid (Nat.le_refl w13.heap.size)
    clear hoh
    clear c_103 t_c_103 b_c d_w_c d_g_c e_x_c e_pw_c e_px_c e_pg_c d_c_h
    have d_w_ph := t_w_101
    have w_110 := w_101.alloc (.cells #[.int .i64 R.d, .int .i64 R.w, .slice Bh1 R.m.length dh1, .bool R.b] 27)
    have t_w_110 := hid (Nat.le_trans t_w_101.out ((Below.refl _ _).alloc (Nat.le_refl _) (.cells #[.int .i64 R.d, .int .i64 R.w, .slice Bh1 R.m.length dh1, .bool R.b] 27)).size)
    have d_g_ph := t_g_102
    have g_111 := g_102.alloc (.cells #[.int .i64 R.d, .int .i64 R.w, .slice Bh1 R.m.length dh1, .bool R.b] 27)
    have t_g_111 := hid (Nat.le_trans t_g_102.out ((Below.refl _ _).alloc (Nat.le_refl _) (.cells #[.int .i64 R.d, .int .i64 R.w, .slice Bh1 R.m.length dh1, .bool R.b] 27)).size)
    have d_h_ph := t_h_109
    have h_112 := h_109.alloc (.cells #[.int .i64 R.d, .int .i64 R.w, .slice Bh1 R.m.length dh1, .bool R.b] 27)
    have t_h_112 := hid (Nat.le_trans t_h_109.out ((Below.refl _ _).alloc (Nat.le_refl _) (.cells #[.int .i64 R.d, .int .i64 R.w, .slice Bh1 R.m.length dh1, .bool R.b] 27)).size)
    have x_113 := x_104.alloc (.cells #[.int .i64 R.d, .int .i64 R.w, .slice Bh1 R.m.length dh1, .bool R.b] 27)
    have pw_114 := pw_105.alloc (.cells #[.int .i64 R.d, .int .i64 R.w, .slice Bh1 R.m.length dh1, .bool R.b] 27)
    have px_115 := px_106.alloc (.cells #[.int .i64 R.d, .int .i64 R.w, .slice Bh1 R.m.length dh1, .bool R.b] 27)
    have pg_116 := pg_107.alloc (.cells #[.int .i64 R.d, .int .i64 R.w, .slice Bh1 R.m.length dh1, .bool R.b] 27)
    have hB_117 := hB_108.alloc hB_108.size (.cells #[.int .i64 R.d, .int .i64 R.w, .slice Bh1 R.m.length dh1, .bool R.b] 27)
    have ph_118 : At (w13.alloc (.cells #[.int .i64 R.d, .int .i64 R.w, .slice Bh1 R.m.length dh1, .bool R.b] 27)) w13.heap.size 27 #[.int .i64 R.d, .int .i64 R.w, .slice Bh1 R.m.length dh1, .bool R.b] := At.newAt _ _ rfl
    clear w_101 t_w_101 g_102 t_g_102 h_109 t_h_109 x_104 pw_105 px_106 pg_107 hB_108
    obtain ⟨xc0, xc1, xc2, xc3, xcl⟩ := (⟨x_113.cell 0, x_113.cell 1, x_113.cell 2, x_113.cell 3, x_113.lt⟩ : _ ∧ _ ∧ _ ∧ _ ∧ _)
    obtain ⟨pxc0, pxc1, pxc2, pxc3, pxcl⟩ := (⟨px_115.cell 0, px_115.cell 1, px_115.cell 2, px_115.cell 3, px_115.lt⟩ : _ ∧ _ ∧ _ ∧ _ ∧ _)
    obtain ⟨pwc0, pwc1, pwc2, pwc3, pwcl⟩ := (⟨pw_114.cell 0, pw_114.cell 1, pw_114.cell 2, pw_114.cell 3, pw_114.lt⟩ : _ ∧ _ ∧ _ ∧ _ ∧ _)
    obtain ⟨pgc0, pgc1, pgc2, pgc3, pgcl⟩ := (⟨pg_116.cell 0, pg_116.cell 1, pg_116.cell 2, pg_116.cell 3, pg_116.lt⟩ : _ ∧ _ ∧ _ ∧ _ ∧ _)
    obtain ⟨phc0, phc1, phc2, phc3, phcl⟩ := (⟨ph_118.cell 0, ph_118.cell 1, ph_118.cell 2, ph_118.cell 3, ph_118.lt⟩ : _ ∧ _ ∧ _ ∧ _ ∧ _)
    go_wp2_with fail
    with_reducible refine (eqNest_same Bh1 Bw1 dh1 dw1 R _ h_112.sees w_110.sees R1.out).mono ?_
    rintro e w14 ⟨rfl, hb14⟩
    clear xc0 xc1 xc2 xc3 xcl pxc0 pxc1 pxc2 pxc3 pxcl pwc0 pwc1 pwc2 pwc3 pwcl pgc0 pgc1 pgc2 pgc3 pgcl phc0 phc1 phc2 phc3 phcl
    have w_119 := w_110.below hb14
    have t_w_119 := hid (Nat.le_trans t_w_110.out hb14.size)
    have g_120 := g_111.below hb14
    have t_g_120 := hid (Nat.le_trans t_g_111.out hb14.size)
    have h_121 := h_112.below hb14
    have t_h_121 := hid (Nat.le_trans t_h_112.out hb14.size)
    have x_122 := x_113.below hb14 x_113.lt
    have pw_123 := pw_114.below hb14 pw_114.lt
    have px_124 := px_115.below hb14 px_115.lt
    have pg_125 := pg_116.below hb14 pg_116.lt
    have ph_126 := ph_118.below hb14 ph_118.lt
    have hB_127 := hB_117.trans (hb14.mono hB_117.size)
    clear hb14 w_110 t_w_110 g_111 t_g_111 h_112 t_h_112 x_113 pw_114 px_115 pg_116 ph_118 hB_117
    obtain ⟨xc0, xc1, xc2, xc3, xcl⟩ := (⟨x_122.cell 0, x_122.cell 1, x_122.cell 2, x_122.cell 3, x_122.lt⟩ : _ ∧ _ ∧ _ ∧ _ ∧ _)
    obtain ⟨pxc0, pxc1, pxc2, pxc3, pxcl⟩ := (⟨px_124.cell 0, px_124.cell 1, px_124.cell 2, px_124.cell 3, px_124.lt⟩ : _ ∧ _ ∧ _ ∧ _ ∧ _)
    obtain ⟨pwc0, pwc1, pwc2, pwc3, pwcl⟩ := (⟨pw_123.cell 0, pw_123.cell 1, pw_123.cell 2, pw_123.cell 3, pw_123.lt⟩ : _ ∧ _ ∧ _ ∧ _ ∧ _)
    obtain ⟨pgc0, pgc1, pgc2, pgc3, pgcl⟩ := (⟨pg_125.cell 0, pg_125.cell 1, pg_125.cell 2, pg_125.cell 3, pg_125.lt⟩ : _ ∧ _ ∧ _ ∧ _ ∧ _)
    obtain ⟨phc0, phc1, phc2, phc3, phcl⟩ := (⟨ph_126.cell 0, ph_126.cell 1, ph_126.cell 2, ph_126.cell 3, ph_126.lt⟩ : _ ∧ _ ∧ _ ∧ _ ∧ _)
    go_wp2_with fail
    with_reducible refine (heldNest_any Bg1 dg1 R _ g_120.sees R1.out).mono ?_
    rintro e w15 ⟨he, hb15⟩
    rw [HCR.out] at he
    subst he
    clear xc0 xc1 xc2 xc3 xcl pxc0 pxc1 pxc2 pxc3 pxcl pwc0 pwc1 pwc2 pwc3 pwcl pgc0 pgc1 pgc2 pgc3 pgcl phc0 phc1 phc2 phc3 phcl
    have w_128 := w_119.below hb15
    have t_w_128 := hid (Nat.le_trans t_w_119.out hb15.size)
    have g_129 := g_120.below hb15
    have t_g_129 := hid (Nat.le_trans t_g_120.out hb15.size)
    have h_130 := h_121.below hb15
    have t_h_130 := hid (Nat.le_trans t_h_121.out hb15.size)
    have x_131 := x_122.below hb15 x_122.lt
    have pw_132 := pw_123.below hb15 pw_123.lt
    have px_133 := px_124.below hb15 px_124.lt
    have pg_134 := pg_125.below hb15 pg_125.lt
    have ph_135 := ph_126.below hb15 ph_126.lt
    have hB_136 := hB_127.trans (hb15.mono hB_127.size)
    clear hb15 w_119 t_w_119 g_120 t_g_120 h_121 t_h_121 x_122 pw_123 px_124 pg_125 ph_126 hB_127
    obtain ⟨xc0, xc1, xc2, xc3, xcl⟩ := (⟨x_131.cell 0, x_131.cell 1, x_131.cell 2, x_131.cell 3, x_131.lt⟩ : _ ∧ _ ∧ _ ∧ _ ∧ _)
    obtain ⟨pxc0, pxc1, pxc2, pxc3, pxcl⟩ := (⟨px_133.cell 0, px_133.cell 1, px_133.cell 2, px_133.cell 3, px_133.lt⟩ : _ ∧ _ ∧ _ ∧ _ ∧ _)
    obtain ⟨pwc0, pwc1, pwc2, pwc3, pwcl⟩ := (⟨pw_132.cell 0, pw_132.cell 1, pw_132.cell 2, pw_132.cell 3, pw_132.lt⟩ : _ ∧ _ ∧ _ ∧ _ ∧ _)
    obtain ⟨pgc0, pgc1, pgc2, pgc3, pgcl⟩ := (⟨pg_134.cell 0, pg_134.cell 1, pg_134.cell 2, pg_134.cell 3, pg_134.lt⟩ : _ ∧ _ ∧ _ ∧ _ ∧ _)
    obtain ⟨phc0, phc1, phc2, phc3, phcl⟩ := (⟨ph_135.cell 0, ph_135.cell 1, ph_135.cell 2, ph_135.cell 3, ph_135.lt⟩ : _ ∧ _ ∧ _ ∧ _ ∧ _)
    go_wp2
    go_ret
    exact ⟨rfl, hB_136⟩
end Go.Proofs.Ythmpeahlddfpnaa

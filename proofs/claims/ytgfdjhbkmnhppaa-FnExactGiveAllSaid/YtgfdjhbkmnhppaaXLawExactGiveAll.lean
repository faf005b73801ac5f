/-
  The walk of the exact law FnExactGiveAll: at every argument it returns true and changes nothing that was there. Conditions: none.
-/
import Derived.Test.YtgfdjhbkmnhppaaSlShare
import Derived.Test.YtgfdjhbkmnhppaaMarkL
import Derived.Test.YtgfdjhbkmnhppaaShareMathB
import Derived.Test.YtgfdjhbkmnhppaaShC
import Derived.Test.YtgfdjhbkmnhppaaShI
import Derived.Deep.RegionHeld3
namespace Go.Proofs.Ytgfdjhbkmnhppaa
open Go.RowKit Sha

set_option maxHeartbeats 16000000 in
theorem walkExactGiveAll (A1 A2 : Option Addr) (c1 c2 : Nat) (p : Shr) (A_l : Option Addr) (c_l : Nat) (l : List Int) (w : World) (hm1 : p.m.length ≤ maxLen) (hm2 : p.h.length ≤ maxLen) (h : SeesR w w.heap.size A1 A2 p) (_hm_l : l.length ≤ maxLen) (_hc_l : l.length ≤ c_l) (h_l : Sees w w.heap.size A_l (ints l)) :
    Calls Try.prog 7 #[.agg #[.int .i64 p.t, .slice A1 p.m.length c1, .slice A2 p.h.length c2], .slice A_l l.length c_l] w fun e w' => e = .returned (.bool true) ∧ Below w.heap.size w w' := by
  have M1 := hid hm1
  have M2 := hid hm2
  clear hm1 hm2
  by_cases hbig_l : 1048576 < l.length
  · skip
    have hB_1 := Below.refl w.heap.size w
    have hB_2 := hB_1.alloc hB_1.size (.cells #[.int .i64 p.t, .slice A1 p.m.length c1, .slice A2 p.h.length c2] 24)
    have x_3 : At (w.alloc (.cells #[.int .i64 p.t, .slice A1 p.m.length c1, .slice A2 p.h.length c2] 24)) w.heap.size 24 #[.int .i64 p.t, .slice A1 p.m.length c1, .slice A2 p.h.length c2] := At.newAt _ _ rfl
    clear hB_1
    go_enter Try.func7, Try.ntmps7
    go_wp2
    go_ret
    exact ⟨rfl, hB_2⟩
  · skip
    by_cases hbig : 1048576 < p.m.length + p.h.length
    · skip
      have E0 : Hid ((if 1048576 < p.m.length + p.h.length then (-1 : Int) else 1048576 - ((p.m.length + p.h.length : Nat) : Int)) = -1) := hid (if_pos hbig)
      clear hbig
      have hB_4 := Below.refl w.heap.size w
      have hB_5 := hB_4.alloc hB_4.size (.cells #[.int .i64 p.t, .slice A1 p.m.length c1, .slice A2 p.h.length c2] 24)
      have x_6 : At (w.alloc (.cells #[.int .i64 p.t, .slice A1 p.m.length c1, .slice A2 p.h.length c2] 24)) w.heap.size 24 #[.int .i64 p.t, .slice A1 p.m.length c1, .slice A2 p.h.length c2] := At.newAt _ _ rfl
      clear hB_4
      go_enter Try.func7, Try.ntmps7
      obtain ⟨xc0, xc1, xc2, xcl⟩ := (⟨x_6.cell 0, x_6.cell 1, x_6.cell 2, x_6.lt⟩ : _ ∧ _ ∧ _ ∧ _)
      go_wp2_with fail
      with_reducible refine (szShare_any A1 A2 p.m.length p.h.length c1 c2 p.t _ M1.out M2.out).mono ?_
      rintro e w1 ⟨he, hb1⟩
      rw [E0.out] at he
      subst he
      clear xc0 xc1 xc2 xcl
      have x_7 := x_6.below hb1 x_6.lt
      have hB_8 := hB_5.trans (hb1.mono hB_5.size)
      clear hb1 x_6 hB_5
      go_wp2
      go_ret
      exact ⟨rfl, hB_8⟩
    · skip
      have F_l := hid (show l.length ≤ 4194304 by omega)
      have G_l := hid (show l.length ≤ 1048576 by omega)
      have N1 := hid (show p.m.length ≤ 4194304 by omega)
      have N2 := hid (show p.h.length ≤ 4194304 by omega)
      have HTOT := hid (show p.m.length + p.h.length ≤ 1048576 by omega)
      obtain ⟨V, hV⟩ : ∃ V : Int, V = 1048576 - ((p.m.length + p.h.length : Nat) : Int) := ⟨_, rfl⟩
      have E0 : Hid ((if 1048576 < p.m.length + p.h.length then (-1 : Int) else 1048576 - ((p.m.length + p.h.length : Nat) : Int)) = V) := hid (by rw [if_neg hbig, hV])
      have hle : ¬ V < 0 := by omega
      clear hV hbig
      have r1 : (giveA p l).length ≤ 4194304 := Nat.le_trans (giveA_len p l) (by decide)
      obtain ⟨X, hX⟩ : ∃ X, X = giveA p l := ⟨_, rfl⟩
      have HX : Hid (giveA p l = X) := hid hX.symm
      rw [← hX] at r1
      have RX := hid r1
      clear r1
      have hXc : ¬ (((1 : Nat) : Int) + X.length) < 0 := by omega
      clear hX
      obtain ⟨CP, hCP⟩ : ∃ CP : Int, CP = p.count := ⟨_, rfl⟩
      have HCP : Hid (p.count = CP) := hid hCP.symm
      have nCP : ¬ CP < 0 := by rw [hCP]; exact p.count_pos
      have hCPb : Hid (CP = p.count) := hid hCP
      clear hCP
      have hB_9 := Below.refl w.heap.size w
      have hB_10 := hB_9.alloc hB_9.size (.cells #[.int .i64 p.t, .slice A1 p.m.length c1, .slice A2 p.h.length c2] 24)
      have x_11 : At (w.alloc (.cells #[.int .i64 p.t, .slice A1 p.m.length c1, .slice A2 p.h.length c2] 24)) w.heap.size 24 #[.int .i64 p.t, .slice A1 p.m.length c1, .slice A2 p.h.length c2] := At.newAt _ _ rfl
      clear hB_9
      go_enter Try.func7, Try.ntmps7
      obtain ⟨xc0, xc1, xc2, xcl⟩ := (⟨x_11.cell 0, x_11.cell 1, x_11.cell 2, x_11.lt⟩ : _ ∧ _ ∧ _ ∧ _)
      go_wp2_with fail
      with_reducible refine (szShare_any A1 A2 p.m.length p.h.length c1 c2 p.t _ M1.out M2.out).mono ?_
      rintro e w2 ⟨he, hb2⟩
      rw [E0.out] at he
      subst he
      clear xc0 xc1 xc2 xcl
      have x_12 := x_11.below hb2 x_11.lt
      have hB_13 := hB_10.trans (hb2.mono hB_10.size)
      clear hb2 x_11 hB_10
      obtain ⟨xc0, xc1, xc2, xcl⟩ := (⟨x_12.cell 0, x_12.cell 1, x_12.cell 2, x_12.lt⟩ : _ ∧ _ ∧ _ ∧ _)
      go_wp2_with fail
      with_reducible refine (toShare_any p A1 A2 c1 c2 _ (h.on hB_13) N1.out N2.out).mono ?_
      rintro e w3 ⟨Ba1, Ba2, da1, da2, rfl, hoa, hb3⟩
      clear xc0 xc1 xc2 xcl
      have e_x_a := hid x_12.lt
      have b_a := hid hB_13.size
      have x_14 := x_12.below hb3 x_12.lt
      have hB_15 := hB_13.trans (hb3.mono hB_13.size)
      clear hb3 x_12 hB_13
      have a_16 := IvShare.of_own hoa
      have t_a_16 := hid (Nat.le_refl w3.heap.size)
      clear hoa
      obtain ⟨xc0, xc1, xc2, xcl⟩ := (⟨x_14.cell 0, x_14.cell 1, x_14.cell 2, x_14.lt⟩ : _ ∧ _ ∧ _ ∧ _)
      go_wp2_with fail
      with_reducible refine (toIntS_any A_l c_l l _ ((h_l.below hB_15).more hB_15.size) F_l.out).mono ?_
      rintro e w4 ⟨val, rfl, hoal, hb4⟩
      clear xc0 xc1 xc2 xcl
      obtain ⟨Bal1, dal1, rfl, _⟩ := hoal.form
      have d_a_al := t_a_16
      have e_x_al := hid x_14.lt
      have b_al := hid hB_15.size
      have a_17 := a_16.below hb4
      have t_a_17 := hid (Nat.le_trans t_a_16.out hb4.size)
      have x_18 := x_14.below hb4 x_14.lt
      have hB_19 := hB_15.trans (hb4.mono hB_15.size)
      clear hb4 a_16 t_a_16 x_14 hB_15
      have al_20 := IvL.of_own hoal
      have t_al_20 := hid (Nat.le_refl w4.heap.size)
      clear hoal
      obtain ⟨xc0, xc1, xc2, xcl⟩ := (⟨x_18.cell 0, x_18.cell 1, x_18.cell 2, x_18.lt⟩ : _ ∧ _ ∧ _ ∧ _)
      go_wp2_with fail
      with_reducible refine (sGiveAll_any p l Ba1 Ba2 Bal1 da1 da2 dal1 _ a_17.sees al_20.sees N1.out N2.out F_l.out).mono ?_
      rintro e w5 ⟨vw, rfl, how, hb5⟩
      rw [HX.out] at how
      obtain ⟨Bw1, dw1, rfl, _⟩ := how.form
      clear xc0 xc1 xc2 xcl
      have d_a_w := t_a_17
      have d_al_w := t_al_20
      have e_x_w := hid x_18.lt
      have b_w := hid hB_19.size
      have a_21 := a_17.below hb5
      have t_a_21 := hid (Nat.le_trans t_a_17.out hb5.size)
      have al_22 := al_20.below hb5
      have t_al_22 := hid (Nat.le_trans t_al_20.out hb5.size)
      have x_23 := x_18.below hb5 x_18.lt
      have hB_24 := hB_19.trans (hb5.mono hB_19.size)
      clear hb5 a_17 t_a_17 al_20 t_al_20 x_18 hB_19
      have w_25 := IvL.of_own how
      have t_w_25 := hid (Nat.le_refl w5.heap.size)
      clear how
      clear a_21 t_a_21 b_a e_x_a d_a_al d_a_w
      clear al_22 t_al_22 b_al e_x_al d_al_w
      obtain ⟨xc0, xc1, xc2, xcl⟩ := (⟨x_23.cell 0, x_23.cell 1, x_23.cell 2, x_23.lt⟩ : _ ∧ _ ∧ _ ∧ _)
      go_wp2_with fail
      with_reducible refine (toShare_any p A1 A2 c1 c2 _ (h.on hB_24) N1.out N2.out).mono ?_
      rintro e w6 ⟨By1, By2, dy1, dy2, rfl, hoy, hb6⟩
      clear xc0 xc1 xc2 xcl
      have d_w_y := t_w_25
      have e_x_y := hid x_23.lt
      have b_y := hid hB_24.size
      have w_26 := w_25.below hb6
      have t_w_26 := hid (Nat.le_trans t_w_25.out hb6.size)
      have x_27 := x_23.below hb6 x_23.lt
      have hB_28 := hB_24.trans (hb6.mono hB_24.size)
      clear hb6 w_25 t_w_25 x_23 hB_24
      have y_29 := IvShare.of_own hoy
      have t_y_29 := hid (Nat.le_refl w6.heap.size)
      clear hoy
      have d_w_px := t_w_26
      have w_30 := w_26.alloc (.cells #[.int .i64 p.t, .slice By1 p.m.length dy1, .slice By2 p.h.length dy2] 27)
      have t_w_30 := hid (Nat.le_trans t_w_26.out ((Below.refl _ _).alloc (Nat.le_refl _) (.cells #[.int .i64 p.t, .slice By1 p.m.length dy1, .slice By2 p.h.length dy2] 27)).size)
      have d_y_px := t_y_29
      have y_31 := y_29.alloc (.cells #[.int .i64 p.t, .slice By1 p.m.length dy1, .slice By2 p.h.length dy2] 27)
      have t_y_31 := hid (Nat.le_trans t_y_29.out ((Below.refl _ _).alloc (Nat.le_refl _) (.cells #[.int .i64 p.t, .slice By1 p.m.length dy1, .slice By2 p.h.length dy2] 27)).size)
      have x_32 := x_27.alloc (.cells #[.int .i64 p.t, .slice By1 p.m.length dy1, .slice By2 p.h.length dy2] 27)
      have hB_33 := hB_28.alloc hB_28.size (.cells #[.int .i64 p.t, .slice By1 p.m.length dy1, .slice By2 p.h.length dy2] 27)
      have px_34 : At (w6.alloc (.cells #[.int .i64 p.t, .slice By1 p.m.length dy1, .slice By2 p.h.length dy2] 27)) w6.heap.size 27 #[.int .i64 p.t, .slice By1 p.m.length dy1, .slice By2 p.h.length dy2] := At.newAt _ _ rfl
      clear w_26 t_w_26 y_29 t_y_29 x_27 hB_28
      obtain ⟨xc0, xc1, xc2, xcl⟩ := (⟨x_32.cell 0, x_32.cell 1, x_32.cell 2, x_32.lt⟩ : _ ∧ _ ∧ _ ∧ _)
      obtain ⟨pxc0, pxc1, pxc2, pxcl⟩ := (⟨px_34.cell 0, px_34.cell 1, px_34.cell 2, px_34.lt⟩ : _ ∧ _ ∧ _ ∧ _)
      go_wp2_with fail
      with_reducible refine (toIntS_any A_l c_l l _ ((h_l.below hB_33).more hB_33.size) F_l.out).mono ?_
      rintro e w7 ⟨vyl, rfl, hoyl, hb7⟩
      clear xc0 xc1 xc2 xcl pxc0 pxc1 pxc2 pxcl
      obtain ⟨Byl1, dyl1, rfl, _⟩ := hoyl.form
      have d_w_yl := t_w_30
      have d_y_yl := t_y_31
      have e_x_yl := hid x_32.lt
      have e_px_yl := hid px_34.lt
      have b_yl := hid hB_33.size
      have w_35 := w_30.below hb7
      have t_w_35 := hid (Nat.le_trans t_w_30.out hb7.size)
      have y_36 := y_31.below hb7
      have t_y_36 := hid (Nat.le_trans t_y_31.out hb7.size)
      have x_37 := x_32.below hb7 x_32.lt
      have px_38 := px_34.below hb7 px_34.lt
      have hB_39 := hB_33.trans (hb7.mono hB_33.size)
      clear hb7 w_30 t_w_30 y_31 t_y_31 x_32 px_34 hB_33
      have yl_40 := IvL.of_own hoyl
      have t_yl_40 := hid (Nat.le_refl w7.heap.size)
      clear hoyl
      obtain ⟨xc0, xc1, xc2, xcl⟩ := (⟨x_37.cell 0, x_37.cell 1, x_37.cell 2, x_37.lt⟩ : _ ∧ _ ∧ _ ∧ _)
      obtain ⟨pxc0, pxc1, pxc2, pxcl⟩ := (⟨px_38.cell 0, px_38.cell 1, px_38.cell 2, px_38.lt⟩ : _ ∧ _ ∧ _ ∧ _)
      go_wp2_with fail
      with_reducible refine (iGiveAll_any p l By1 By2 Byl1 dy1 dy2 dyl1 _ y_36.sees yl_40.sees N1.out N2.out F_l.out).mono ?_
      rintro e w8 ⟨vg, rfl, hog, hb8⟩
      rw [HX.out] at hog
      obtain ⟨Bg1, dg1, rfl, _⟩ := hog.form
      clear xc0 xc1 xc2 xcl pxc0 pxc1 pxc2 pxcl
      have d_w_g := t_w_35
      have d_y_g := t_y_36
      have d_yl_g := t_yl_40
      have e_x_g := hid x_37.lt
      have e_px_g := hid px_38.lt
      have b_g := hid hB_39.size
      have w_41 := w_35.below hb8
      have t_w_41 := hid (Nat.le_trans t_w_35.out hb8.size)
      have y_42 := y_36.below hb8
      have t_y_42 := hid (Nat.le_trans t_y_36.out hb8.size)
      have yl_43 := yl_40.below hb8
      have t_yl_43 := hid (Nat.le_trans t_yl_40.out hb8.size)
      have x_44 := x_37.below hb8 x_37.lt
      have px_45 := px_38.below hb8 px_38.lt
      have hB_46 := hB_39.trans (hb8.mono hB_39.size)
      clear hb8 w_35 t_w_35 y_36 t_y_36 yl_40 t_yl_40 x_37 px_38 hB_39
      have g_47 := IvL.of_own hog
      have t_g_47 := hid (Nat.le_refl w8.heap.size)
      clear hog
      obtain ⟨xc0, xc1, xc2, xcl⟩ := (⟨x_44.cell 0, x_44.cell 1, x_44.cell 2, x_44.lt⟩ : _ ∧ _ ∧ _ ∧ _)
      obtain ⟨pxc0, pxc1, pxc2, pxcl⟩ := (⟨px_45.cell 0, px_45.cell 1, px_45.cell 2, px_45.lt⟩ : _ ∧ _ ∧ _ ∧ _)
      go_wp2_with fail
      with_reducible refine (eqIntS_same Bg1 Bw1 dg1 dw1 X _ g_47.sees w_41.sees RX.out).mono ?_
      rintro e w9 ⟨rfl, hb9⟩
      clear xc0 xc1 xc2 xcl pxc0 pxc1 pxc2 pxcl
      have w_48 := w_41.below hb9
      have t_w_48 := hid (Nat.le_trans t_w_41.out hb9.size)
      have y_49 := y_42.below hb9
      have t_y_49 := hid (Nat.le_trans t_y_42.out hb9.size)
      have yl_50 := yl_43.below hb9
      have t_yl_50 := hid (Nat.le_trans t_yl_43.out hb9.size)
      have g_51 := g_47.below hb9
      have t_g_51 := hid (Nat.le_trans t_g_47.out hb9.size)
      have x_52 := x_44.below hb9 x_44.lt
      have px_53 := px_45.below hb9 px_45.lt
      have hB_54 := hB_46.trans (hb9.mono hB_46.size)
      clear hb9 w_41 t_w_41 y_42 t_y_42 yl_43 t_yl_43 g_47 t_g_47 x_44 px_45 hB_46
      obtain ⟨xc0, xc1, xc2, xcl⟩ := (⟨x_52.cell 0, x_52.cell 1, x_52.cell 2, x_52.lt⟩ : _ ∧ _ ∧ _ ∧ _)
      obtain ⟨pxc0, pxc1, pxc2, pxcl⟩ := (⟨px_53.cell 0, px_53.cell 1, px_53.cell 2, px_53.lt⟩ : _ ∧ _ ∧ _ ∧ _)
      have K1 := hid (⟨x_52.cell 0, x_52.cell 1, x_52.cell 2, px_53.cell 0, px_53.cell 1, px_53.cell 2⟩ : (fun w' => w'.cell? ⟨w.heap.size, 0, none⟩ = some (.int .i64 p.t) ∧ w'.cell? ⟨w.heap.size, 1, none⟩ = some (.slice A1 p.m.length c1) ∧ w'.cell? ⟨w.heap.size, 2, none⟩ = some (.slice A2 p.h.length c2) ∧ w'.cell? ⟨w6.heap.size, 0, none⟩ = some (.int .i64 p.t) ∧ w'.cell? ⟨w6.heap.size, 1, none⟩ = some (.slice By1 p.m.length dy1) ∧ w'.cell? ⟨w6.heap.size, 2, none⟩ = some (.slice By2 p.h.length dy2)) w9)
      have w_d := w_48.drew
      have y_d := y_49.drew
      have yl_d := yl_50.drew
      have g_d := g_51.drew
      have x_d := x_52.drew
      have px_d := px_53.drew
      have hB_d := hB_54.drew
      have K2 := hid (⟨x_d.cell 0, x_d.cell 1, x_d.cell 2, px_d.cell 0, px_d.cell 1, px_d.cell 2⟩ : (fun w' => w'.cell? ⟨w.heap.size, 0, none⟩ = some (.int .i64 p.t) ∧ w'.cell? ⟨w.heap.size, 1, none⟩ = some (.slice A1 p.m.length c1) ∧ w'.cell? ⟨w.heap.size, 2, none⟩ = some (.slice A2 p.h.length c2) ∧ w'.cell? ⟨w6.heap.size, 0, none⟩ = some (.int .i64 p.t) ∧ w'.cell? ⟨w6.heap.size, 1, none⟩ = some (.slice By1 p.m.length dy1) ∧ w'.cell? ⟨w6.heap.size, 2, none⟩ = some (.slice By2 p.h.length dy2)) w9.drew)
      go_wp2_with fail
      go_region_held3 (fun w' => w'.cell? ⟨w.heap.size, 0, none⟩ = some (.int .i64 p.t) ∧ w'.cell? ⟨w.heap.size, 1, none⟩ = some (.slice A1 p.m.length c1) ∧ w'.cell? ⟨w.heap.size, 2, none⟩ = some (.slice A2 p.h.length c2) ∧ w'.cell? ⟨w6.heap.size, 0, none⟩ = some (.int .i64 p.t) ∧ w'.cell? ⟨w6.heap.size, 1, none⟩ = some (.slice By1 p.m.length dy1) ∧ w'.cell? ⟨w6.heap.size, 2, none⟩ = some (.slice By2 p.h.length dy2))
        (first | with_reducible exact K1.out | with_reducible exact K2.out | with_reducible exact K3.out | with_reducible exact K4.out | go_keep)
        (first
          | (go_at_call 13; (with_reducible refine (toShare_any p A1 A2 c1 c2 _ (h.on hB_d) N1.out N2.out).mono ?_); rintro e wa ⟨Bz1, Bz2, dz1, dz2, rfl, hoz, hba⟩; have w_a := w_d.below hba; have y_a := y_d.below hba; have yl_a := yl_d.below hba; have g_a := g_d.below hba; have x_a := x_d.below hba x_d.lt; have px_a := px_d.below hba px_d.lt; have hB_a := hB_d.trans (hba.mono hB_d.size); have K3 := hid (⟨x_a.cell 0, x_a.cell 1, x_a.cell 2, px_a.cell 0, px_a.cell 1, px_a.cell 2⟩ : (fun w' => w'.cell? ⟨w.heap.size, 0, none⟩ = some (.int .i64 p.t) ∧ w'.cell? ⟨w.heap.size, 1, none⟩ = some (.slice A1 p.m.length c1) ∧ w'.cell? ⟨w.heap.size, 2, none⟩ = some (.slice A2 p.h.length c2) ∧ w'.cell? ⟨w6.heap.size, 0, none⟩ = some (.int .i64 p.t) ∧ w'.cell? ⟨w6.heap.size, 1, none⟩ = some (.slice By1 p.m.length dy1) ∧ w'.cell? ⟨w6.heap.size, 2, none⟩ = some (.slice By2 p.h.length dy2)) wa))
          | (go_at_call 15; (with_reducible refine (eqShare_same By1 By2 Bz1 Bz2 dy1 dy2 dz1 dz2 p _ y_a.sees (IvShare.of_own hoz).sees N1.out N2.out).mono ?_); rintro e wb ⟨rfl, hbb⟩; have w_b := w_a.below hbb; have y_b := y_a.below hbb; have yl_b := yl_a.below hbb; have g_b := g_a.below hbb; have x_b := x_a.below hbb x_a.lt; have px_b := px_a.below hbb px_a.lt; have hB_b := hB_a.trans (hbb.mono hB_a.size); have K4 := hid (⟨x_b.cell 0, x_b.cell 1, x_b.cell 2, px_b.cell 0, px_b.cell 1, px_b.cell 2⟩ : (fun w' => w'.cell? ⟨w.heap.size, 0, none⟩ = some (.int .i64 p.t) ∧ w'.cell? ⟨w.heap.size, 1, none⟩ = some (.slice A1 p.m.length c1) ∧ w'.cell? ⟨w.heap.size, 2, none⟩ = some (.slice A2 p.h.length c2) ∧ w'.cell? ⟨w6.heap.size, 0, none⟩ = some (.int .i64 p.t) ∧ w'.cell? ⟨w6.heap.size, 1, none⟩ = some (.slice By1 p.m.length dy1) ∧ w'.cell? ⟨w6.heap.size, 2, none⟩ = some (.slice By2 p.h.length dy2)) wb))
          | fail)
      have w_55 := w_b
      have t_w_55 := hid (Nat.le_trans t_w_48.out (Nat.le_trans hba.size hbb.size))
      have y_56 := y_b
      have t_y_56 := hid (Nat.le_trans t_y_49.out (Nat.le_trans hba.size hbb.size))
      have yl_57 := yl_b
      have t_yl_57 := hid (Nat.le_trans t_yl_50.out (Nat.le_trans hba.size hbb.size))
      have g_58 := g_b
      have t_g_58 := hid (Nat.le_trans t_g_51.out (Nat.le_trans hba.size hbb.size))
      have x_59 := x_b
      have px_60 := px_b
      have hB_61 := hB_b
      clear w_48 t_w_48 y_49 t_y_49 yl_50 t_yl_50 g_51 t_g_51 x_52 px_53 hB_54 K1 K2 K3 K4 w_d w_a w_b y_d y_a y_b yl_d yl_a yl_b g_d g_a g_b x_d x_a x_b px_d px_a px_b hB_d hB_a hB_b hba hbb hoz
      clear xc0 xc1 xc2 xcl pxc0 pxc1 pxc2 pxcl
      obtain ⟨xc0, xc1, xc2, xcl⟩ := (⟨x_59.cell 0, x_59.cell 1, x_59.cell 2, x_59.lt⟩ : _ ∧ _ ∧ _ ∧ _)
      obtain ⟨pxc0, pxc1, pxc2, pxcl⟩ := (⟨px_60.cell 0, px_60.cell 1, px_60.cell 2, px_60.lt⟩ : _ ∧ _ ∧ _ ∧ _)
      go_wp2_with fail
      with_reducible refine (toIntS_any A_l c_l l _ ((h_l.below hB_61).more hB_61.size) F_l.out).mono ?_
      rintro e w10 ⟨vzl, rfl, hozl, hb10⟩
      clear xc0 xc1 xc2 xcl pxc0 pxc1 pxc2 pxcl
      obtain ⟨Bzl1, dzl1, rfl, _⟩ := hozl.form
      have d_w_zl := t_w_55
      have d_y_zl := t_y_56
      have d_yl_zl := t_yl_57
      have d_g_zl := t_g_58
      have e_x_zl := hid x_59.lt
      have e_px_zl := hid px_60.lt
      have b_zl := hid hB_61.size
      have w_62 := w_55.below hb10
      have t_w_62 := hid (Nat.le_trans t_w_55.out hb10.size)
      have y_63 := y_56.below hb10
      have t_y_63 := hid (Nat.le_trans t_y_56.out hb10.size)
      have yl_64 := yl_57.below hb10
      have t_yl_64 := hid (Nat.le_trans t_yl_57.out hb10.size)
      have g_65 := g_58.below hb10
      have t_g_65 := hid (Nat.le_trans t_g_58.out hb10.size)
      have x_66 := x_59.below hb10 x_59.lt
      have px_67 := px_60.below hb10 px_60.lt
      have hB_68 := hB_61.trans (hb10.mono hB_61.size)
      clear hb10 w_55 t_w_55 y_56 t_y_56 yl_57 t_yl_57 g_58 t_g_58 x_59 px_60 hB_61
      have zl_69 := IvL.of_own hozl
      have t_zl_69 := hid (Nat.le_refl w10.heap.size)
      clear hozl
      obtain ⟨xc0, xc1, xc2, xcl⟩ := (⟨x_66.cell 0, x_66.cell 1, x_66.cell 2, x_66.lt⟩ : _ ∧ _ ∧ _ ∧ _)
      obtain ⟨pxc0, pxc1, pxc2, pxcl⟩ := (⟨px_67.cell 0, px_67.cell 1, px_67.cell 2, px_67.lt⟩ : _ ∧ _ ∧ _ ∧ _)
      go_wp2_with fail
      with_reducible refine (eqIntS_same Byl1 Bzl1 dyl1 dzl1 l _ yl_64.sees zl_69.sees F_l.out).mono ?_
      rintro e w11 ⟨rfl, hb11⟩
      clear xc0 xc1 xc2 xcl pxc0 pxc1 pxc2 pxcl
      have w_70 := w_62.below hb11
      have t_w_70 := hid (Nat.le_trans t_w_62.out hb11.size)
      have y_71 := y_63.below hb11
      have t_y_71 := hid (Nat.le_trans t_y_63.out hb11.size)
      have yl_72 := yl_64.below hb11
      have t_yl_72 := hid (Nat.le_trans t_yl_64.out hb11.size)
      have g_73 := g_65.below hb11
      have t_g_73 := hid (Nat.le_trans t_g_65.out hb11.size)
      have zl_74 := zl_69.below hb11
      have t_zl_74 := hid (Nat.le_trans t_zl_69.out hb11.size)
      have x_75 := x_66.below hb11 x_66.lt
      have px_76 := px_67.below hb11 px_67.lt
      have hB_77 := hB_68.trans (hb11.mono hB_68.size)
      clear hb11 w_62 t_w_62 y_63 t_y_63 yl_64 t_yl_64 g_65 t_g_65 zl_69 t_zl_69 x_66 px_67 hB_68
      clear zl_74 t_zl_74 b_zl d_w_zl d_y_zl d_yl_zl d_g_zl e_x_zl e_px_zl
      obtain ⟨xc0, xc1, xc2, xcl⟩ := (⟨x_75.cell 0, x_75.cell 1, x_75.cell 2, x_75.lt⟩ : _ ∧ _ ∧ _ ∧ _)
      obtain ⟨pxc0, pxc1, pxc2, pxcl⟩ := (⟨px_76.cell 0, px_76.cell 1, px_76.cell 2, px_76.lt⟩ : _ ∧ _ ∧ _ ∧ _)
      go_wp2_with fail
      with_reducible refine (markShare_any _ _ By1 By2 dy1 dy2 p _ y_71 N1.out N2.out).mono ?_
      rintro e w12 ⟨he, hm12, hmo⟩
      rw [HCP.out] at he
      subst he
      clear xc0 xc1 xc2 xcl pxc0 pxc1 pxc2 pxcl
      have w_78 := w_70.mid hm12 (.inl d_w_y.out)
      have t_w_78 := hid (Nat.le_trans t_w_70.out hm12.size)
      have y_79 := hmo
      have t_y_79 := hid (Nat.le_trans t_y_71.out hm12.size)
      have yl_80 := yl_72.mid hm12 (.inr d_y_yl.out)
      have t_yl_80 := hid (Nat.le_trans t_yl_72.out hm12.size)
      have g_81 := g_73.mid hm12 (.inr d_y_g.out)
      have t_g_81 := hid (Nat.le_trans t_g_73.out hm12.size)
      have x_82 := x_75.mid hm12 (.inl e_x_y.out)
      have px_83 := px_76.mid hm12 (.inr d_y_px.out)
      have hB_84 := below_mid hB_77 hm12 b_y.out hB_77.size
      clear hm12 w_70 t_w_70 y_71 t_y_71 yl_72 t_yl_72 g_73 t_g_73 hmo x_75 px_76 hB_77
      have HK0 := hid (show 0 ≤ CP ∧ CP ≤ 1073741824 by have := hCPb.out; unfold Shr.count at this; have := HTOT.out; have := G_l.out; omega)
      obtain ⟨xc0, xc1, xc2, xcl⟩ := (⟨x_82.cell 0, x_82.cell 1, x_82.cell 2, x_82.lt⟩ : _ ∧ _ ∧ _ ∧ _)
      obtain ⟨pxc0, pxc1, pxc2, pxcl⟩ := (⟨px_83.cell 0, px_83.cell 1, px_83.cell 2, px_83.lt⟩ : _ ∧ _ ∧ _ ∧ _)
      go_wp2_with fail
      refine (markIvL_z CP _ _ Byl1 dyl1 l _ yl_80 F_l.out HK0.out).mono ?_
      rintro e w13 ⟨he, hm13, hmo⟩
      subst he
      clear xc0 xc1 xc2 xcl pxc0 pxc1 pxc2 pxcl
      have w_85 := w_78.mid hm13 (.inl d_w_yl.out)
      have t_w_85 := hid (Nat.le_trans t_w_78.out hm13.size)
      have y_86 := y_79.mid hm13 (.inl d_y_yl.out)
      have t_y_86 := hid (Nat.le_trans t_y_79.out hm13.size)
      have yl_87 := hmo
      have t_yl_87 := hid (Nat.le_trans t_yl_80.out hm13.size)
      have g_88 := g_81.mid hm13 (.inr d_yl_g.out)
      have t_g_88 := hid (Nat.le_trans t_g_81.out hm13.size)
      have x_89 := x_82.mid hm13 (.inl e_x_yl.out)
      have px_90 := px_83.mid hm13 (.inl e_px_yl.out)
      have hB_91 := below_mid hB_84 hm13 b_yl.out hB_84.size
      clear hm13 w_78 t_w_78 y_79 t_y_79 yl_80 t_yl_80 g_81 t_g_81 hmo x_82 px_83 hB_84
      clear HK0
      have hk1 : ¬ (CP + (l.length : Int)) < 0 := by omega
      clear y_86 t_y_86 b_y d_w_y e_x_y d_y_px d_y_g d_y_yl
      clear yl_87 t_yl_87 b_yl d_w_yl e_x_yl e_px_yl d_yl_g
      obtain ⟨xc0, xc1, xc2, xcl⟩ := (⟨x_89.cell 0, x_89.cell 1, x_89.cell 2, x_89.lt⟩ : _ ∧ _ ∧ _ ∧ _)
      obtain ⟨pxc0, pxc1, pxc2, pxcl⟩ := (⟨px_90.cell 0, px_90.cell 1, px_90.cell 2, px_90.lt⟩ : _ ∧ _ ∧ _ ∧ _)
      go_wp2_with fail
      with_reducible refine (eqIntS_same Bg1 Bw1 dg1 dw1 X _ g_88.sees w_85.sees RX.out).mono ?_
      rintro e w14 ⟨rfl, hb14⟩
      clear xc0 xc1 xc2 xcl pxc0 pxc1 pxc2 pxcl
      have w_92 := w_85.below hb14
      have t_w_92 := hid (Nat.le_trans t_w_85.out hb14.size)
      have g_93 := g_88.below hb14
      have t_g_93 := hid (Nat.le_trans t_g_88.out hb14.size)
      have x_94 := x_89.below hb14 x_89.lt
      have px_95 := px_90.below hb14 px_90.lt
      have hB_96 := hB_91.trans (hb14.mono hB_91.size)
      clear hb14 w_85 t_w_85 g_88 t_g_88 x_89 px_90 hB_91
      obtain ⟨xc0, xc1, xc2, xcl⟩ := (⟨x_94.cell 0, x_94.cell 1, x_94.cell 2, x_94.lt⟩ : _ ∧ _ ∧ _ ∧ _)
      obtain ⟨pxc0, pxc1, pxc2, pxcl⟩ := (⟨px_95.cell 0, px_95.cell 1, px_95.cell 2, px_95.lt⟩ : _ ∧ _ ∧ _ ∧ _)
      go_wp2_with fail
      refine (markIvL_any 1 _ _ Bg1 dg1 X _ g_93 RX.out (by decide)).mono ?_
      rintro e w15 ⟨he, hm15, hmo⟩
      subst he
      clear xc0 xc1 xc2 xcl pxc0 pxc1 pxc2 pxcl
      have w_97 := w_92.mid hm15 (.inl d_w_g.out)
      have t_w_97 := hid (Nat.le_trans t_w_92.out hm15.size)
      have g_98 := hmo
      have t_g_98 := hid (Nat.le_trans t_g_93.out hm15.size)
      have x_99 := x_94.mid hm15 (.inl e_x_g.out)
      have px_100 := px_95.mid hm15 (.inl e_px_g.out)
      have hB_101 := below_mid hB_96 hm15 b_g.out hB_96.size
      clear hm15 w_92 t_w_92 g_93 t_g_93 hmo x_94 px_95 hB_96
      obtain ⟨xc0, xc1, xc2, xcl⟩ := (⟨x_99.cell 0, x_99.cell 1, x_99.cell 2, x_99.lt⟩ : _ ∧ _ ∧ _ ∧ _)
      obtain ⟨pxc0, pxc1, pxc2, pxcl⟩ := (⟨px_100.cell 0, px_100.cell 1, px_100.cell 2, px_100.lt⟩ : _ ∧ _ ∧ _ ∧ _)
      go_wp2_with fail
      refine (heldIntS_g 1 Bg1 X.length dg1 _ g_98.sees RX.out (by decide)).mono ?_
      rintro e w' ⟨he, rfl⟩
      subst he
      clear xc0 xc1 xc2 xcl pxc0 pxc1 pxc2 pxcl
      obtain ⟨xc0, xc1, xc2, xcl⟩ := (⟨x_99.cell 0, x_99.cell 1, x_99.cell 2, x_99.lt⟩ : _ ∧ _ ∧ _ ∧ _)
      obtain ⟨pxc0, pxc1, pxc2, pxcl⟩ := (⟨px_100.cell 0, px_100.cell 1, px_100.cell 2, px_100.lt⟩ : _ ∧ _ ∧ _ ∧ _)
      go_wp2_with fail
      with_reducible refine (toShare_any p A1 A2 c1 c2 _ (h.on hB_101) N1.out N2.out).mono ?_
      rintro e w16 ⟨Bc1, Bc2, dc1, dc2, rfl, hoc, hb16⟩
      clear xc0 xc1 xc2 xcl pxc0 pxc1 pxc2 pxcl
      have d_w_c := t_w_97
      have d_g_c := t_g_98
      have e_x_c := hid x_99.lt
      have e_px_c := hid px_100.lt
      have b_c := hid hB_101.size
      have w_102 := w_97.below hb16
      have t_w_102 := hid (Nat.le_trans t_w_97.out hb16.size)
      have g_103 := g_98.below hb16
      have t_g_103 := hid (Nat.le_trans t_g_98.out hb16.size)
      have x_104 := x_99.below hb16 x_99.lt
      have px_105 := px_100.below hb16 px_100.lt
      have hB_106 := hB_101.trans (hb16.mono hB_101.size)
      clear hb16 w_97 t_w_97 g_98 t_g_98 x_99 px_100 hB_101
      have c_107 := IvShare.of_own hoc
      have t_c_107 := hid (Nat.le_refl w16.heap.size)
      clear hoc
      obtain ⟨xc0, xc1, xc2, xcl⟩ := (⟨x_104.cell 0, x_104.cell 1, x_104.cell 2, x_104.lt⟩ : _ ∧ _ ∧ _ ∧ _)
      obtain ⟨pxc0, pxc1, pxc2, pxcl⟩ := (⟨px_105.cell 0, px_105.cell 1, px_105.cell 2, px_105.lt⟩ : _ ∧ _ ∧ _ ∧ _)
      go_wp2_with fail
      with_reducible refine (toIntS_any A_l c_l l _ ((h_l.below hB_106).more hB_106.size) F_l.out).mono ?_
      rintro e w17 ⟨vcl, rfl, hocl, hb17⟩
      clear xc0 xc1 xc2 xcl pxc0 pxc1 pxc2 pxcl
      obtain ⟨Bcl1, dcl1, rfl, _⟩ := hocl.form
      have d_w_cl := t_w_102
      have d_g_cl := t_g_103
      have d_c_cl := t_c_107
      have e_x_cl := hid x_104.lt
      have e_px_cl := hid px_105.lt
      have b_cl := hid hB_106.size
      have w_108 := w_102.below hb17
      have t_w_108 := hid (Nat.le_trans t_w_102.out hb17.size)
      have g_109 := g_103.below hb17
      have t_g_109 := hid (Nat.le_trans t_g_103.out hb17.size)
      have c_110 := c_107.below hb17
      have t_c_110 := hid (Nat.le_trans t_c_107.out hb17.size)
      have x_111 := x_104.below hb17 x_104.lt
      have px_112 := px_105.below hb17 px_105.lt
      have hB_113 := hB_106.trans (hb17.mono hB_106.size)
      clear hb17 w_102 t_w_102 g_103 t_g_103 c_107 t_c_107 x_104 px_105 hB_106
      have cl_114 := IvL.of_own hocl
      have t_cl_114 := hid (Nat.le_refl w17.heap.size)
      clear hocl
      obtain ⟨xc0, xc1, xc2, xcl⟩ := (⟨x_111.cell 0, x_111.cell 1, x_111.cell 2, x_111.lt⟩ : _ ∧ _ ∧ _ ∧ _)
      obtain ⟨pxc0, pxc1, pxc2, pxcl⟩ := (⟨px_112.cell 0, px_112.cell 1, px_112.cell 2, px_112.lt⟩ : _ ∧ _ ∧ _ ∧ _)
      go_wp2_with fail
      with_reducible refine (iGiveAll_any p l Bc1 Bc2 Bcl1 dc1 dc2 dcl1 _ c_110.sees cl_114.sees N1.out N2.out F_l.out).mono ?_
      rintro e w18 ⟨vh, rfl, hoh, hb18⟩
      rw [HX.out] at hoh
      obtain ⟨Bh1, dh1, rfl, _⟩ := hoh.form
      clear xc0 xc1 xc2 xcl pxc0 pxc1 pxc2 pxcl
      have d_w_h := t_w_108
      have d_g_h := t_g_109
      have d_c_h := t_c_110
      have d_cl_h := t_cl_114
      have e_x_h := hid x_111.lt
      have e_px_h := hid px_112.lt
      have b_h := hid hB_113.size
      have w_115 := w_108.below hb18
      have t_w_115 := hid (Nat.le_trans t_w_108.out hb18.size)
      have g_116 := g_109.below hb18
      have t_g_116 := hid (Nat.le_trans t_g_109.out hb18.size)
      have c_117 := c_110.below hb18
      have t_c_117 := hid (Nat.le_trans t_c_110.out hb18.size)
      have cl_118 := cl_114.below hb18
      have t_cl_118 := hid (Nat.le_trans t_cl_114.out hb18.size)
      have x_119 := x_111.below hb18 x_111.lt
      have px_120 := px_112.below hb18 px_112.lt
      have hB_121 := hB_113.trans (hb18.mono hB_113.size)
      clear hb18 w_108 t_w_108 g_109 t_g_109 c_110 t_c_110 cl_114 t_cl_114 x_111 px_112 hB_113
      have h_122 := IvL.of_own hoh
      have t_h_122 := hid (Nat.le_refl w18.heap.size)
      clear hoh
      clear c_117 t_c_117 b_c d_w_c d_g_c e_x_c e_px_c d_c_h d_c_cl
      clear cl_118 t_cl_118 b_cl d_w_cl d_g_cl e_x_cl e_px_cl d_cl_h
      obtain ⟨xc0, xc1, xc2, xcl⟩ := (⟨x_119.cell 0, x_119.cell 1, x_119.cell 2, x_119.lt⟩ : _ ∧ _ ∧ _ ∧ _)
      obtain ⟨pxc0, pxc1, pxc2, pxcl⟩ := (⟨px_120.cell 0, px_120.cell 1, px_120.cell 2, px_120.lt⟩ : _ ∧ _ ∧ _ ∧ _)
      go_wp2_with fail
      with_reducible refine (eqIntS_same Bh1 Bw1 dh1 dw1 X _ h_122.sees w_115.sees RX.out).mono ?_
      rintro e w19 ⟨rfl, hb19⟩
      clear xc0 xc1 xc2 xcl pxc0 pxc1 pxc2 pxcl
      have w_123 := w_115.below hb19
      have t_w_123 := hid (Nat.le_trans t_w_115.out hb19.size)
      have g_124 := g_116.below hb19
      have t_g_124 := hid (Nat.le_trans t_g_116.out hb19.size)
      have h_125 := h_122.below hb19
      have t_h_125 := hid (Nat.le_trans t_h_122.out hb19.size)
      have x_126 := x_119.below hb19 x_119.lt
      have px_127 := px_120.below hb19 px_120.lt
      have hB_128 := hB_121.trans (hb19.mono hB_121.size)
      clear hb19 w_115 t_w_115 g_116 t_g_116 h_122 t_h_122 x_119 px_120 hB_121
      obtain ⟨xc0, xc1, xc2, xcl⟩ := (⟨x_126.cell 0, x_126.cell 1, x_126.cell 2, x_126.lt⟩ : _ ∧ _ ∧ _ ∧ _)
      obtain ⟨pxc0, pxc1, pxc2, pxcl⟩ := (⟨px_127.cell 0, px_127.cell 1, px_127.cell 2, px_127.lt⟩ : _ ∧ _ ∧ _ ∧ _)
      go_wp2_with fail
      refine (heldIntS_g 1 Bg1 X.length dg1 _ g_124.sees RX.out (by decide)).mono ?_
      rintro e w' ⟨he, rfl⟩
      subst he
      clear xc0 xc1 xc2 xcl pxc0 pxc1 pxc2 pxcl
      obtain ⟨xc0, xc1, xc2, xcl⟩ := (⟨x_126.cell 0, x_126.cell 1, x_126.cell 2, x_126.lt⟩ : _ ∧ _ ∧ _ ∧ _)
      obtain ⟨pxc0, pxc1, pxc2, pxcl⟩ := (⟨px_127.cell 0, px_127.cell 1, px_127.cell 2, px_127.lt⟩ : _ ∧ _ ∧ _ ∧ _)
      go_wp2
      go_ret
      exact ⟨rfl, hB_128⟩
end Go.Proofs.Ytgfdjhbkmnhppaa

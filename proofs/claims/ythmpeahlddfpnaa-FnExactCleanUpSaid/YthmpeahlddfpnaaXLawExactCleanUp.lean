/-
  The walk of the exact law FnExactCleanUp: at every argument it returns true and changes nothing that was there. Conditions: none.
-/
import Derived.Test.YthmpeahlddfpnaaSlNest
import Derived.Test.YthmpeahlddfpnaaMarkL
import Derived.Test.YthmpeahlddfpnaaNsG
import Derived.Test.YthmpeahlddfpnaaNsI
import Derived.Deep.RegionHeld3
namespace Go.Proofs.Ythmpeahlddfpnaa
open Go.RowKit Nes

set_option maxHeartbeats 16000000 in
theorem walkExactCleanUp (A1 : Option Addr) (c1 : Nat) (p : Nst) (w : World) (hm1 : p.m.length ≤ maxLen) (h : SeesM w w.heap.size A1 p) :
    Calls Try.prog 7 #[.agg #[.int .i64 p.d, .int .i64 p.w, .slice A1 p.m.length c1, .bool p.b]] w fun e w' => e = .returned (.bool true) ∧ Below w.heap.size w w' := by
  have M1 := hid hm1
  clear hm1
  by_cases hbig : 1048576 < p.m.length
  · skip
    have E0 : Hid ((if 1048576 < p.m.length then (-1 : Int) else 1048576 - (p.m.length : Int)) = -1) := hid (if_pos hbig)
    clear hbig
    have hB_1 := Below.refl w.heap.size w
    have hB_2 := hB_1.alloc hB_1.size (.cells #[.int .i64 p.d, .int .i64 p.w, .slice A1 p.m.length c1, .bool p.b] 24)
    have x_3 : At (w.alloc (.cells #[.int .i64 p.d, .int .i64 p.w, .slice A1 p.m.length c1, .bool p.b] 24)) w.heap.size 24 #[.int .i64 p.d, .int .i64 p.w, .slice A1 p.m.length c1, .bool p.b] := At.newAt _ _ rfl
    clear hB_1
    go_enter Try.func7, Try.ntmps7
    obtain ⟨xc0, xc1, xc2, xc3, xcl⟩ := (⟨x_3.cell 0, x_3.cell 1, x_3.cell 2, x_3.cell 3, x_3.lt⟩ : _ ∧ _ ∧ _ ∧ _ ∧ _)
    go_wp2_with fail
    with_reducible refine (szNest_any A1 p.m.length c1 p.d p.w p.b _ M1.out).mono ?_
    rintro e w1 ⟨he, hb1⟩
    rw [E0.out] at he
    subst he
    clear xc0 xc1 xc2 xc3 xcl
    have x_4 := x_3.below hb1 x_3.lt
    have hB_5 := hB_2.trans (hb1.mono hB_2.size)
    clear hb1 x_3 hB_2
    go_wp2
    go_ret
    exact ⟨rfl, hB_5⟩
  · skip
    have N1 := hid (show p.m.length ≤ 4194304 by omega)
    have HTOT := hid (show p.m.length ≤ 1048576 by omega)
    obtain ⟨V, hV⟩ : ∃ V : Int, V = 1048576 - (p.m.length : Int) := ⟨_, rfl⟩
    have E0 : Hid ((if 1048576 < p.m.length then (-1 : Int) else 1048576 - (p.m.length : Int)) = V) := hid (by rw [if_neg hbig, hV])
    have hle : ¬ V < 0 := by omega
    clear hV hbig
    have r1 : (cleanL p).length ≤ 4194304 := Nat.le_trans (clean_len p) (by decide)
    obtain ⟨X, hX⟩ : ∃ X, X = cleanL p := ⟨_, rfl⟩
    have HX : Hid (cleanL p = X) := hid hX.symm
    rw [← hX] at r1
    have RX := hid r1
    clear r1
    have hXc : ¬ (((1 : Nat) : Int) + X.length) < 0 := by omega
    clear hX
    obtain ⟨CP, hCP⟩ : ∃ CP : Int, CP = p.count := ⟨_, rfl⟩
    have HCP : Hid (p.count = CP) := hid hCP.symm
    have nCP : ¬ CP < 0 := by rw [hCP]; exact p.count_pos
    have hCPb : Hid (CP = p.count) := hid hCP
    clear hCP
    have hB_6 := Below.refl w.heap.size w
    have hB_7 := hB_6.alloc hB_6.size (.cells #[.int .i64 p.d, .int .i64 p.w, .slice A1 p.m.length c1, .bool p.b] 24)
    have x_8 : At (w.alloc (.cells #[.int .i64 p.d, .int .i64 p.w, .slice A1 p.m.length c1, .bool p.b] 24)) w.heap.size 24 #[.int .i64 p.d, .int .i64 p.w, .slice A1 p.m.length c1, .bool p.b] := At.newAt _ _ rfl
    clear hB_6
    go_enter Try.func7, Try.ntmps7
    obtain ⟨xc0, xc1, xc2, xc3, xcl⟩ := (⟨x_8.cell 0, x_8.cell 1, x_8.cell 2, x_8.cell 3, x_8.lt⟩ : _ ∧ _ ∧ _ ∧ _ ∧ _)
    go_wp2_with fail
    with_reducible refine (szNest_any A1 p.m.length c1 p.d p.w p.b _ M1.out).mono ?_
    rintro e w2 ⟨he, hb2⟩
    rw [E0.out] at he
    subst he
    clear xc0 xc1 xc2 xc3 xcl
    have x_9 := x_8.below hb2 x_8.lt
    have hB_10 := hB_7.trans (hb2.mono hB_7.size)
    clear hb2 x_8 hB_7
    obtain ⟨xc0, xc1, xc2, xc3, xcl⟩ := (⟨x_9.cell 0, x_9.cell 1, x_9.cell 2, x_9.cell 3, x_9.lt⟩ : _ ∧ _ ∧ _ ∧ _ ∧ _)
    go_wp2_with fail
    with_reducible refine (toNest_any p A1 c1 _ (SeesM.on h hB_10) N1.out).mono ?_
    rintro e w3 ⟨Ba1, da1, rfl, hoa, hb3⟩
    clear xc0 xc1 xc2 xc3 xcl
    have e_x_a := hid x_9.lt
    have b_a := hid hB_10.size
    have x_11 := x_9.below hb3 x_9.lt
    have hB_12 := hB_10.trans (hb3.mono hB_10.size)
    clear hb3 x_9 hB_10
    have a_13 := IvNest.of_own hoa
    have t_a_13 := hid (Nat.le_refl w3.heap.size)
    clear hoa
    obtain ⟨xc0, xc1, xc2, xc3, xcl⟩ := (⟨x_11.cell 0, x_11.cell 1, x_11.cell 2, x_11.cell 3, x_11.lt⟩ : _ ∧ _ ∧ _ ∧ _ ∧ _)
    go_wp2_with fail
    with_reducible refine (sCleanUp_any p Ba1 da1 _ a_13.sees N1.out).mono ?_
    rintro e w4 ⟨vw, rfl, how, hb4⟩
    rw [HX.out] at how
    obtain ⟨Bw1, dw1, rfl, _⟩ := how.form
    clear xc0 xc1 xc2 xc3 xcl
    have d_a_w := t_a_13
    have e_x_w := hid x_11.lt
    have b_w := hid hB_12.size
    have a_14 := a_13.below hb4
    have t_a_14 := hid (Nat.le_trans t_a_13.out hb4.size)
    have x_15 := x_11.below hb4 x_11.lt
    have hB_16 := hB_12.trans (hb4.mono hB_12.size)
    clear hb4 a_13 t_a_13 x_11 hB_12
    have w_17 := IvL.of_own how
    have t_w_17 := hid (Nat.le_refl w4.heap.size)
    clear how
    clear a_14 t_a_14 b_a e_x_a d_a_w
    obtain ⟨xc0, xc1, xc2, xc3, xcl⟩ := (⟨x_15.cell 0, x_15.cell 1, x_15.cell 2, x_15.cell 3, x_15.lt⟩ : _ ∧ _ ∧ _ ∧ _ ∧ _)
    go_wp2_with fail
    with_reducible refine (toNest_any p A1 c1 _ (SeesM.on h hB_16) N1.out).mono ?_
    rintro e w5 ⟨By1, dy1, rfl, hoy, hb5⟩
    clear xc0 xc1 xc2 xc3 xcl
    have d_w_y := t_w_17
    have e_x_y := hid x_15.lt
    have b_y := hid hB_16.size
    have w_18 := w_17.below hb5
    have t_w_18 := hid (Nat.le_trans t_w_17.out hb5.size)
    have x_19 := x_15.below hb5 x_15.lt
    have hB_20 := hB_16.trans (hb5.mono hB_16.size)
    clear hb5 w_17 t_w_17 x_15 hB_16
    have y_21 := IvNest.of_own hoy
    have t_y_21 := hid (Nat.le_refl w5.heap.size)
    clear hoy
    have d_w_px := t_w_18
    have w_22 := w_18.alloc (.cells #[.int .i64 p.d, .int .i64 p.w, .slice By1 p.m.length dy1, .bool p.b] 27)
    have t_w_22 := hid (Nat.le_trans t_w_18.out ((Below.refl _ _).alloc (Nat.le_refl _) (.cells #[.int .i64 p.d, .int .i64 p.w, .slice By1 p.m.length dy1, .bool p.b] 27)).size)
    have d_y_px := t_y_21
    have y_23 := y_21.alloc (.cells #[.int .i64 p.d, .int .i64 p.w, .slice By1 p.m.length dy1, .bool p.b] 27)
    have t_y_23 := hid (Nat.le_trans t_y_21.out ((Below.refl _ _).alloc (Nat.le_refl _) (.cells #[.int .i64 p.d, .int .i64 p.w, .slice By1 p.m.length dy1, .bool p.b] 27)).size)
    have x_24 := x_19.alloc (.cells #[.int .i64 p.d, .int .i64 p.w, .slice By1 p.m.length dy1, .bool p.b] 27)
    have hB_25 := hB_20.alloc hB_20.size (.cells #[.int .i64 p.d, .int .i64 p.w, .slice By1 p.m.length dy1, .bool p.b] 27)
    have px_26 : At (w5.alloc (.cells #[.int .i64 p.d, .int .i64 p.w, .slice By1 p.m.length dy1, .bool p.b] 27)) w5.heap.size 27 #[.int .i64 p.d, .int .i64 p.w, .slice By1 p.m.length dy1, .bool p.b] := At.newAt _ _ rfl
    clear w_18 t_w_18 y_21 t_y_21 x_19 hB_20
    obtain ⟨xc0, xc1, xc2, xc3, xcl⟩ := (⟨x_24.cell 0, x_24.cell 1, x_24.cell 2, x_24.cell 3, x_24.lt⟩ : _ ∧ _ ∧ _ ∧ _ ∧ _)
    obtain ⟨pxc0, pxc1, pxc2, pxc3, pxcl⟩ := (⟨px_26.cell 0, px_26.cell 1, px_26.cell 2, px_26.cell 3, px_26.lt⟩ : _ ∧ _ ∧ _ ∧ _ ∧ _)
    go_wp2_with fail
    with_reducible refine (iCleanUp_any p By1 dy1 _ y_23.sees y_23.l1.cap N1.out).mono ?_
    rintro e w6 ⟨vg, rfl, hog, hb6⟩
    rw [HX.out] at hog
    obtain ⟨Bg1, dg1, rfl, _⟩ := hog.form
    clear xc0 xc1 xc2 xc3 xcl pxc0 pxc1 pxc2 pxc3 pxcl
    have d_w_g := t_w_22
    have d_y_g := t_y_23
    have e_x_g := hid x_24.lt
    have e_px_g := hid px_26.lt
    have b_g := hid hB_25.size
    have w_27 := w_22.below hb6
    have t_w_27 := hid (Nat.le_trans t_w_22.out hb6.size)
    have y_28 := y_23.below hb6
    have t_y_28 := hid (Nat.le_trans t_y_23.out hb6.size)
    have x_29 := x_24.below hb6 x_24.lt
    have px_30 := px_26.below hb6 px_26.lt
    have hB_31 := hB_25.trans (hb6.mono hB_25.size)
    clear hb6 w_22 t_w_22 y_23 t_y_23 x_24 px_26 hB_25
    have g_32 := IvL.of_own hog
    have t_g_32 := hid (Nat.le_refl w6.heap.size)
    clear hog
    obtain ⟨xc0, xc1, xc2, xc3, xcl⟩ := (⟨x_29.cell 0, x_29.cell 1, x_29.cell 2, x_29.cell 3, x_29.lt⟩ : _ ∧ _ ∧ _ ∧ _ ∧ _)
    obtain ⟨pxc0, pxc1, pxc2, pxc3, pxcl⟩ := (⟨px_30.cell 0, px_30.cell 1, px_30.cell 2, px_30.cell 3, px_30.lt⟩ : _ ∧ _ ∧ _ ∧ _ ∧ _)
    go_wp2_with fail
    with_reducible refine (eqIntS_same Bg1 Bw1 dg1 dw1 X _ g_32.sees w_27.sees RX.out).mono ?_
    rintro e w7 ⟨rfl, hb7⟩
    clear xc0 xc1 xc2 xc3 xcl pxc0 pxc1 pxc2 pxc3 pxcl
    have w_33 := w_27.below hb7
    have t_w_33 := hid (Nat.le_trans t_w_27.out hb7.size)
    have y_34 := y_28.below hb7
    have t_y_34 := hid (Nat.le_trans t_y_28.out hb7.size)
    have g_35 := g_32.below hb7
    have t_g_35 := hid (Nat.le_trans t_g_32.out hb7.size)
    have x_36 := x_29.below hb7 x_29.lt
    have px_37 := px_30.below hb7 px_30.lt
    have hB_38 := hB_31.trans (hb7.mono hB_31.size)
    clear hb7 w_27 t_w_27 y_28 t_y_28 g_32 t_g_32 x_29 px_30 hB_31
    obtain ⟨xc0, xc1, xc2, xc3, xcl⟩ := (⟨x_36.cell 0, x_36.cell 1, x_36.cell 2, x_36.cell 3, x_36.lt⟩ : _ ∧ _ ∧ _ ∧ _ ∧ _)
    obtain ⟨pxc0, pxc1, pxc2, pxc3, pxcl⟩ := (⟨px_37.cell 0, px_37.cell 1, px_37.cell 2, px_37.cell 3, px_37.lt⟩ : _ ∧ _ ∧ _ ∧ _ ∧ _)
    have K1 := hid (⟨x_36.cell 0, x_36.cell 1, x_36.cell 2, x_36.cell 3, px_37.cell 0, px_37.cell 1, px_37.cell 2, px_37.cell 3⟩ : (fun w' => w'.cell? ⟨w.heap.size, 0, none⟩ = some (.int .i64 p.d) ∧ w'.cell? ⟨w.heap.size, 1, none⟩ = some (.int .i64 p.w) ∧ w'.cell? ⟨w.heap.size, 2, none⟩ = some (.slice A1 p.m.length c1) ∧ w'.cell? ⟨w.heap.size, 3, none⟩ = some (.bool p.b) ∧ w'.cell? ⟨w5.heap.size, 0, none⟩ = some (.int .i64 p.d) ∧ w'.cell? ⟨w5.heap.size, 1, none⟩ = some (.int .i64 p.w) ∧ w'.cell? ⟨w5.heap.size, 2, none⟩ = some (.slice By1 p.m.length dy1) ∧ w'.cell? ⟨w5.heap.size, 3, none⟩ = some (.bool p.b)) w7)
    have w_d := w_33.drew
    have y_d := y_34.drew
    have g_d := g_35.drew
    have x_d := x_36.drew
    have px_d := px_37.drew
    have hB_d := hB_38.drew
    have K2 := hid (⟨x_d.cell 0, x_d.cell 1, x_d.cell 2, x_d.cell 3, px_d.cell 0, px_d.cell 1, px_d.cell 2, px_d.cell 3⟩ : (fun w' => w'.cell? ⟨w.heap.size, 0, none⟩ = some (.int .i64 p.d) ∧ w'.cell? ⟨w.heap.size, 1, none⟩ = some (.int .i64 p.w) ∧ w'.cell? ⟨w.heap.size, 2, none⟩ = some (.slice A1 p.m.length c1) ∧ w'.cell? ⟨w.heap.size, 3, none⟩ = some (.bool p.b) ∧ w'.cell? ⟨w5.heap.size, 0, none⟩ = some (.int .i64 p.d) ∧ w'.cell? ⟨w5.heap.size, 1, none⟩ = some (.int .i64 p.w) ∧ w'.cell? ⟨w5.heap.size, 2, none⟩ = some (.slice By1 p.m.length dy1) ∧ w'.cell? ⟨w5.heap.size, 3, none⟩ = some (.bool p.b)) w7.drew)
    go_wp2_with fail
    go_region_held3 (fun w' => w'.cell? ⟨w.heap.size, 0, none⟩ = some (.int .i64 p.d) ∧ w'.cell? ⟨w.heap.size, 1, none⟩ = some (.int .i64 p.w) ∧ w'.cell? ⟨w.heap.size, 2, none⟩ = some (.slice A1 p.m.length c1) ∧ w'.cell? ⟨w.heap.size, 3, none⟩ = some (.bool p.b) ∧ w'.cell? ⟨w5.heap.size, 0, none⟩ = some (.int .i64 p.d) ∧ w'.cell? ⟨w5.heap.size, 1, none⟩ = some (.int .i64 p.w) ∧ w'.cell? ⟨w5.heap.size, 2, none⟩ = some (.slice By1 p.m.length dy1) ∧ w'.cell? ⟨w5.heap.size, 3, none⟩ = some (.bool p.b))
      (first | with_reducible exact K1.out | with_reducible exact K2.out | with_reducible exact K3.out | with_reducible exact K4.out | go_keep)
      (first
        | (go_at_call 14; (with_reducible refine (toNest_any p A1 c1 _ (SeesM.on h hB_d) N1.out).mono ?_); rintro e wa ⟨Bz1, dz1, rfl, hoz, hba⟩; have w_a := w_d.below hba; have y_a := y_d.below hba; have g_a := g_d.below hba; have x_a := x_d.below hba x_d.lt; have px_a := px_d.below hba px_d.lt; have hB_a := hB_d.trans (hba.mono hB_d.size); have K3 := hid (⟨x_a.cell 0, x_a.cell 1, x_a.cell 2, x_a.cell 3, px_a.cell 0, px_a.cell 1, px_a.cell 2, px_a.cell 3⟩ : (fun w' => w'.cell? ⟨w.heap.size, 0, none⟩ = some (.int .i64 p.d) ∧ w'.cell? ⟨w.heap.size, 1, none⟩ = some (.int .i64 p.w) ∧ w'.cell? ⟨w.heap.size, 2, none⟩ = some (.slice A1 p.m.length c1) ∧ w'.cell? ⟨w.heap.size, 3, none⟩ = some (.bool p.b) ∧ w'.cell? ⟨w5.heap.size, 0, none⟩ = some (.int .i64 p.d) ∧ w'.cell? ⟨w5.heap.size, 1, none⟩ = some (.int .i64 p.w) ∧ w'.cell? ⟨w5.heap.size, 2, none⟩ = some (.slice By1 p.m.length dy1) ∧ w'.cell? ⟨w5.heap.size, 3, none⟩ = some (.bool p.b)) wa))
        | (go_at_call 16; (with_reducible refine (eqNest_same By1 Bz1 dy1 dz1 p _ y_a.sees (IvNest.of_own hoz).sees N1.out).mono ?_); rintro e wb ⟨rfl, hbb⟩; have w_b := w_a.below hbb; have y_b := y_a.below hbb; have g_b := g_a.below hbb; have x_b := x_a.below hbb x_a.lt; have px_b := px_a.below hbb px_a.lt; have hB_b := hB_a.trans (hbb.mono hB_a.size); have K4 := hid (⟨x_b.cell 0, x_b.cell 1, x_b.cell 2, x_b.cell 3, px_b.cell 0, px_b.cell 1, px_b.cell 2, px_b.cell 3⟩ : (fun w' => w'.cell? ⟨w.heap.size, 0, none⟩ = some (.int .i64 p.d) ∧ w'.cell? ⟨w.heap.size, 1, none⟩ = some (.int .i64 p.w) ∧ w'.cell? ⟨w.heap.size, 2, none⟩ = some (.slice A1 p.m.length c1) ∧ w'.cell? ⟨w.heap.size, 3, none⟩ = some (.bool p.b) ∧ w'.cell? ⟨w5.heap.size, 0, none⟩ = some (.int .i64 p.d) ∧ w'.cell? ⟨w5.heap.size, 1, none⟩ = some (.int .i64 p.w) ∧ w'.cell? ⟨w5.heap.size, 2, none⟩ = some (.slice By1 p.m.length dy1) ∧ w'.cell? ⟨w5.heap.size, 3, none⟩ = some (.bool p.b)) wb))
        | fail)
    have w_39 := w_b
    have t_w_39 := hid (Nat.le_trans t_w_33.out (Nat.le_trans hba.size hbb.size))
    have y_40 := y_b
    have t_y_40 := hid (Nat.le_trans t_y_34.out (Nat.le_trans hba.size hbb.size))
    have g_41 := g_b
    have t_g_41 := hid (Nat.le_trans t_g_35.out (Nat.le_trans hba.size hbb.size))
    have x_42 := x_b
    have px_43 := px_b
    have hB_44 := hB_b
    clear w_33 t_w_33 y_34 t_y_34 g_35 t_g_35 x_36 px_37 hB_38 K1 K2 K3 K4 w_d w_a w_b y_d y_a y_b g_d g_a g_b x_d x_a x_b px_d px_a px_b hB_d hB_a hB_b hba hbb hoz
    clear xc0 xc1 xc2 xc3 xcl pxc0 pxc1 pxc2 pxc3 pxcl
    obtain ⟨xc0, xc1, xc2, xc3, xcl⟩ := (⟨x_42.cell 0, x_42.cell 1, x_42.cell 2, x_42.cell 3, x_42.lt⟩ : _ ∧ _ ∧ _ ∧ _ ∧ _)
    obtain ⟨pxc0, pxc1, pxc2, pxc3, pxcl⟩ := (⟨px_43.cell 0, px_43.cell 1, px_43.cell 2, px_43.cell 3, px_43.lt⟩ : _ ∧ _ ∧ _ ∧ _ ∧ _)
    go_wp2_with fail
    with_reducible refine (markNest_any _ _ By1 dy1 p _ y_40 N1.out).mono ?_
    rintro e w8 ⟨he, hm8, hmo⟩
    rw [HCP.out] at he
    subst he
    clear xc0 xc1 xc2 xc3 xcl pxc0 pxc1 pxc2 pxc3 pxcl
    have w_45 := w_39.mid hm8 (.inl d_w_y.out)
    have t_w_45 := hid (Nat.le_trans t_w_39.out hm8.size)
    have y_46 := hmo
    have t_y_46 := hid (Nat.le_trans t_y_40.out hm8.size)
    have g_47 := g_41.mid hm8 (.inr d_y_g.out)
    have t_g_47 := hid (Nat.le_trans t_g_41.out hm8.size)
    have x_48 := x_42.mid hm8 (.inl e_x_y.out)
    have px_49 := px_43.mid hm8 (.inr d_y_px.out)
    have hB_50 := below_mid hB_44 hm8 b_y.out hB_44.size
    clear hm8 w_39 t_w_39 y_40 t_y_40 g_41 t_g_41 hmo x_42 px_43 hB_44
    clear y_46 t_y_46 b_y d_w_y e_x_y d_y_px d_y_g
    obtain ⟨xc0, xc1, xc2, xc3, xcl⟩ := (⟨x_48.cell 0, x_48.cell 1, x_48.cell 2, x_48.cell 3, x_48.lt⟩ : _ ∧ _ ∧ _ ∧ _ ∧ _)
    obtain ⟨pxc0, pxc1, pxc2, pxc3, pxcl⟩ := (⟨px_49.cell 0, px_49.cell 1, px_49.cell 2, px_49.cell 3, px_49.lt⟩ : _ ∧ _ ∧ _ ∧ _ ∧ _)
    go_wp2_with fail
    with_reducible refine (eqIntS_same Bg1 Bw1 dg1 dw1 X _ g_47.sees w_45.sees RX.out).mono ?_
    rintro e w9 ⟨rfl, hb9⟩
    clear xc0 xc1 xc2 xc3 xcl pxc0 pxc1 pxc2 pxc3 pxcl
    have w_51 := w_45.below hb9
    have t_w_51 := hid (Nat.le_trans t_w_45.out hb9.size)
    have g_52 := g_47.below hb9
    have t_g_52 := hid (Nat.le_trans t_g_47.out hb9.size)
    have x_53 := x_48.below hb9 x_48.lt
    have px_54 := px_49.below hb9 px_49.lt
    have hB_55 := hB_50.trans (hb9.mono hB_50.size)
    clear hb9 w_45 t_w_45 g_47 t_g_47 x_48 px_49 hB_50
    obtain ⟨xc0, xc1, xc2, xc3, xcl⟩ := (⟨x_53.cell 0, x_53.cell 1, x_53.cell 2, x_53.cell 3, x_53.lt⟩ : _ ∧ _ ∧ _ ∧ _ ∧ _)
    obtain ⟨pxc0, pxc1, pxc2, pxc3, pxcl⟩ := (⟨px_54.cell 0, px_54.cell 1, px_54.cell 2, px_54.cell 3, px_54.lt⟩ : _ ∧ _ ∧ _ ∧ _ ∧ _)
    go_wp2_with fail
    refine (markIvL_any 1 _ _ Bg1 dg1 X _ g_52 RX.out (by decide)).mono ?_
    rintro e w10 ⟨he, hm10, hmo⟩
    subst he
    clear xc0 xc1 xc2 xc3 xcl pxc0 pxc1 pxc2 pxc3 pxcl
    have w_56 := w_51.mid hm10 (.inl d_w_g.out)
    have t_w_56 := hid (Nat.le_trans t_w_51.out hm10.size)
    have g_57 := hmo
    have t_g_57 := hid (Nat.le_trans t_g_52.out hm10.size)
    have x_58 := x_53.mid hm10 (.inl e_x_g.out)
    have px_59 := px_54.mid hm10 (.inl e_px_g.out)
    have hB_60 := below_mid hB_55 hm10 b_g.out hB_55.size
    clear hm10 w_51 t_w_51 g_52 t_g_52 hmo x_53 px_54 hB_55
    obtain ⟨xc0, xc1, xc2, xc3, xcl⟩ := (⟨x_58.cell 0, x_58.cell 1, x_58.cell 2, x_58.cell 3, x_58.lt⟩ : _ ∧ _ ∧ _ ∧ _ ∧ _)
    obtain ⟨pxc0, pxc1, pxc2, pxc3, pxcl⟩ := (⟨px_59.cell 0, px_59.cell 1, px_59.cell 2, px_59.cell 3, px_59.lt⟩ : _ ∧ _ ∧ _ ∧ _ ∧ _)
    go_wp2_with fail
    refine (heldIntS_g 1 Bg1 X.length dg1 _ g_57.sees RX.out (by decide)).mono ?_
    rintro e w' ⟨he, rfl⟩
    subst he
    clear xc0 xc1 xc2 xc3 xcl pxc0 pxc1 pxc2 pxc3 pxcl
    obtain ⟨xc0, xc1, xc2, xc3, xcl⟩ := (⟨x_58.cell 0, x_58.cell 1, x_58.cell 2, x_58.cell 3, x_58.lt⟩ : _ ∧ _ ∧ _ ∧ _ ∧ _)
    obtain ⟨pxc0, pxc1, pxc2, pxc3, pxcl⟩ := (⟨px_59.cell 0, px_59.cell 1, px_59.cell 2, px_59.cell 3, px_59.lt⟩ : _ ∧ _ ∧ _ ∧ _ ∧ _)
    go_wp2_with fail
    with_reducible refine (toNest_any p A1 c1 _ (SeesM.on h hB_60) N1.out).mono ?_
    rintro e w11 ⟨Bc1, dc1, rfl, hoc, hb11⟩
    clear xc0 xc1 xc2 xc3 xcl pxc0 pxc1 pxc2 pxc3 pxcl
    have d_w_c := t_w_56
    have d_g_c := t_g_57
    have e_x_c := hid x_58.lt
    have e_px_c := hid px_59.lt
    have b_c := hid hB_60.size
    have w_61 := w_56.below hb11
    have t_w_61 := hid (Nat.le_trans t_w_56.out hb11.size)
    have g_62 := g_57.below hb11
    have t_g_62 := hid (Nat.le_trans t_g_57.out hb11.size)
    have x_63 := x_58.below hb11 x_58.lt
    have px_64 := px_59.below hb11 px_59.lt
    have hB_65 := hB_60.trans (hb11.mono hB_60.size)
    clear hb11 w_56 t_w_56 g_57 t_g_57 x_58 px_59 hB_60
    have c_66 := IvNest.of_own hoc
    have t_c_66 := hid (Nat.le_refl w11.heap.size)
    clear hoc
    obtain ⟨xc0, xc1, xc2, xc3, xcl⟩ := (⟨x_63.cell 0, x_63.cell 1, x_63.cell 2, x_63.cell 3, x_63.lt⟩ : _ ∧ _ ∧ _ ∧ _ ∧ _)
    obtain ⟨pxc0, pxc1, pxc2, pxc3, pxcl⟩ := (⟨px_64.cell 0, px_64.cell 1, px_64.cell 2, px_64.cell 3, px_64.lt⟩ : _ ∧ _ ∧ _ ∧ _ ∧ _)
    go_wp2_with fail
    with_reducible refine (iCleanUp_any p Bc1 dc1 _ c_66.sees c_66.l1.cap N1.out).mono ?_
    rintro e w12 ⟨vh, rfl, hoh, hb12⟩
    rw [HX.out] at hoh
    obtain ⟨Bh1, dh1, rfl, _⟩ := hoh.form
    clear xc0 xc1 xc2 xc3 xcl pxc0 pxc1 pxc2 pxc3 pxcl
    have d_w_h := t_w_61
    have d_g_h := t_g_62
    have d_c_h := t_c_66
    have e_x_h := hid x_63.lt
    have e_px_h := hid px_64.lt
    have b_h := hid hB_65.size
    have w_67 := w_61.below hb12
    have t_w_67 := hid (Nat.le_trans t_w_61.out hb12.size)
    have g_68 := g_62.below hb12
    have t_g_68 := hid (Nat.le_trans t_g_62.out hb12.size)
    have c_69 := c_66.below hb12
    have t_c_69 := hid (Nat.le_trans t_c_66.out hb12.size)
    have x_70 := x_63.below hb12 x_63.lt
    have px_71 := px_64.below hb12 px_64.lt
    have hB_72 := hB_65.trans (hb12.mono hB_65.size)
    clear hb12 w_61 t_w_61 g_62 t_g_62 c_66 t_c_66 x_63 px_64 hB_65
    have h_73 := IvL.of_own hoh
    have t_h_73 := hid (Nat.le_refl w12.heap.size)
    clear hoh
    clear c_69 t_c_69 b_c d_w_c d_g_c e_x_c e_px_c d_c_h
    obtain ⟨xc0, xc1, xc2, xc3, xcl⟩ := (⟨x_70.cell 0, x_70.cell 1, x_70.cell 2, x_70.cell 3, x_70.lt⟩ : _ ∧ _ ∧ _ ∧ _ ∧ _)
    obtain ⟨pxc0, pxc1, pxc2, pxc3, pxcl⟩ := (⟨px_71.cell 0, px_71.cell 1, px_71.cell 2, px_71.cell 3, px_71.lt⟩ : _ ∧ _ ∧ _ ∧ _ ∧ _)
    go_wp2_with fail
    with_reducible refine (eqIntS_same Bh1 Bw1 dh1 dw1 X _ h_73.sees w_67.sees RX.out).mono ?_
    rintro e w13 ⟨rfl, hb13⟩
    clear xc0 xc1 xc2 xc3 xcl pxc0 pxc1 pxc2 pxc3 pxcl
    have w_74 := w_67.below hb13
    have t_w_74 := hid (Nat.le_trans t_w_67.out hb13.size)
    have g_75 := g_68.below hb13
    have t_g_75 := hid (Nat.le_trans t_g_68.out hb13.size)
    have h_76 := h_73.below hb13
    have t_h_76 := hid (Nat.le_trans t_h_73.out hb13.size)
    have x_77 := x_70.below hb13 x_70.lt
    have px_78 := px_71.below hb13 px_71.lt
    have hB_79 := hB_72.trans (hb13.mono hB_72.size)
    clear hb13 w_67 t_w_67 g_68 t_g_68 h_73 t_h_73 x_70 px_71 hB_72
    obtain ⟨xc0, xc1, xc2, xc3, xcl⟩ := (⟨x_77.cell 0, x_77.cell 1, x_77.cell 2, x_77.cell 3, x_77.lt⟩ : _ ∧ _ ∧ _ ∧ _ ∧ _)
    obtain ⟨pxc0, pxc1, pxc2, pxc3, pxcl⟩ := (⟨px_78.cell 0, px_78.cell 1, px_78.cell 2, px_78.cell 3, px_78.lt⟩ : _ ∧ _ ∧ _ ∧ _ ∧ _)
    go_wp2_with fail
    refine (heldIntS_g 1 Bg1 X.length dg1 _ g_75.sees RX.out (by decide)).mono ?_
    rintro e w' ⟨he, rfl⟩
    subst he
    clear xc0 xc1 xc2 xc3 xcl pxc0 pxc1 pxc2 pxc3 pxcl
    obtain ⟨xc0, xc1, xc2, xc3, xcl⟩ := (⟨x_77.cell 0, x_77.cell 1, x_77.cell 2, x_77.cell 3, x_77.lt⟩ : _ ∧ _ ∧ _ ∧ _ ∧ _)
    obtain ⟨pxc0, pxc1, pxc2, pxc3, pxcl⟩ := (⟨px_78.cell 0, px_78.cell 1, px_78.cell 2, px_78.cell 3, px_78.lt⟩ : _ ∧ _ ∧ _ ∧ _ ∧ _)
    go_wp2
    go_ret
    exact ⟨rfl, hB_79⟩
end Go.Proofs.Ythmpeahlddfpnaa

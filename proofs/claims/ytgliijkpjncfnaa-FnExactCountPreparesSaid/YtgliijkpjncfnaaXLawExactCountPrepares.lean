/-
  The walk of the exact law FnExactCountPrepares: at every argument it returns true and changes nothing that was there. Conditions: none.
-/
import Derived.Test.YtgliijkpjncfnaaSlCache
import Derived.Test.YtgliijkpjncfnaaMarkL
import Derived.Test.YtgliijkpjncfnaaCaD
import Derived.Test.YtgliijkpjncfnaaCaF
import Derived.Deep.RegionHeld3
namespace Go.Proofs.Ytgliijkpjncfnaa
open Go.RowKit Cac

set_option maxHeartbeats 16000000 in
theorem walkExactCountPrepares (A1 : Option Addr) (c1 : Nat) (p : Cch) (A_l : Option Addr) (c_l : Nat) (l : List Int) (w : World) (hm1 : p.n.length ≤ maxLen) (h : SeesN w w.heap.size A1 p) (_hm_l : l.length ≤ maxLen) (_hc_l : l.length ≤ c_l) (h_l : Sees w w.heap.size A_l (ints l)) :
    Calls Try.prog 5 #[.agg #[.int .i64 p.r, .slice A1 p.n.length c1], .slice A_l l.length c_l] w fun e w' => e = .returned (.bool true) ∧ Below w.heap.size w w' := by
  have M1 := hid hm1
  clear hm1
  by_cases hbig_l : 1048576 < l.length
  · skip
    have hB_1 := Below.refl w.heap.size w
    have hB_2 := hB_1.alloc hB_1.size (.cells #[.int .i64 p.r, .slice A1 p.n.length c1] 24)
    have x_3 : At (w.alloc (.cells #[.int .i64 p.r, .slice A1 p.n.length c1] 24)) w.heap.size 24 #[.int .i64 p.r, .slice A1 p.n.length c1] := At.newAt _ _ rfl
    clear hB_1
    go_enter Try.func5, Try.ntmps5
    go_wp2
    go_ret
    exact ⟨rfl, hB_2⟩
  · skip
    by_cases hbig : 1048576 < p.n.length
    · skip
      have E0 : Hid ((if 1048576 < p.n.length then (-1 : Int) else 1048576 - (p.n.length : Int)) = -1) := hid (if_pos hbig)
      clear hbig
      have hB_4 := Below.refl w.heap.size w
      have hB_5 := hB_4.alloc hB_4.size (.cells #[.int .i64 p.r, .slice A1 p.n.length c1] 24)
      have x_6 : At (w.alloc (.cells #[.int .i64 p.r, .slice A1 p.n.length c1] 24)) w.heap.size 24 #[.int .i64 p.r, .slice A1 p.n.length c1] := At.newAt _ _ rfl
      clear hB_4
      go_enter Try.func5, Try.ntmps5
      obtain ⟨xc0, xc1, xcl⟩ := (⟨x_6.cell 0, x_6.cell 1, x_6.lt⟩ : _ ∧ _ ∧ _)
      go_wp2_with fail
      with_reducible refine (szCache_any A1 p.n.length c1 p.r _ M1.out).mono ?_
      rintro e w1 ⟨he, hb1⟩
      rw [E0.out] at he
      subst he
      clear xc0 xc1 xcl
      have x_7 := x_6.below hb1 x_6.lt
      have hB_8 := hB_5.trans (hb1.mono hB_5.size)
      clear hb1 x_6 hB_5
      go_wp2
      go_ret
      exact ⟨rfl, hB_8⟩
    · skip
      have F_l := hid (show l.length ≤ 4194304 by omega)
      have G_l := hid (show l.length ≤ 1048576 by omega)
      have N1 := hid (show p.n.length ≤ 4194304 by omega)
      have HTOT := hid (show p.n.length ≤ 1048576 by omega)
      obtain ⟨V, hV⟩ : ∃ V : Int, V = 1048576 - (p.n.length : Int) := ⟨_, rfl⟩
      have E0 : Hid ((if 1048576 < p.n.length then (-1 : Int) else 1048576 - (p.n.length : Int)) = V) := hid (by rw [if_neg hbig, hV])
      have hle : ¬ V < 0 := by omega
      clear hV hbig
      obtain ⟨K, hK⟩ : ∃ K, K = prepV p l := ⟨_, rfl⟩
      have HK : Hid (prepV p l = K) := hid hK.symm
      clear hK
      have hB_9 := Below.refl w.heap.size w
      have hB_10 := hB_9.alloc hB_9.size (.cells #[.int .i64 p.r, .slice A1 p.n.length c1] 24)
      have x_11 : At (w.alloc (.cells #[.int .i64 p.r, .slice A1 p.n.length c1] 24)) w.heap.size 24 #[.int .i64 p.r, .slice A1 p.n.length c1] := At.newAt _ _ rfl
      clear hB_9
      go_enter Try.func5, Try.ntmps5
      obtain ⟨xc0, xc1, xcl⟩ := (⟨x_11.cell 0, x_11.cell 1, x_11.lt⟩ : _ ∧ _ ∧ _)
      go_wp2_with fail
      with_reducible refine (szCache_any A1 p.n.length c1 p.r _ M1.out).mono ?_
      rintro e w2 ⟨he, hb2⟩
      rw [E0.out] at he
      subst he
      clear xc0 xc1 xcl
      have x_12 := x_11.below hb2 x_11.lt
      have hB_13 := hB_10.trans (hb2.mono hB_10.size)
      clear hb2 x_11 hB_10
      obtain ⟨xc0, xc1, xcl⟩ := (⟨x_12.cell 0, x_12.cell 1, x_12.lt⟩ : _ ∧ _ ∧ _)
      go_wp2_with fail
      with_reducible refine (toCache_any p A1 c1 _ (SeesN.on h hB_13) N1.out).mono ?_
      rintro e w3 ⟨Ba1, da1, rfl, hoa, hb3⟩
      clear xc0 xc1 xcl
      have e_x_a := hid x_12.lt
      have b_a := hid hB_13.size
      have x_14 := x_12.below hb3 x_12.lt
      have hB_15 := hB_13.trans (hb3.mono hB_13.size)
      clear hb3 x_12 hB_13
      have a_16 := IvCache.of_own hoa
      have t_a_16 := hid (Nat.le_refl w3.heap.size)
      clear hoa
      obtain ⟨xc0, xc1, xcl⟩ := (⟨x_14.cell 0, x_14.cell 1, x_14.lt⟩ : _ ∧ _ ∧ _)
      go_wp2_with fail
      with_reducible refine (toIntS_any A_l c_l l _ ((h_l.below hB_15).more hB_15.size) F_l.out).mono ?_
      rintro e w4 ⟨val, rfl, hoal, hb4⟩
      clear xc0 xc1 xcl
      obtain ⟨Bal1, dal1, rfl, _⟩ := hoal.form
      have d_a_al := t_a_16
      have e_x_al := hid x_14.lt
      have b_al := hid hB_15.size
      have a_17 := a_16.below hb4
      have t_a_17 := hid (Nat.le_trans t_a_16.out hb4.size)
      have x_18 := x_14.below hb4 x_14.lt
      have hB_19 := hB_15.trans (hb4.mono hB_15.size)
      clear hb4 a_16 t_a_16 x_14 hB_15
      have al_20 := IvL.of_own hoal
      have t_al_20 := hid (Nat.le_refl w4.heap.size)
      clear hoal
      obtain ⟨xc0, xc1, xcl⟩ := (⟨x_18.cell 0, x_18.cell 1, x_18.lt⟩ : _ ∧ _ ∧ _)
      go_wp2_with fail
      with_reducible refine (sCountPrepares_any p l Ba1 Bal1 da1 dal1 _ a_17.sees al_20.sees N1.out F_l.out).mono ?_
      rintro e w5 ⟨he, hb5⟩
      rw [HK.out] at he
      subst he
      clear xc0 xc1 xcl
      have a_21 := a_17.below hb5
      have t_a_21 := hid (Nat.le_trans t_a_17.out hb5.size)
      have al_22 := al_20.below hb5
      have t_al_22 := hid (Nat.le_trans t_al_20.out hb5.size)
      have x_23 := x_18.below hb5 x_18.lt
      have hB_24 := hB_19.trans (hb5.mono hB_19.size)
      clear hb5 a_17 t_a_17 al_20 t_al_20 x_18 hB_19
      clear a_21 t_a_21 b_a e_x_a d_a_al
      clear al_22 t_al_22 b_al e_x_al
      obtain ⟨xc0, xc1, xcl⟩ := (⟨x_23.cell 0, x_23.cell 1, x_23.lt⟩ : _ ∧ _ ∧ _)
      go_wp2_with fail
      with_reducible refine (toCache_any p A1 c1 _ (SeesN.on h hB_24) N1.out).mono ?_
      rintro e w6 ⟨By1, dy1, rfl, hoy, hb6⟩
      clear xc0 xc1 xcl
      have e_x_y := hid x_23.lt
      have b_y := hid hB_24.size
      have x_25 := x_23.below hb6 x_23.lt
      have hB_26 := hB_24.trans (hb6.mono hB_24.size)
      clear hb6 x_23 hB_24
      have y_27 := IvCache.of_own hoy
      have t_y_27 := hid (Nat.le_refl w6.heap.size)
      clear hoy
      have d_y_px := t_y_27
      have y_28 := y_27.alloc (.cells #[.int .i64 p.r, .slice By1 p.n.length dy1] 27)
      have t_y_28 := hid (Nat.le_trans t_y_27.out ((Below.refl _ _).alloc (Nat.le_refl _) (.cells #[.int .i64 p.r, .slice By1 p.n.length dy1] 27)).size)
      have x_29 := x_25.alloc (.cells #[.int .i64 p.r, .slice By1 p.n.length dy1] 27)
      have hB_30 := hB_26.alloc hB_26.size (.cells #[.int .i64 p.r, .slice By1 p.n.length dy1] 27)
      have px_31 : At (w6.alloc (.cells #[.int .i64 p.r, .slice By1 p.n.length dy1] 27)) w6.heap.size 27 #[.int .i64 p.r, .slice By1 p.n.length dy1] := At.newAt _ _ rfl
      clear y_27 t_y_27 x_25 hB_26
      obtain ⟨xc0, xc1, xcl⟩ := (⟨x_29.cell 0, x_29.cell 1, x_29.lt⟩ : _ ∧ _ ∧ _)
      obtain ⟨pxc0, pxc1, pxcl⟩ := (⟨px_31.cell 0, px_31.cell 1, px_31.lt⟩ : _ ∧ _ ∧ _)
      go_wp2_with fail
      with_reducible refine (toIntS_any A_l c_l l _ ((h_l.below hB_30).more hB_30.size) F_l.out).mono ?_
      rintro e w7 ⟨vyl, rfl, hoyl, hb7⟩
      clear xc0 xc1 xcl pxc0 pxc1 pxcl
      obtain ⟨Byl1, dyl1, rfl, _⟩ := hoyl.form
      have d_y_yl := t_y_28
      have e_x_yl := hid x_29.lt
      have e_px_yl := hid px_31.lt
      have b_yl := hid hB_30.size
      have y_32 := y_28.below hb7
      have t_y_32 := hid (Nat.le_trans t_y_28.out hb7.size)
      have x_33 := x_29.below hb7 x_29.lt
      have px_34 := px_31.below hb7 px_31.lt
      have hB_35 := hB_30.trans (hb7.mono hB_30.size)
      clear hb7 y_28 t_y_28 x_29 px_31 hB_30
      have yl_36 := IvL.of_own hoyl
      have t_yl_36 := hid (Nat.le_refl w7.heap.size)
      clear hoyl
      obtain ⟨xc0, xc1, xcl⟩ := (⟨x_33.cell 0, x_33.cell 1, x_33.lt⟩ : _ ∧ _ ∧ _)
      obtain ⟨pxc0, pxc1, pxcl⟩ := (⟨px_34.cell 0, px_34.cell 1, px_34.lt⟩ : _ ∧ _ ∧ _)
      go_wp2_with fail
      with_reducible refine (iCountPrepares_any p l By1 Byl1 dy1 dyl1 _ y_32.sees yl_36.sees y_32.l1.cap N1.out F_l.out).mono ?_
      rintro e w8 ⟨he, hb8⟩
      rw [HK.out] at he
      subst he
      clear xc0 xc1 xcl pxc0 pxc1 pxcl
      have y_37 := y_32.below hb8
      have t_y_37 := hid (Nat.le_trans t_y_32.out hb8.size)
      have yl_38 := yl_36.below hb8
      have t_yl_38 := hid (Nat.le_trans t_yl_36.out hb8.size)
      have x_39 := x_33.below hb8 x_33.lt
      have px_40 := px_34.below hb8 px_34.lt
      have hB_41 := hB_35.trans (hb8.mono hB_35.size)
      clear hb8 y_32 t_y_32 yl_36 t_yl_36 x_33 px_34 hB_35
      obtain ⟨xc0, xc1, xcl⟩ := (⟨x_39.cell 0, x_39.cell 1, x_39.lt⟩ : _ ∧ _ ∧ _)
      obtain ⟨pxc0, pxc1, pxcl⟩ := (⟨px_40.cell 0, px_40.cell 1, px_40.lt⟩ : _ ∧ _ ∧ _)
      have K1 := hid (⟨x_39.cell 0, x_39.cell 1, px_40.cell 0, px_40.cell 1⟩ : (fun w' => w'.cell? ⟨w.heap.size, 0, none⟩ = some (.int .i64 p.r) ∧ w'.cell? ⟨w.heap.size, 1, none⟩ = some (.slice A1 p.n.length c1) ∧ w'.cell? ⟨w6.heap.size, 0, none⟩ = some (.int .i64 p.r) ∧ w'.cell? ⟨w6.heap.size, 1, none⟩ = some (.slice By1 p.n.length dy1)) w8)
      have y_d := y_37.drew
      have yl_d := yl_38.drew
      have x_d := x_39.drew
      have px_d := px_40.drew
      have hB_d := hB_41.drew
      have K2 := hid (⟨x_d.cell 0, x_d.cell 1, px_d.cell 0, px_d.cell 1⟩ : (fun w' => w'.cell? ⟨w.heap.size, 0, none⟩ = some (.int .i64 p.r) ∧ w'.cell? ⟨w.heap.size, 1, none⟩ = some (.slice A1 p.n.length c1) ∧ w'.cell? ⟨w6.heap.size, 0, none⟩ = some (.int .i64 p.r) ∧ w'.cell? ⟨w6.heap.size, 1, none⟩ = some (.slice By1 p.n.length dy1)) w8.drew)
      go_wp2_with fail
      go_region_held3 (fun w' => w'.cell? ⟨w.heap.size, 0, none⟩ = some (.int .i64 p.r) ∧ w'.cell? ⟨w.heap.size, 1, none⟩ = some (.slice A1 p.n.length c1) ∧ w'.cell? ⟨w6.heap.size, 0, none⟩ = some (.int .i64 p.r) ∧ w'.cell? ⟨w6.heap.size, 1, none⟩ = some (.slice By1 p.n.length dy1))
        (first | with_reducible exact K1.out | with_reducible exact K2.out | with_reducible exact K3.out | with_reducible exact K4.out | go_keep)
        (first
          | (go_at_call 14; (with_reducible refine (toCache_any p A1 c1 _ (SeesN.on h hB_d) N1.out).mono ?_); rintro e wa ⟨Bz1, dz1, rfl, hoz, hba⟩; have y_a := y_d.below hba; have yl_a := yl_d.below hba; have x_a := x_d.below hba x_d.lt; have px_a := px_d.below hba px_d.lt; have hB_a := hB_d.trans (hba.mono hB_d.size); have K3 := hid (⟨x_a.cell 0, x_a.cell 1, px_a.cell 0, px_a.cell 1⟩ : (fun w' => w'.cell? ⟨w.heap.size, 0, none⟩ = some (.int .i64 p.r) ∧ w'.cell? ⟨w.heap.size, 1, none⟩ = some (.slice A1 p.n.length c1) ∧ w'.cell? ⟨w6.heap.size, 0, none⟩ = some (.int .i64 p.r) ∧ w'.cell? ⟨w6.heap.size, 1, none⟩ = some (.slice By1 p.n.length dy1)) wa))
          | (go_at_call 16; (with_reducible refine (eqCache_same By1 Bz1 dy1 dz1 p _ y_a.sees (IvCache.of_own hoz).sees N1.out).mono ?_); rintro e wb ⟨rfl, hbb⟩; have y_b := y_a.below hbb; have yl_b := yl_a.below hbb; have x_b := x_a.below hbb x_a.lt; have px_b := px_a.below hbb px_a.lt; have hB_b := hB_a.trans (hbb.mono hB_a.size); have K4 := hid (⟨x_b.cell 0, x_b.cell 1, px_b.cell 0, px_b.cell 1⟩ : (fun w' => w'.cell? ⟨w.heap.size, 0, none⟩ = some (.int .i64 p.r) ∧ w'.cell? ⟨w.heap.size, 1, none⟩ = some (.slice A1 p.n.length c1) ∧ w'.cell? ⟨w6.heap.size, 0, none⟩ = some (.int .i64 p.r) ∧ w'.cell? ⟨w6.heap.size, 1, none⟩ = some (.slice By1 p.n.length dy1)) wb))
          | fail)
      have y_42 := y_b
      have t_y_42 := hid (Nat.le_trans t_y_37.out (Nat.le_trans hba.size hbb.size))
      have yl_43 := yl_b
      have t_yl_43 := hid (Nat.le_trans t_yl_38.out (Nat.le_trans hba.size hbb.size))
      have x_44 := x_b
      have px_45 := px_b
      have hB_46 := hB_b
      clear y_37 t_y_37 yl_38 t_yl_38 x_39 px_40 hB_41 K1 K2 K3 K4 y_d y_a y_b yl_d yl_a yl_b x_d x_a x_b px_d px_a px_b hB_d hB_a hB_b hba hbb hoz
      clear xc0 xc1 xcl pxc0 pxc1 pxcl
      obtain ⟨xc0, xc1, xcl⟩ := (⟨x_44.cell 0, x_44.cell 1, x_44.lt⟩ : _ ∧ _ ∧ _)
      obtain ⟨pxc0, pxc1, pxcl⟩ := (⟨px_45.cell 0, px_45.cell 1, px_45.lt⟩ : _ ∧ _ ∧ _)
      go_wp2_with fail
      with_reducible refine (toIntS_any A_l c_l l _ ((h_l.below hB_46).more hB_46.size) F_l.out).mono ?_
      rintro e w9 ⟨vzl, rfl, hozl, hb9⟩
      clear xc0 xc1 xcl pxc0 pxc1 pxcl
      obtain ⟨Bzl1, dzl1, rfl, _⟩ := hozl.form
      have d_y_zl := t_y_42
      have d_yl_zl := t_yl_43
      have e_x_zl := hid x_44.lt
      have e_px_zl := hid px_45.lt
      have b_zl := hid hB_46.size
      have y_47 := y_42.below hb9
      have t_y_47 := hid (Nat.le_trans t_y_42.out hb9.size)
      have yl_48 := yl_43.below hb9
      have t_yl_48 := hid (Nat.le_trans t_yl_43.out hb9.size)
      have x_49 := x_44.below hb9 x_44.lt
      have px_50 := px_45.below hb9 px_45.lt
      have hB_51 := hB_46.trans (hb9.mono hB_46.size)
      clear hb9 y_42 t_y_42 yl_43 t_yl_43 x_44 px_45 hB_46
      have zl_52 := IvL.of_own hozl
      have t_zl_52 := hid (Nat.le_refl w9.heap.size)
      clear hozl
      obtain ⟨xc0, xc1, xcl⟩ := (⟨x_49.cell 0, x_49.cell 1, x_49.lt⟩ : _ ∧ _ ∧ _)
      obtain ⟨pxc0, pxc1, pxcl⟩ := (⟨px_50.cell 0, px_50.cell 1, px_50.lt⟩ : _ ∧ _ ∧ _)
      go_wp2_with fail
      with_reducible refine (eqIntS_same Byl1 Bzl1 dyl1 dzl1 l _ yl_48.sees zl_52.sees F_l.out).mono ?_
      rintro e w10 ⟨rfl, hb10⟩
      clear xc0 xc1 xcl pxc0 pxc1 pxcl
      have y_53 := y_47.below hb10
      have t_y_53 := hid (Nat.le_trans t_y_47.out hb10.size)
      have yl_54 := yl_48.below hb10
      have t_yl_54 := hid (Nat.le_trans t_yl_48.out hb10.size)
      have zl_55 := zl_52.below hb10
      have t_zl_55 := hid (Nat.le_trans t_zl_52.out hb10.size)
      have x_56 := x_49.below hb10 x_49.lt
      have px_57 := px_50.below hb10 px_50.lt
      have hB_58 := hB_51.trans (hb10.mono hB_51.size)
      clear hb10 y_47 t_y_47 yl_48 t_yl_48 zl_52 t_zl_52 x_49 px_50 hB_51
      clear zl_55 t_zl_55 b_zl d_y_zl d_yl_zl e_x_zl e_px_zl
      obtain ⟨xc0, xc1, xcl⟩ := (⟨x_56.cell 0, x_56.cell 1, x_56.lt⟩ : _ ∧ _ ∧ _)
      obtain ⟨pxc0, pxc1, pxcl⟩ := (⟨px_57.cell 0, px_57.cell 1, px_57.lt⟩ : _ ∧ _ ∧ _)
      go_wp2
      go_ret
      exact ⟨rfl, hB_58⟩
end Go.Proofs.Ytgliijkpjncfnaa

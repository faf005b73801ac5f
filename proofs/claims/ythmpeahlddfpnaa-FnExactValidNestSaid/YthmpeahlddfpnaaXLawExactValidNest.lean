/-
  The walk of the exact law FnExactValidNest: at every argument it returns true and changes nothing that was there. Conditions: none.
-/
import Derived.Test.YthmpeahlddfpnaaSlNest
import Derived.Test.YthmpeahlddfpnaaMarkL
import Derived.Test.YthmpeahlddfpnaaNsB
import Derived.Deep.RegionHeld3
namespace Go.Proofs.Ythmpeahlddfpnaa
open Go.RowKit Nes

set_option maxHeartbeats 16000000 in
theorem walkExactValidNest (A1 : Option Addr) (c1 : Nat) (p : Nst) (w : World) (hm1 : p.m.length ≤ maxLen) (h : SeesM w w.heap.size A1 p) :
    Calls Try.prog 3 #[.agg #[.int .i64 p.d, .int .i64 p.w, .slice A1 p.m.length c1, .bool p.b]] w fun e w' => e = .returned (.bool true) ∧ Below w.heap.size w w' := by
  have M1 := hid hm1
  clear hm1
  by_cases hbig : 1048576 < p.m.length
  · skip
    have E0 : Hid ((if 1048576 < p.m.length then (-1 : Int) else 1048576 - (p.m.length : Int)) = -1) := hid (if_pos hbig)
    clear hbig
    have hB_1 := Below.refl w.heap.size w
    have hB_2 := hB_1.alloc hB_1.size (.cells #[.int .i64 p.d, .int .i64 p.w, .slice A1 p.m.length c1, .bool p.b] 24)
    have x_3 : At (w.alloc (.cells #[.int .i64 p.d, .int .i64 p.w, .slice A1 p.m.length c1, .bool p.b] 24)) w.heap.size 24 #[.int .i64 p.d, .int .i64 p.w, .slice A1 p.m.length c1, .bool p.b] := At.newAt _ _ rfl
    clear hB_1
    go_enter Try.func3, Try.ntmps3
    obtain ⟨xc0, xc1, xc2, xc3, xcl⟩ := (⟨x_3.cell 0, x_3.cell 1, x_3.cell 2, x_3.cell 3, x_3.lt⟩ : _ ∧ _ ∧ _ ∧ _ ∧ _)
    go_wp2_with fail
    with_reducible refine (szNest_any A1 p.m.length c1 p.d p.w p.b _ M1.out).mono ?_
    rintro e w1 ⟨he, hb1⟩
    rw [E0.out] at he
    subst he
    clear xc0 xc1 xc2 xc3 xcl
    have x_4 := x_3.below hb1 x_3.lt
    have hB_5 := hB_2.trans (hb1.mono hB_2.size)
    clear hb1 x_3 hB_2
    go_wp2
    go_ret
    exact ⟨rfl, hB_5⟩
  · skip
    have N1 := hid (show p.m.length ≤ 4194304 by omega)
    have HTOT := hid (show p.m.length ≤ 1048576 by omega)
    obtain ⟨V, hV⟩ : ∃ V : Int, V = 1048576 - (p.m.length : Int) := ⟨_, rfl⟩
    have E0 : Hid ((if 1048576 < p.m.length then (-1 : Int) else 1048576 - (p.m.length : Int)) = V) := hid (by rw [if_neg hbig, hV])
    have hle : ¬ V < 0 := by omega
    clear hV hbig
    obtain ⟨K, hK⟩ : ∃ K, K = nestB p := ⟨_, rfl⟩
    have HK : Hid (nestB p = K) := hid hK.symm
    clear hK
    have hB_6 := Below.refl w.heap.size w
    have hB_7 := hB_6.alloc hB_6.size (.cells #[.int .i64 p.d, .int .i64 p.w, .slice A1 p.m.length c1, .bool p.b] 24)
    have x_8 : At (w.alloc (.cells #[.int .i64 p.d, .int .i64 p.w, .slice A1 p.m.length c1, .bool p.b] 24)) w.heap.size 24 #[.int .i64 p.d, .int .i64 p.w, .slice A1 p.m.length c1, .bool p.b] := At.newAt _ _ rfl
    clear hB_6
    go_enter Try.func3, Try.ntmps3
    obtain ⟨xc0, xc1, xc2, xc3, xcl⟩ := (⟨x_8.cell 0, x_8.cell 1, x_8.cell 2, x_8.cell 3, x_8.lt⟩ : _ ∧ _ ∧ _ ∧ _ ∧ _)
    go_wp2_with fail
    with_reducible refine (szNest_any A1 p.m.length c1 p.d p.w p.b _ M1.out).mono ?_
    rintro e w2 ⟨he, hb2⟩
    rw [E0.out] at he
    subst he
    clear xc0 xc1 xc2 xc3 xcl
    have x_9 := x_8.below hb2 x_8.lt
    have hB_10 := hB_7.trans (hb2.mono hB_7.size)
    clear hb2 x_8 hB_7
    obtain ⟨xc0, xc1, xc2, xc3, xcl⟩ := (⟨x_9.cell 0, x_9.cell 1, x_9.cell 2, x_9.cell 3, x_9.lt⟩ : _ ∧ _ ∧ _ ∧ _ ∧ _)
    go_wp2_with fail
    with_reducible refine (toNest_any p A1 c1 _ (SeesM.on h hB_10) N1.out).mono ?_
    rintro e w3 ⟨Ba1, da1, rfl, hoa, hb3⟩
    clear xc0 xc1 xc2 xc3 xcl
    have e_x_a := hid x_9.lt
    have b_a := hid hB_10.size
    have x_11 := x_9.below hb3 x_9.lt
    have hB_12 := hB_10.trans (hb3.mono hB_10.size)
    clear hb3 x_9 hB_10
    have a_13 := IvNest.of_own hoa
    have t_a_13 := hid (Nat.le_refl w3.heap.size)
    clear hoa
    obtain ⟨xc0, xc1, xc2, xc3, xcl⟩ := (⟨x_11.cell 0, x_11.cell 1, x_11.cell 2, x_11.cell 3, x_11.lt⟩ : _ ∧ _ ∧ _ ∧ _ ∧ _)
    go_wp2_with fail
    with_reducible refine (sValidNest_any p Ba1 da1 _ a_13.sees N1.out).mono ?_
    rintro e w4 ⟨he, hb4⟩
    rw [HK.out] at he
    subst he
    clear xc0 xc1 xc2 xc3 xcl
    have a_14 := a_13.below hb4
    have t_a_14 := hid (Nat.le_trans t_a_13.out hb4.size)
    have x_15 := x_11.below hb4 x_11.lt
    have hB_16 := hB_12.trans (hb4.mono hB_12.size)
    clear hb4 a_13 t_a_13 x_11 hB_12
    clear a_14 t_a_14 b_a e_x_a
    obtain ⟨xc0, xc1, xc2, xc3, xcl⟩ := (⟨x_15.cell 0, x_15.cell 1, x_15.cell 2, x_15.cell 3, x_15.lt⟩ : _ ∧ _ ∧ _ ∧ _ ∧ _)
    go_wp2_with fail
    with_reducible refine (toNest_any p A1 c1 _ (SeesM.on h hB_16) N1.out).mono ?_
    rintro e w5 ⟨By1, dy1, rfl, hoy, hb5⟩
    clear xc0 xc1 xc2 xc3 xcl
    have e_x_y := hid x_15.lt
    have b_y := hid hB_16.size
    have x_17 := x_15.below hb5 x_15.lt
    have hB_18 := hB_16.trans (hb5.mono hB_16.size)
    clear hb5 x_15 hB_16
    have y_19 := IvNest.of_own hoy
    have t_y_19 := hid (Nat.le_refl w5.heap.size)
    clear hoy
    have d_y_px := t_y_19
    have y_20 := y_19.alloc (.cells #[.int .i64 p.d, .int .i64 p.w, .slice By1 p.m.length dy1, .bool p.b] 27)
    have t_y_20 := hid (Nat.le_trans t_y_19.out ((Below.refl _ _).alloc (Nat.le_refl _) (.cells #[.int .i64 p.d, .int .i64 p.w, .slice By1 p.m.length dy1, .bool p.b] 27)).size)
    have x_21 := x_17.alloc (.cells #[.int .i64 p.d, .int .i64 p.w, .slice By1 p.m.length dy1, .bool p.b] 27)
    have hB_22 := hB_18.alloc hB_18.size (.cells #[.int .i64 p.d, .int .i64 p.w, .slice By1 p.m.length dy1, .bool p.b] 27)
    have px_23 : At (w5.alloc (.cells #[.int .i64 p.d, .int .i64 p.w, .slice By1 p.m.length dy1, .bool p.b] 27)) w5.heap.size 27 #[.int .i64 p.d, .int .i64 p.w, .slice By1 p.m.length dy1, .bool p.b] := At.newAt _ _ rfl
    clear y_19 t_y_19 x_17 hB_18
    obtain ⟨xc0, xc1, xc2, xc3, xcl⟩ := (⟨x_21.cell 0, x_21.cell 1, x_21.cell 2, x_21.cell 3, x_21.lt⟩ : _ ∧ _ ∧ _ ∧ _ ∧ _)
    obtain ⟨pxc0, pxc1, pxc2, pxc3, pxcl⟩ := (⟨px_23.cell 0, px_23.cell 1, px_23.cell 2, px_23.cell 3, px_23.lt⟩ : _ ∧ _ ∧ _ ∧ _ ∧ _)
    go_wp2_with fail
    with_reducible refine (iValidNest_any p By1 dy1 _ y_20.sees y_20.l1.cap N1.out).mono ?_
    rintro e w6 ⟨he, hb6⟩
    rw [HK.out] at he
    subst he
    clear xc0 xc1 xc2 xc3 xcl pxc0 pxc1 pxc2 pxc3 pxcl
    have y_24 := y_20.below hb6
    have t_y_24 := hid (Nat.le_trans t_y_20.out hb6.size)
    have x_25 := x_21.below hb6 x_21.lt
    have px_26 := px_23.below hb6 px_23.lt
    have hB_27 := hB_22.trans (hb6.mono hB_22.size)
    clear hb6 y_20 t_y_20 x_21 px_23 hB_22
    obtain ⟨xc0, xc1, xc2, xc3, xcl⟩ := (⟨x_25.cell 0, x_25.cell 1, x_25.cell 2, x_25.cell 3, x_25.lt⟩ : _ ∧ _ ∧ _ ∧ _ ∧ _)
    obtain ⟨pxc0, pxc1, pxc2, pxc3, pxcl⟩ := (⟨px_26.cell 0, px_26.cell 1, px_26.cell 2, px_26.cell 3, px_26.lt⟩ : _ ∧ _ ∧ _ ∧ _ ∧ _)
    have K1 := hid (⟨x_25.cell 0, x_25.cell 1, x_25.cell 2, x_25.cell 3, px_26.cell 0, px_26.cell 1, px_26.cell 2, px_26.cell 3⟩ : (fun w' => w'.cell? ⟨w.heap.size, 0, none⟩ = some (.int .i64 p.d) ∧ w'.cell? ⟨w.heap.size, 1, none⟩ = some (.int .i64 p.w) ∧ w'.cell? ⟨w.heap.size, 2, none⟩ = some (.slice A1 p.m.length c1) ∧ w'.cell? ⟨w.heap.size, 3, none⟩ = some (.bool p.b) ∧ w'.cell? ⟨w5.heap.size, 0, none⟩ = some (.int .i64 p.d) ∧ w'.cell? ⟨w5.heap.size, 1, none⟩ = some (.int .i64 p.w) ∧ w'.cell? ⟨w5.heap.size, 2, none⟩ = some (.slice By1 p.m.length dy1) ∧ w'.cell? ⟨w5.heap.size, 3, none⟩ = some (.bool p.b)) w6)
    have y_d := y_24.drew
    have x_d := x_25.drew
    have px_d := px_26.drew
    have hB_d := hB_27.drew
    have K2 := hid (⟨x_d.cell 0, x_d.cell 1, x_d.cell 2, x_d.cell 3, px_d.cell 0, px_d.cell 1, px_d.cell 2, px_d.cell 3⟩ : (fun w' => w'.cell? ⟨w.heap.size, 0, none⟩ = some (.int .i64 p.d) ∧ w'.cell? ⟨w.heap.size, 1, none⟩ = some (.int .i64 p.w) ∧ w'.cell? ⟨w.heap.size, 2, none⟩ = some (.slice A1 p.m.length c1) ∧ w'.cell? ⟨w.heap.size, 3, none⟩ = some (.bool p.b) ∧ w'.cell? ⟨w5.heap.size, 0, none⟩ = some (.int .i64 p.d) ∧ w'.cell? ⟨w5.heap.size, 1, none⟩ = some (.int .i64 p.w) ∧ w'.cell? ⟨w5.heap.size, 2, none⟩ = some (.slice By1 p.m.length dy1) ∧ w'.cell? ⟨w5.heap.size, 3, none⟩ = some (.bool p.b)) w6.drew)
    go_wp2_with fail
    go_region_held3 (fun w' => w'.cell? ⟨w.heap.size, 0, none⟩ = some (.int .i64 p.d) ∧ w'.cell? ⟨w.heap.size, 1, none⟩ = some (.int .i64 p.w) ∧ w'.cell? ⟨w.heap.size, 2, none⟩ = some (.slice A1 p.m.length c1) ∧ w'.cell? ⟨w.heap.size, 3, none⟩ = some (.bool p.b) ∧ w'.cell? ⟨w5.heap.size, 0, none⟩ = some (.int .i64 p.d) ∧ w'.cell? ⟨w5.heap.size, 1, none⟩ = some (.int .i64 p.w) ∧ w'.cell? ⟨w5.heap.size, 2, none⟩ = some (.slice By1 p.m.length dy1) ∧ w'.cell? ⟨w5.heap.size, 3, none⟩ = some (.bool p.b))
      (first | with_reducible exact K1.out | with_reducible exact K2.out | with_reducible exact K3.out | with_reducible exact K4.out | go_keep)
      (first
        | (go_at_call 14; (with_reducible refine (toNest_any p A1 c1 _ (SeesM.on h hB_d) N1.out).mono ?_); rintro e wa ⟨Bz1, dz1, rfl, hoz, hba⟩; have y_a := y_d.below hba; have x_a := x_d.below hba x_d.lt; have px_a := px_d.below hba px_d.lt; have hB_a := hB_d.trans (hba.mono hB_d.size); have K3 := hid (⟨x_a.cell 0, x_a.cell 1, x_a.cell 2, x_a.cell 3, px_a.cell 0, px_a.cell 1, px_a.cell 2, px_a.cell 3⟩ : (fun w' => w'.cell? ⟨w.heap.size, 0, none⟩ = some (.int .i64 p.d) ∧ w'.cell? ⟨w.heap.size, 1, none⟩ = some (.int .i64 p.w) ∧ w'.cell? ⟨w.heap.size, 2, none⟩ = some (.slice A1 p.m.length c1) ∧ w'.cell? ⟨w.heap.size, 3, none⟩ = some (.bool p.b) ∧ w'.cell? ⟨w5.heap.size, 0, none⟩ = some (.int .i64 p.d) ∧ w'.cell? ⟨w5.heap.size, 1, none⟩ = some (.int .i64 p.w) ∧ w'.cell? ⟨w5.heap.size, 2, none⟩ = some (.slice By1 p.m.length dy1) ∧ w'.cell? ⟨w5.heap.size, 3, none⟩ = some (.bool p.b)) wa))
        | (go_at_call 16; (with_reducible refine (eqNest_same By1 Bz1 dy1 dz1 p _ y_a.sees (IvNest.of_own hoz).sees N1.out).mono ?_); rintro e wb ⟨rfl, hbb⟩; have y_b := y_a.below hbb; have x_b := x_a.below hbb x_a.lt; have px_b := px_a.below hbb px_a.lt; have hB_b := hB_a.trans (hbb.mono hB_a.size); have K4 := hid (⟨x_b.cell 0, x_b.cell 1, x_b.cell 2, x_b.cell 3, px_b.cell 0, px_b.cell 1, px_b.cell 2, px_b.cell 3⟩ : (fun w' => w'.cell? ⟨w.heap.size, 0, none⟩ = some (.int .i64 p.d) ∧ w'.cell? ⟨w.heap.size, 1, none⟩ = some (.int .i64 p.w) ∧ w'.cell? ⟨w.heap.size, 2, none⟩ = some (.slice A1 p.m.length c1) ∧ w'.cell? ⟨w.heap.size, 3, none⟩ = some (.bool p.b) ∧ w'.cell? ⟨w5.heap.size, 0, none⟩ = some (.int .i64 p.d) ∧ w'.cell? ⟨w5.heap.size, 1, none⟩ = some (.int .i64 p.w) ∧ w'.cell? ⟨w5.heap.size, 2, none⟩ = some (.slice By1 p.m.length dy1) ∧ w'.cell? ⟨w5.heap.size, 3, none⟩ = some (.bool p.b)) wb))
        | fail)
    have y_28 := y_b
    have t_y_28 := hid (Nat.le_trans t_y_24.out (Nat.le_trans hba.size hbb.size))
    have x_29 := x_b
    have px_30 := px_b
    have hB_31 := hB_b
    clear y_24 t_y_24 x_25 px_26 hB_27 K1 K2 K3 K4 y_d y_a y_b x_d x_a x_b px_d px_a px_b hB_d hB_a hB_b hba hbb hoz
    clear xc0 xc1 xc2 xc3 xcl pxc0 pxc1 pxc2 pxc3 pxcl
    obtain ⟨xc0, xc1, xc2, xc3, xcl⟩ := (⟨x_29.cell 0, x_29.cell 1, x_29.cell 2, x_29.cell 3, x_29.lt⟩ : _ ∧ _ ∧ _ ∧ _ ∧ _)
    obtain ⟨pxc0, pxc1, pxc2, pxc3, pxcl⟩ := (⟨px_30.cell 0, px_30.cell 1, px_30.cell 2, px_30.cell 3, px_30.lt⟩ : _ ∧ _ ∧ _ ∧ _ ∧ _)
    go_wp2
    go_ret
    exact ⟨rfl, hB_31⟩
end Go.Proofs.Ythmpeahlddfpnaa

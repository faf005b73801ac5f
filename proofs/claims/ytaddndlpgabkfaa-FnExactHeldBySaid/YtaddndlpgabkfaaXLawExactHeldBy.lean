/-
  The walk of the exact law FnExactHeldBy: at every argument it returns true and changes nothing that was there. Conditions: none.
-/
import Derived.Test.YtaddndlpgabkfaaPlU
import Derived.Test.YtaddndlpgabkfaaPlQ
import Derived.Test.YtaddndlpgabkfaaPlK
import Derived.Test.YtaddndlpgabkfaaPoolLawMath
import Derived.Deep.RegionHeld3
namespace Go.Proofs.Ytaddndlpgabkfaa
open Go.RowKit Pol

set_option maxHeartbeats 16000000 in
theorem walkExactHeldBy (A1 A2 A3 : Option Addr) (c1 c2 c3 : Nat) (p : Pl) (o : Int) (w : World) (hm1 : p.idle.length ≤ maxLen) (hm2 : p.held.length ≤ maxLen) (hm3 : p.wait.length ≤ maxLen) (h : SeesP w w.heap.size A1 A2 A3 p) :
    Calls Try.prog 7 #[.agg #[.int .i64 p.mx, .slice A1 p.idle.length c1, .slice A2 p.held.length c2, .slice A3 p.wait.length c3], .int .i64 o] w fun e w' => e = .returned (.bool true) ∧ Below w.heap.size w w' := by
  have M1 := hid hm1
  have M2 := hid hm2
  have M3 := hid hm3
  clear hm1 hm2 hm3
  by_cases hbig : 1048576 < p.idle.length + p.held.length + p.wait.length
  · skip
    have E0 : Hid ((if 1048576 < p.idle.length + p.held.length + p.wait.length then (-1 : Int) else 1048576 - ((p.idle.length + p.held.length + p.wait.length : Nat) : Int)) = -1) := hid (if_pos hbig)
    clear hbig
    have hB1 := Below.refl w.heap.size w
    have hB2 := hB1.alloc hB1.size (.cells #[.int .i64 p.mx, .slice A1 p.idle.length c1, .slice A2 p.held.length c2, .slice A3 p.wait.length c3] 25)
    clear hB1
    have x3 : At (w.alloc (.cells #[.int .i64 p.mx, .slice A1 p.idle.length c1, .slice A2 p.held.length c2, .slice A3 p.wait.length c3] 25)) (w.heap.size) 25 #[.int .i64 p.mx, .slice A1 p.idle.length c1, .slice A2 p.held.length c2, .slice A3 p.wait.length c3] := At.newAt _ _ (by first | rfl | (simp; done) | (simp; omega))
    go_enter Try.func7, Try.ntmps7
    obtain ⟨p0, p1, p2, p3, pl, pf⟩ := (⟨x3.cell 0, x3.cell 1, x3.cell 2, x3.cell 3, x3.lt, x3.frozen⟩ : _ ∧ _ ∧ _ ∧ _ ∧ _ ∧ _)
    go_wp2_with fail
    with_reducible refine (szPool_any A1 A2 A3 p.idle.length p.held.length p.wait.length c1 c2 c3 p.mx _ M1.out M2.out M3.out).mono ?_
    rintro e w1 ⟨he, hb1⟩
    rw [E0.out] at he
    subst he
    have sz1 : w.heap.size + 1 ≤ w1.heap.size := Nat.le_trans (by first | exact Nat.le_refl _ | (simp; done) | (simp; omega)) (hb1.size)
    have hB4 := hB2.trans (hb1.mono hB2.size)
    have x5 := x3.below hb1 x3.lt
    clear hB2 x3
    clear p0 p1 p2 p3 pl pf
    obtain ⟨p0, p1, p2, p3, pl, pf⟩ := (⟨x5.cell 0, x5.cell 1, x5.cell 2, x5.cell 3, x5.lt, x5.frozen⟩ : _ ∧ _ ∧ _ ∧ _ ∧ _ ∧ _)
    go_wp2
    go_ret
    exact ⟨rfl, hB4⟩
  · skip
    have L1 := hid (show p.idle.length ≤ 2097152 by omega)
    have L2 := hid (show p.held.length ≤ 2097152 by omega)
    have L3 := hid (show p.wait.length ≤ 2097152 by omega)
    have N1 := hid (show p.idle.length ≤ 4194304 by omega)
    have N2 := hid (show p.held.length ≤ 4194304 by omega)
    have N3 := hid (show p.wait.length ≤ 4194304 by omega)
    obtain ⟨V, hV⟩ : ∃ V : Int, V = 1048576 - ((p.idle.length + p.held.length + p.wait.length : Nat) : Int) := ⟨_, rfl⟩
    have E0 : Hid ((if 1048576 < p.idle.length + p.held.length + p.wait.length then (-1 : Int) else 1048576 - ((p.idle.length + p.held.length + p.wait.length : Nat) : Int)) = V) := hid (by rw [if_neg hbig, hV])
    have hle : ¬ V < 0 := by omega
    clear hV hbig
    have r1 : (heldBy p o).length ≤ 4194304 := Nat.le_trans (heldBy_len p o) (by decide)
    obtain ⟨X, hX⟩ : ∃ X, X = heldBy p o := ⟨_, rfl⟩
    have HX : Hid (heldBy p o = X) := hid hX.symm
    rw [← hX] at r1
    have R1 := hid r1
    clear r1
    clear hX
    obtain ⟨CP, hCP⟩ : ∃ CP : Int, CP = p.count := ⟨_, rfl⟩
    have HCP : Hid (p.count = CP) := hid hCP.symm
    have nCP : ¬ CP < 0 := by rw [hCP]; unfold Pl.count; omega
    clear hCP
    have hXc : ¬ (((1 : Nat) : Int) + X.length) < 0 := by omega
    have EX : Hid (eqB X X = true) := hid (eqB_iff.2 rfl)
    have hB6 := Below.refl w.heap.size w
    have hB7 := hB6.alloc hB6.size (.cells #[.int .i64 p.mx, .slice A1 p.idle.length c1, .slice A2 p.held.length c2, .slice A3 p.wait.length c3] 25)
    clear hB6
    have x8 : At (w.alloc (.cells #[.int .i64 p.mx, .slice A1 p.idle.length c1, .slice A2 p.held.length c2, .slice A3 p.wait.length c3] 25)) (w.heap.size) 25 #[.int .i64 p.mx, .slice A1 p.idle.length c1, .slice A2 p.held.length c2, .slice A3 p.wait.length c3] := At.newAt _ _ (by first | rfl | (simp; done) | (simp; omega))
    go_enter Try.func7, Try.ntmps7
    obtain ⟨p0, p1, p2, p3, pl, pf⟩ := (⟨x8.cell 0, x8.cell 1, x8.cell 2, x8.cell 3, x8.lt, x8.frozen⟩ : _ ∧ _ ∧ _ ∧ _ ∧ _ ∧ _)
    go_wp2_with fail
    with_reducible refine (szPool_any A1 A2 A3 p.idle.length p.held.length p.wait.length c1 c2 c3 p.mx _ M1.out M2.out M3.out).mono ?_
    rintro e w1 ⟨he, hb1⟩
    rw [E0.out] at he
    subst he
    have sz1 : w.heap.size + 1 ≤ w1.heap.size := Nat.le_trans (by first | exact Nat.le_refl _ | (simp; done) | (simp; omega)) (hb1.size)
    have hB9 := hB7.trans (hb1.mono hB7.size)
    have x10 := x8.below hb1 x8.lt
    clear hB7 x8
    clear p0 p1 p2 p3 pl pf
    obtain ⟨p0, p1, p2, p3, pl, pf⟩ := (⟨x10.cell 0, x10.cell 1, x10.cell 2, x10.cell 3, x10.lt, x10.frozen⟩ : _ ∧ _ ∧ _ ∧ _ ∧ _ ∧ _)
    go_wp2_with fail
    with_reducible refine (toPool_any p A1 A2 A3 c1 c2 c3 _ (h.on hB9) N1.out N2.out N3.out).mono ?_
    rintro e w2 ⟨Ba1, Ba2, Ba3, da1, da2, da3, rfl, hoa, hb2⟩
    have sz2 : w1.heap.size ≤ w2.heap.size := Nat.le_trans (by first | exact Nat.le_refl _ | (simp; done) | (simp; omega)) (hb2.size)
    have hB11 := hB9.trans (hb2.mono hB9.size)
    have x12 := x10.below hb2 x10.lt
    clear hB9 x10
    clear p0 p1 p2 p3 pl pf
    have a13 := hoa.mono (show w1.heap.size ≤ _ by first | exact Nat.le_refl _ | (simp; done))
    clear hoa
    have cap := a13.lens
    obtain ⟨p0, p1, p2, p3, pl, pf⟩ := (⟨x12.cell 0, x12.cell 1, x12.cell 2, x12.cell 3, x12.lt, x12.frozen⟩ : _ ∧ _ ∧ _ ∧ _ ∧ _ ∧ _)
    go_wp2_with fail
    with_reducible refine (sHeldBy_any p Ba1 Ba2 Ba3 da1 da2 da3 o _ a13.sees L1.out L2.out L3.out).mono ?_
    rintro e w3 ⟨vw, rfl, how, hb3⟩
    rw [HX.out] at how
    obtain ⟨Bw1, dw1, rfl, _⟩ := how.form
    have sz3 : w2.heap.size ≤ w3.heap.size := Nat.le_trans (by first | exact Nat.le_refl _ | (simp; done) | (simp; omega)) (hb3.size)
    have hB14 := hB11.trans (hb3.mono hB11.size)
    have x15 := x12.below hb3 x12.lt
    have a16 := a13.below hb3
    clear hB11 x12 a13
    clear p0 p1 p2 p3 pl pf
    have w17 := own_mono how.out (show w2.heap.size ≤ _ by first | exact Nat.le_refl _ | (simp; done))
    clear cap how
    clear a16
    have bw1 := w17.lt
    obtain ⟨p0, p1, p2, p3, pl, pf⟩ := (⟨x15.cell 0, x15.cell 1, x15.cell 2, x15.cell 3, x15.lt, x15.frozen⟩ : _ ∧ _ ∧ _ ∧ _ ∧ _ ∧ _)
    go_wp2_with fail
    with_reducible refine (toPool_any p A1 A2 A3 c1 c2 c3 _ (h.on hB14) N1.out N2.out N3.out).mono ?_
    rintro e w4 ⟨By1, By2, By3, dy1, dy2, dy3, rfl, hoy, hb4⟩
    have sz4 : w3.heap.size ≤ w4.heap.size := Nat.le_trans (by first | exact Nat.le_refl _ | (simp; done) | (simp; omega)) (hb4.size)
    have hB18 := hB14.trans (hb4.mono hB14.size)
    have x19 := x15.below hb4 x15.lt
    have w20 := own_below w17 hb4
    clear hB14 x15 w17
    clear p0 p1 p2 p3 pl pf
    have y21 := hoy.mono (show w3.heap.size ≤ _ by first | exact Nat.le_refl _ | (simp; done))
    clear hoy
    have by1 := y21.lt1
    have by2 := y21.lt2
    have by3 := y21.lt3
    obtain ⟨p0, p1, p2, p3, pl, pf⟩ := (⟨x19.cell 0, x19.cell 1, x19.cell 2, x19.cell 3, x19.lt, x19.frozen⟩ : _ ∧ _ ∧ _ ∧ _ ∧ _ ∧ _)
    have hB22 := hB18.alloc hB18.size (.cells #[.int .i64 p.mx, .slice By1 p.idle.length dy1, .slice By2 p.held.length dy2, .slice By3 p.wait.length dy3] 30)
    have x23 := x19.alloc (.cells #[.int .i64 p.mx, .slice By1 p.idle.length dy1, .slice By2 p.held.length dy2, .slice By3 p.wait.length dy3] 30)
    have w24 := own_alloc w20 (.cells #[.int .i64 p.mx, .slice By1 p.idle.length dy1, .slice By2 p.held.length dy2, .slice By3 p.wait.length dy3] 30)
    have y25 := y21.alloc (.cells #[.int .i64 p.mx, .slice By1 p.idle.length dy1, .slice By2 p.held.length dy2, .slice By3 p.wait.length dy3] 30)
    clear hB18 x19 w20 y21
    have px26 : At (w4.alloc (.cells #[.int .i64 p.mx, .slice By1 p.idle.length dy1, .slice By2 p.held.length dy2, .slice By3 p.wait.length dy3] 30)) (w4.heap.size) 30 #[.int .i64 p.mx, .slice By1 p.idle.length dy1, .slice By2 p.held.length dy2, .slice By3 p.wait.length dy3] := At.newAt _ _ (by first | rfl | (simp; done) | (simp; omega))
    have cap := y25.lens
    go_wp2_with fail
    with_reducible refine (iHeldBy_any p By1 By2 By3 dy1 dy2 dy3 o _ y25.sees L1.out L2.out L3.out).mono ?_
    rintro e w5 ⟨vgg, rfl, hogg, hb5⟩
    rw [HX.out] at hogg
    obtain ⟨Bgg1, dgg1, rfl, _⟩ := hogg.form
    have sz5 : w4.heap.size + 1 ≤ w5.heap.size := Nat.le_trans (by first | exact Nat.le_refl _ | (simp; done) | (simp; omega)) (hb5.size)
    have hB27 := hB22.trans (hb5.mono hB22.size)
    have x28 := x23.below hb5 x23.lt
    have w29 := own_below w24 hb5
    have y30 := y25.below hb5
    have px31 := px26.below hb5 px26.lt
    clear hB22 x23 w24 y25 px26
    clear p0 p1 p2 p3 pl pf
    have gg32 := own_mono hogg.out (show w4.heap.size + 1 ≤ _ by first | exact Nat.le_refl _ | (simp; done))
    clear cap hogg
    have bgg1 := gg32.lt
    obtain ⟨p0, p1, p2, p3, pl, pf⟩ := (⟨x28.cell 0, x28.cell 1, x28.cell 2, x28.cell 3, x28.lt, x28.frozen⟩ : _ ∧ _ ∧ _ ∧ _ ∧ _ ∧ _)
    obtain ⟨r0, r1, r2, r3, rl, rf⟩ := (⟨px31.cell 0, px31.cell 1, px31.cell 2, px31.cell 3, px31.lt, px31.frozen⟩ : _ ∧ _ ∧ _ ∧ _ ∧ _ ∧ _)
    go_wp2_with fail
    with_reducible refine (eqIntS_any Bgg1 Bw1 dgg1 dw1 X X _ (Sees.of_own gg32) (Sees.of_own w29) (Nat.le_trans R1.out (by decide))).mono ?_
    rintro e w6 ⟨he, hb6⟩
    rw [EX.out] at he
    subst he
    have sz6 : w5.heap.size ≤ w6.heap.size := Nat.le_trans (by first | exact Nat.le_refl _ | (simp; done) | (simp; omega)) (hb6.size)
    have hB33 := hB27.trans (hb6.mono hB27.size)
    have x34 := x28.below hb6 x28.lt
    have w35 := own_below w29 hb6
    have y36 := y30.below hb6
    have px37 := px31.below hb6 px31.lt
    have gg38 := own_below gg32 hb6
    clear hB27 x28 w29 y30 px31 gg32
    clear p0 p1 p2 p3 pl pf r0 r1 r2 r3 rl rf
    obtain ⟨p0, p1, p2, p3, pl, pf⟩ := (⟨x34.cell 0, x34.cell 1, x34.cell 2, x34.cell 3, x34.lt, x34.frozen⟩ : _ ∧ _ ∧ _ ∧ _ ∧ _ ∧ _)
    obtain ⟨r0, r1, r2, r3, rl, rf⟩ := (⟨px37.cell 0, px37.cell 1, px37.cell 2, px37.cell 3, px37.lt, px37.frozen⟩ : _ ∧ _ ∧ _ ∧ _ ∧ _ ∧ _)
    have K1 := hid (⟨x34.cell 0, x34.cell 1, x34.cell 2, x34.cell 3, px37.cell 0, px37.cell 1, px37.cell 2, px37.cell 3⟩ : (fun w' => w'.cell? ⟨w.heap.size, 0, none⟩ = some (.int .i64 p.mx) ∧ w'.cell? ⟨w.heap.size, 1, none⟩ = some (.slice A1 p.idle.length c1) ∧ w'.cell? ⟨w.heap.size, 2, none⟩ = some (.slice A2 p.held.length c2) ∧ w'.cell? ⟨w.heap.size, 3, none⟩ = some (.slice A3 p.wait.length c3) ∧ w'.cell? ⟨w4.heap.size, 0, none⟩ = some (.int .i64 p.mx) ∧ w'.cell? ⟨w4.heap.size, 1, none⟩ = some (.slice By1 p.idle.length dy1) ∧ w'.cell? ⟨w4.heap.size, 2, none⟩ = some (.slice By2 p.held.length dy2) ∧ w'.cell? ⟨w4.heap.size, 3, none⟩ = some (.slice By3 p.wait.length dy3)) w6)
    have hB_d := hB33.drew
    have x_d := x34.drew
    have w_d : World.ownsRow w6.drew _ _ _ _ _ _ := own_below w35 ((Below.refl _ _).drew)
    have y_d := y36.drew
    have px_d := px37.drew
    have gg_d : World.ownsRow w6.drew _ _ _ _ _ _ := own_below gg38 ((Below.refl _ _).drew)
    have K2 := hid (⟨x_d.cell 0, x_d.cell 1, x_d.cell 2, x_d.cell 3, px_d.cell 0, px_d.cell 1, px_d.cell 2, px_d.cell 3⟩ : (fun w' => w'.cell? ⟨w.heap.size, 0, none⟩ = some (.int .i64 p.mx) ∧ w'.cell? ⟨w.heap.size, 1, none⟩ = some (.slice A1 p.idle.length c1) ∧ w'.cell? ⟨w.heap.size, 2, none⟩ = some (.slice A2 p.held.length c2) ∧ w'.cell? ⟨w.heap.size, 3, none⟩ = some (.slice A3 p.wait.length c3) ∧ w'.cell? ⟨w4.heap.size, 0, none⟩ = some (.int .i64 p.mx) ∧ w'.cell? ⟨w4.heap.size, 1, none⟩ = some (.slice By1 p.idle.length dy1) ∧ w'.cell? ⟨w4.heap.size, 2, none⟩ = some (.slice By2 p.held.length dy2) ∧ w'.cell? ⟨w4.heap.size, 3, none⟩ = some (.slice By3 p.wait.length dy3)) w6.drew)
    go_wp2_with fail
    go_region_held3 (fun w' => w'.cell? ⟨w.heap.size, 0, none⟩ = some (.int .i64 p.mx) ∧ w'.cell? ⟨w.heap.size, 1, none⟩ = some (.slice A1 p.idle.length c1) ∧ w'.cell? ⟨w.heap.size, 2, none⟩ = some (.slice A2 p.held.length c2) ∧ w'.cell? ⟨w.heap.size, 3, none⟩ = some (.slice A3 p.wait.length c3) ∧ w'.cell? ⟨w4.heap.size, 0, none⟩ = some (.int .i64 p.mx) ∧ w'.cell? ⟨w4.heap.size, 1, none⟩ = some (.slice By1 p.idle.length dy1) ∧ w'.cell? ⟨w4.heap.size, 2, none⟩ = some (.slice By2 p.held.length dy2) ∧ w'.cell? ⟨w4.heap.size, 3, none⟩ = some (.slice By3 p.wait.length dy3))
      (first | with_reducible exact K1.out | with_reducible exact K2.out | with_reducible exact K3.out | with_reducible exact K4.out | go_keep)
      (first
        | (go_at_call 10; (with_reducible refine (toPool_any p A1 A2 A3 c1 c2 c3 _ (h.on hB_d) N1.out N2.out N3.out).mono ?_); rintro e wa ⟨Bz1, Bz2, Bz3, dz1, dz2, dz3, rfl, hoz, hba⟩; have hB_a := hB_d.trans (hba.mono hB_d.size); have x_a := x_d.below hba x_d.lt; have w_a := own_below w_d hba; have y_a := y_d.below hba; have px_a := px_d.below hba px_d.lt; have gg_a := own_below gg_d hba; have K3 := hid (⟨x_a.cell 0, x_a.cell 1, x_a.cell 2, x_a.cell 3, px_a.cell 0, px_a.cell 1, px_a.cell 2, px_a.cell 3⟩ : (fun w' => w'.cell? ⟨w.heap.size, 0, none⟩ = some (.int .i64 p.mx) ∧ w'.cell? ⟨w.heap.size, 1, none⟩ = some (.slice A1 p.idle.length c1) ∧ w'.cell? ⟨w.heap.size, 2, none⟩ = some (.slice A2 p.held.length c2) ∧ w'.cell? ⟨w.heap.size, 3, none⟩ = some (.slice A3 p.wait.length c3) ∧ w'.cell? ⟨w4.heap.size, 0, none⟩ = some (.int .i64 p.mx) ∧ w'.cell? ⟨w4.heap.size, 1, none⟩ = some (.slice By1 p.idle.length dy1) ∧ w'.cell? ⟨w4.heap.size, 2, none⟩ = some (.slice By2 p.held.length dy2) ∧ w'.cell? ⟨w4.heap.size, 3, none⟩ = some (.slice By3 p.wait.length dy3)) wa))
        | (go_at_call 12; (with_reducible refine (eqPool_same By1 By2 By3 Bz1 Bz2 Bz3 dy1 dy2 dy3 dz1 dz2 dz3 p _ y_a.sees hoz.sees N1.out N2.out N3.out).mono ?_); rintro e wb ⟨rfl, hbb⟩; have hB_b := hB_a.trans (hbb.mono hB_a.size); have x_b := x_a.below hbb x_a.lt; have w_b := own_below w_a hbb; have y_b := y_a.below hbb; have px_b := px_a.below hbb px_a.lt; have gg_b := own_below gg_a hbb; have K4 := hid (⟨x_b.cell 0, x_b.cell 1, x_b.cell 2, x_b.cell 3, px_b.cell 0, px_b.cell 1, px_b.cell 2, px_b.cell 3⟩ : (fun w' => w'.cell? ⟨w.heap.size, 0, none⟩ = some (.int .i64 p.mx) ∧ w'.cell? ⟨w.heap.size, 1, none⟩ = some (.slice A1 p.idle.length c1) ∧ w'.cell? ⟨w.heap.size, 2, none⟩ = some (.slice A2 p.held.length c2) ∧ w'.cell? ⟨w.heap.size, 3, none⟩ = some (.slice A3 p.wait.length c3) ∧ w'.cell? ⟨w4.heap.size, 0, none⟩ = some (.int .i64 p.mx) ∧ w'.cell? ⟨w4.heap.size, 1, none⟩ = some (.slice By1 p.idle.length dy1) ∧ w'.cell? ⟨w4.heap.size, 2, none⟩ = some (.slice By2 p.held.length dy2) ∧ w'.cell? ⟨w4.heap.size, 3, none⟩ = some (.slice By3 p.wait.length dy3)) wb))
        | fail)
    have hB39 := hB_b
    clear hB33
    have x40 := x_b
    clear x34
    have w41 := w_b
    clear w35
    have y42 := y_b
    clear y36
    have px43 := px_b
    clear px37
    have gg44 := gg_b
    clear gg38
    clear K1 K2 K3 K4 hB_d hB_a hB_b x_d x_a x_b w_d w_a w_b y_d y_a y_b px_d px_a px_b gg_d gg_a gg_b hba hbb hoz
    clear p0 p1 p2 p3 pl pf r0 r1 r2 r3 rl rf
    obtain ⟨p0, p1, p2, p3, pl, pf⟩ := (⟨x40.cell 0, x40.cell 1, x40.cell 2, x40.cell 3, x40.lt, x40.frozen⟩ : _ ∧ _ ∧ _ ∧ _ ∧ _ ∧ _)
    obtain ⟨r0, r1, r2, r3, rl, rf⟩ := (⟨px43.cell 0, px43.cell 1, px43.cell 2, px43.cell 3, px43.lt, px43.frozen⟩ : _ ∧ _ ∧ _ ∧ _ ∧ _ ∧ _)
    go_wp2_with fail
    with_reducible refine (markPool_any _ By1 By2 By3 dy1 dy2 dy3 p _ y42 N1.out N2.out N3.out (hi := w4.heap.size) (fun q hq => (by1 q hq).2) (fun q hq => (by2 q hq).2) (fun q hq => (by3 q hq).2)).mono ?_
    rintro e w8 ⟨he, _, hm8, hmo⟩
    rw [HCP.out] at he
    subst he
    have hB45 := below_mid hB39 hm8 (by omega) hB39.size
    clear hB39
    have x46 := x40.mid hm8 (by omega)
    clear x40
    have w47 := row_mid w41 hm8 (fun q hq => by have := bw1 q hq; omega)
    clear w41
    have y48 := hmo
    clear y42
    have px49 := px43.mid hm8 (by omega)
    clear px43
    have gg50 := row_mid gg44 hm8 (fun q hq => by have := bgg1 q hq; omega)
    clear gg44
    have sz8 := hm8.size
    clear hmo hm8
    clear p0 p1 p2 p3 pl pf r0 r1 r2 r3 rl rf
    clear y48
    obtain ⟨p0, p1, p2, p3, pl, pf⟩ := (⟨x46.cell 0, x46.cell 1, x46.cell 2, x46.cell 3, x46.lt, x46.frozen⟩ : _ ∧ _ ∧ _ ∧ _ ∧ _ ∧ _)
    obtain ⟨r0, r1, r2, r3, rl, rf⟩ := (⟨px49.cell 0, px49.cell 1, px49.cell 2, px49.cell 3, px49.lt, px49.frozen⟩ : _ ∧ _ ∧ _ ∧ _ ∧ _ ∧ _)
    go_wp2_with fail
    with_reducible refine (eqIntS_any Bgg1 Bw1 dgg1 dw1 X X _ (Sees.of_own gg50) (Sees.of_own w47) (Nat.le_trans R1.out (by decide))).mono ?_
    rintro e w9 ⟨he, hb9⟩
    rw [EX.out] at he
    subst he
    have sz9 : w8.heap.size ≤ w9.heap.size := Nat.le_trans (by first | exact Nat.le_refl _ | (simp; done) | (simp; omega)) (hb9.size)
    have hB51 := hB45.trans (hb9.mono hB45.size)
    have x52 := x46.below hb9 x46.lt
    have w53 := own_below w47 hb9
    have px54 := px49.below hb9 px49.lt
    have gg55 := own_below gg50 hb9
    clear hB45 x46 w47 px49 gg50
    clear p0 p1 p2 p3 pl pf r0 r1 r2 r3 rl rf
    obtain ⟨p0, p1, p2, p3, pl, pf⟩ := (⟨x52.cell 0, x52.cell 1, x52.cell 2, x52.cell 3, x52.lt, x52.frozen⟩ : _ ∧ _ ∧ _ ∧ _ ∧ _ ∧ _)
    obtain ⟨r0, r1, r2, r3, rl, rf⟩ := (⟨px54.cell 0, px54.cell 1, px54.cell 2, px54.cell 3, px54.lt, px54.frozen⟩ : _ ∧ _ ∧ _ ∧ _ ∧ _ ∧ _)
    go_wp2_with fail
    refine (markIntS_g 1 _ Bgg1 dgg1 X _ (own_of gg55) R1.out (by decide)).mono ?_
    rintro e w10 ⟨he, hmo, hgr⟩
    subst he
    have hm10 := Mid.grown hgr bgg1
    clear hgr
    replace hmo := hmo.out
    rw [marksG_len] at hmo
    have hB56 := below_mid hB51 hm10 (by omega) hB51.size
    clear hB51
    have x57 := x52.mid hm10 (by omega)
    clear x52
    have w58 := row_mid w53 hm10 (fun q hq => by have := bw1 q hq; omega)
    clear w53
    have px59 := px54.mid hm10 (by omega)
    clear px54
    have gg60 := hmo
    clear gg55
    have sz10 := hm10.size
    clear hmo hm10
    clear p0 p1 p2 p3 pl pf r0 r1 r2 r3 rl rf
    obtain ⟨p0, p1, p2, p3, pl, pf⟩ := (⟨x57.cell 0, x57.cell 1, x57.cell 2, x57.cell 3, x57.lt, x57.frozen⟩ : _ ∧ _ ∧ _ ∧ _ ∧ _ ∧ _)
    obtain ⟨r0, r1, r2, r3, rl, rf⟩ := (⟨px59.cell 0, px59.cell 1, px59.cell 2, px59.cell 3, px59.lt, px59.frozen⟩ : _ ∧ _ ∧ _ ∧ _ ∧ _ ∧ _)
    go_wp2_with fail
    refine (heldIntS_g 1 Bgg1 X.length dgg1 _ (Sees.of_own gg60) R1.out (by decide)).mono ?_
    rintro e w' ⟨he, rfl⟩
    subst he
    clear p0 p1 p2 p3 pl pf r0 r1 r2 r3 rl rf
    obtain ⟨p0, p1, p2, p3, pl, pf⟩ := (⟨x57.cell 0, x57.cell 1, x57.cell 2, x57.cell 3, x57.lt, x57.frozen⟩ : _ ∧ _ ∧ _ ∧ _ ∧ _ ∧ _)
    obtain ⟨r0, r1, r2, r3, rl, rf⟩ := (⟨px59.cell 0, px59.cell 1, px59.cell 2, px59.cell 3, px59.lt, px59.frozen⟩ : _ ∧ _ ∧ _ ∧ _ ∧ _ ∧ _)
    go_wp2_with fail
    with_reducible refine (toPool_any p A1 A2 A3 c1 c2 c3 _ (h.on hB56) N1.out N2.out N3.out).mono ?_
    rintro e w11 ⟨Bc1, Bc2, Bc3, dc1, dc2, dc3, rfl, hoc, hb11⟩
    have sz11 : w10.heap.size ≤ w11.heap.size := Nat.le_trans (by first | exact Nat.le_refl _ | (simp; done) | (simp; omega)) (hb11.size)
    have hB61 := hB56.trans (hb11.mono hB56.size)
    have x62 := x57.below hb11 x57.lt
    have w63 := own_below w58 hb11
    have px64 := px59.below hb11 px59.lt
    have gg65 := own_below gg60 hb11
    clear hB56 x57 w58 px59 gg60
    clear p0 p1 p2 p3 pl pf r0 r1 r2 r3 rl rf
    have c66 := hoc.mono (show w10.heap.size ≤ _ by first | exact Nat.le_refl _ | (simp; done))
    clear hoc
    have cap := c66.lens
    obtain ⟨p0, p1, p2, p3, pl, pf⟩ := (⟨x62.cell 0, x62.cell 1, x62.cell 2, x62.cell 3, x62.lt, x62.frozen⟩ : _ ∧ _ ∧ _ ∧ _ ∧ _ ∧ _)
    obtain ⟨r0, r1, r2, r3, rl, rf⟩ := (⟨px64.cell 0, px64.cell 1, px64.cell 2, px64.cell 3, px64.lt, px64.frozen⟩ : _ ∧ _ ∧ _ ∧ _ ∧ _ ∧ _)
    go_wp2_with fail
    with_reducible refine (iHeldBy_any p Bc1 Bc2 Bc3 dc1 dc2 dc3 o _ c66.sees L1.out L2.out L3.out).mono ?_
    rintro e w12 ⟨vhh, rfl, hohh, hb12⟩
    rw [HX.out] at hohh
    obtain ⟨Bhh1, dhh1, rfl, _⟩ := hohh.form
    have sz12 : w11.heap.size ≤ w12.heap.size := Nat.le_trans (by first | exact Nat.le_refl _ | (simp; done) | (simp; omega)) (hb12.size)
    have hB67 := hB61.trans (hb12.mono hB61.size)
    have x68 := x62.below hb12 x62.lt
    have w69 := own_below w63 hb12
    have px70 := px64.below hb12 px64.lt
    have gg71 := own_below gg65 hb12
    have c72 := c66.below hb12
    clear hB61 x62 w63 px64 gg65 c66
    clear p0 p1 p2 p3 pl pf r0 r1 r2 r3 rl rf
    have hh73 := own_mono hohh.out (show w11.heap.size ≤ _ by first | exact Nat.le_refl _ | (simp; done))
    clear cap hohh
    clear c72
    obtain ⟨p0, p1, p2, p3, pl, pf⟩ := (⟨x68.cell 0, x68.cell 1, x68.cell 2, x68.cell 3, x68.lt, x68.frozen⟩ : _ ∧ _ ∧ _ ∧ _ ∧ _ ∧ _)
    obtain ⟨r0, r1, r2, r3, rl, rf⟩ := (⟨px70.cell 0, px70.cell 1, px70.cell 2, px70.cell 3, px70.lt, px70.frozen⟩ : _ ∧ _ ∧ _ ∧ _ ∧ _ ∧ _)
    go_wp2_with fail
    with_reducible refine (eqIntS_any Bhh1 Bw1 dhh1 dw1 X X _ (Sees.of_own hh73) (Sees.of_own w69) (Nat.le_trans R1.out (by decide))).mono ?_
    rintro e w13 ⟨he, hb13⟩
    rw [EX.out] at he
    subst he
    have sz13 : w12.heap.size ≤ w13.heap.size := Nat.le_trans (by first | exact Nat.le_refl _ | (simp; done) | (simp; omega)) (hb13.size)
    have hB74 := hB67.trans (hb13.mono hB67.size)
    have x75 := x68.below hb13 x68.lt
    have w76 := own_below w69 hb13
    have px77 := px70.below hb13 px70.lt
    have gg78 := own_below gg71 hb13
    have hh79 := own_below hh73 hb13
    clear hB67 x68 w69 px70 gg71 hh73
    clear p0 p1 p2 p3 pl pf r0 r1 r2 r3 rl rf
    obtain ⟨p0, p1, p2, p3, pl, pf⟩ := (⟨x75.cell 0, x75.cell 1, x75.cell 2, x75.cell 3, x75.lt, x75.frozen⟩ : _ ∧ _ ∧ _ ∧ _ ∧ _ ∧ _)
    obtain ⟨r0, r1, r2, r3, rl, rf⟩ := (⟨px77.cell 0, px77.cell 1, px77.cell 2, px77.cell 3, px77.lt, px77.frozen⟩ : _ ∧ _ ∧ _ ∧ _ ∧ _ ∧ _)
    go_wp2_with fail
    refine (heldIntS_g 1 Bgg1 X.length dgg1 _ (Sees.of_own gg78) R1.out (by decide)).mono ?_
    rintro e w' ⟨he, rfl⟩
    subst he
    clear p0 p1 p2 p3 pl pf r0 r1 r2 r3 rl rf
    obtain ⟨p0, p1, p2, p3, pl, pf⟩ := (⟨x75.cell 0, x75.cell 1, x75.cell 2, x75.cell 3, x75.lt, x75.frozen⟩ : _ ∧ _ ∧ _ ∧ _ ∧ _ ∧ _)
    obtain ⟨r0, r1, r2, r3, rl, rf⟩ := (⟨px77.cell 0, px77.cell 1, px77.cell 2, px77.cell 3, px77.lt, px77.frozen⟩ : _ ∧ _ ∧ _ ∧ _ ∧ _ ∧ _)
    go_wp2
    go_ret
    exact ⟨rfl, hB74⟩
end Go.Proofs.Ytaddndlpgabkfaa

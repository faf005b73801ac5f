/-
  The walk of the exact law FnExactReleaseConn: at every argument it returns true and changes nothing that was there. Conditions: none.
-/
import Derived.Test.YtaddndlpgabkfaaPlU
import Derived.Test.YtaddndlpgabkfaaPlT
import Derived.Test.YtaddndlpgabkfaaPlJ
import Derived.Test.YtaddndlpgabkfaaPoolLawMath
import Derived.Deep.RegionHeld3
namespace Go.Proofs.Ytaddndlpgabkfaa
open Go.RowKit Pol

set_option maxHeartbeats 16000000 in
theorem walkExactReleaseConn (A1 A2 A3 : Option Addr) (c1 c2 c3 : Nat) (p : Pl) (o : Int) (w : World) (hm1 : p.idle.length ≤ maxLen) (hm2 : p.held.length ≤ maxLen) (hm3 : p.wait.length ≤ maxLen) (h : SeesP w w.heap.size A1 A2 A3 p) :
    Calls Try.prog 5 #[.agg #[.int .i64 p.mx, .slice A1 p.idle.length c1, .slice A2 p.held.length c2, .slice A3 p.wait.length c3], .int .i64 o] w fun e w' => e = .returned (.bool true) ∧ Below w.heap.size w w' := by
  have M1 := hid hm1
  have M2 := hid hm2
  have M3 := hid hm3
  clear hm1 hm2 hm3
  by_cases hbig : 1048576 < p.idle.length + p.held.length + p.wait.length
  · skip
    have E0 : Hid ((if 1048576 < p.idle.length + p.held.length + p.wait.length then (-1 : Int) else 1048576 - ((p.idle.length + p.held.length + p.wait.length : Nat) : Int)) = -1) := hid (if_pos hbig)
    clear hbig
    have hB1 := Below.refl w.heap.size w
    have hB2 := hB1.alloc hB1.size (.cells #[.int .i64 p.mx, .slice A1 p.idle.length c1, .slice A2 p.held.length c2, .slice A3 p.wait.length c3] 25)
    clear hB1
    have x3 : At (w.alloc (.cells #[.int .i64 p.mx, .slice A1 p.idle.length c1, .slice A2 p.held.length c2, .slice A3 p.wait.length c3] 25)) (w.heap.size) 25 #[.int .i64 p.mx, .slice A1 p.idle.length c1, .slice A2 p.held.length c2, .slice A3 p.wait.length c3] := At.newAt _ _ (by first | rfl | (simp; done) | (simp; omega))
    go_enter Try.func5, Try.ntmps5
    obtain ⟨p0, p1, p2, p3, pl, pf⟩ := (⟨x3.cell 0, x3.cell 1, x3.cell 2, x3.cell 3, x3.lt, x3.frozen⟩ : _ ∧ _ ∧ _ ∧ _ ∧ _ ∧ _)
    go_wp2_with fail
    with_reducible refine (szPool_any A1 A2 A3 p.idle.length p.held.length p.wait.length c1 c2 c3 p.mx _ M1.out M2.out M3.out).mono ?_
    rintro e w1 ⟨he, hb1⟩
    rw [E0.out] at he
    subst he
    have sz1 : w.heap.size + 1 ≤ w1.heap.size := Nat.le_trans (by first | exact Nat.le_refl _ | (simp; done) | (simp; omega)) (hb1.size)
    have hB4 := hB2.trans (hb1.mono hB2.size)
    have x5 := x3.below hb1 x3.lt
    clear hB2 x3
    clear p0 p1 p2 p3 pl pf
    obtain ⟨p0, p1, p2, p3, pl, pf⟩ := (⟨x5.cell 0, x5.cell 1, x5.cell 2, x5.cell 3, x5.lt, x5.frozen⟩ : _ ∧ _ ∧ _ ∧ _ ∧ _ ∧ _)
    go_wp2
    go_ret
    exact ⟨rfl, hB4⟩
  · skip
    have L1 := hid (show p.idle.length ≤ 2097152 by omega)
    have L2 := hid (show p.held.length ≤ 2097152 by omega)
    have L3 := hid (show p.wait.length ≤ 2097152 by omega)
    have N1 := hid (show p.idle.length ≤ 4194304 by omega)
    have N2 := hid (show p.held.length ≤ 4194304 by omega)
    have N3 := hid (show p.wait.length ≤ 4194304 by omega)
    obtain ⟨V, hV⟩ : ∃ V : Int, V = 1048576 - ((p.idle.length + p.held.length + p.wait.length : Nat) : Int) := ⟨_, rfl⟩
    have E0 : Hid ((if 1048576 < p.idle.length + p.held.length + p.wait.length then (-1 : Int) else 1048576 - ((p.idle.length + p.held.length + p.wait.length : Nat) : Int)) = V) := hid (by rw [if_neg hbig, hV])
    have hle : ¬ V < 0 := by omega
    clear hV hbig
    obtain ⟨r1, r2, r3⟩ := (⟨Nat.le_trans (relR_small p o).1 (by decide), Nat.le_trans (relR_small p o).2.1 (by decide), Nat.le_trans (relR_small p o).2.2 (by decide)⟩ : (relR p o).idle.length ≤ 4194304 ∧ (relR p o).held.length ≤ 4194304 ∧ (relR p o).wait.length ≤ 4194304)
    obtain ⟨R, hR⟩ : ∃ R, R = relR p o := ⟨_, rfl⟩
    have HR : Hid (relR p o = R) := hid hR.symm
    obtain ⟨N, hN⟩ : ∃ N, N = relN p o := ⟨_, rfl⟩
    have HN : Hid (relN p o = N) := hid hN.symm
    obtain ⟨K, hK⟩ : ∃ K, K = relB p o := ⟨_, rfl⟩
    have HK : Hid (relB p o = K) := hid hK.symm
    rw [← hR] at r1 r2 r3
    have R1 := hid r1
    have R2 := hid r2
    have R3 := hid r3
    clear r1 r2 r3
    clear hR
    clear hN
    clear hK
    obtain ⟨CP, hCP⟩ : ∃ CP : Int, CP = p.count := ⟨_, rfl⟩
    have HCP : Hid (p.count = CP) := hid hCP.symm
    have nCP : ¬ CP < 0 := by rw [hCP]; unfold Pl.count; omega
    clear hCP
    obtain ⟨CR, hCR⟩ : ∃ CR : Int, CR = R.count := ⟨_, rfl⟩
    have HCR : Hid (R.count = CR) := hid hCR.symm
    have nCR : ¬ CR < 0 := by rw [hCR]; unfold Pl.count; omega
    clear hCR
    have hB6 := Below.refl w.heap.size w
    have hB7 := hB6.alloc hB6.size (.cells #[.int .i64 p.mx, .slice A1 p.idle.length c1, .slice A2 p.held.length c2, .slice A3 p.wait.length c3] 25)
    clear hB6
    have x8 : At (w.alloc (.cells #[.int .i64 p.mx, .slice A1 p.idle.length c1, .slice A2 p.held.length c2, .slice A3 p.wait.length c3] 25)) (w.heap.size) 25 #[.int .i64 p.mx, .slice A1 p.idle.length c1, .slice A2 p.held.length c2, .slice A3 p.wait.length c3] := At.newAt _ _ (by first | rfl | (simp; done) | (simp; omega))
    go_enter Try.func5, Try.ntmps5
    obtain ⟨p0, p1, p2, p3, pl, pf⟩ := (⟨x8.cell 0, x8.cell 1, x8.cell 2, x8.cell 3, x8.lt, x8.frozen⟩ : _ ∧ _ ∧ _ ∧ _ ∧ _ ∧ _)
    go_wp2_with fail
    with_reducible refine (szPool_any A1 A2 A3 p.idle.length p.held.length p.wait.length c1 c2 c3 p.mx _ M1.out M2.out M3.out).mono ?_
    rintro e w1 ⟨he, hb1⟩
    rw [E0.out] at he
    subst he
    have sz1 : w.heap.size + 1 ≤ w1.heap.size := Nat.le_trans (by first | exact Nat.le_refl _ | (simp; done) | (simp; omega)) (hb1.size)
    have hB9 := hB7.trans (hb1.mono hB7.size)
    have x10 := x8.below hb1 x8.lt
    clear hB7 x8
    clear p0 p1 p2 p3 pl pf
    obtain ⟨p0, p1, p2, p3, pl, pf⟩ := (⟨x10.cell 0, x10.cell 1, x10.cell 2, x10.cell 3, x10.lt, x10.frozen⟩ : _ ∧ _ ∧ _ ∧ _ ∧ _ ∧ _)
    go_wp2_with fail
    with_reducible refine (toPool_any p A1 A2 A3 c1 c2 c3 _ (h.on hB9) N1.out N2.out N3.out).mono ?_
    rintro e w2 ⟨Ba1, Ba2, Ba3, da1, da2, da3, rfl, hoa, hb2⟩
    have sz2 : w1.heap.size ≤ w2.heap.size := Nat.le_trans (by first | exact Nat.le_refl _ | (simp; done) | (simp; omega)) (hb2.size)
    have hB11 := hB9.trans (hb2.mono hB9.size)
    have x12 := x10.below hb2 x10.lt
    clear hB9 x10
    clear p0 p1 p2 p3 pl pf
    have a13 := hoa.mono (show w1.heap.size ≤ _ by first | exact Nat.le_refl _ | (simp; done))
    clear hoa
    have cap := a13.lens
    obtain ⟨p0, p1, p2, p3, pl, pf⟩ := (⟨x12.cell 0, x12.cell 1, x12.cell 2, x12.cell 3, x12.lt, x12.frozen⟩ : _ ∧ _ ∧ _ ∧ _ ∧ _ ∧ _)
    go_wp2_with fail
    with_reducible refine (sReleaseConn_any p Ba1 Ba2 Ba3 da1 da2 da3 o _ a13.sees cap.2.2 cap.2.1 L1.out L2.out L3.out).mono ?_
    rintro e w3 ⟨Bw1, Bw2, Bw3, dw1, dw2, dw3, he, how, hb3⟩
    rw [HR.out, HN.out, HK.out] at he
    rw [HR.out] at how
    subst he
    have sz3 : w2.heap.size ≤ w3.heap.size := Nat.le_trans (by first | exact Nat.le_refl _ | (simp; done) | (simp; omega)) (hb3.size)
    have hB14 := hB11.trans (hb3.mono hB11.size)
    have x15 := x12.below hb3 x12.lt
    have a16 := a13.below hb3
    clear hB11 x12 a13
    clear p0 p1 p2 p3 pl pf
    have w17 := how.mono (show w2.heap.size ≤ _ by first | exact Nat.le_refl _ | (simp; done))
    clear cap how
    clear a16
    have bw1 := w17.lt1
    have bw2 := w17.lt2
    have bw3 := w17.lt3
    obtain ⟨p0, p1, p2, p3, pl, pf⟩ := (⟨x15.cell 0, x15.cell 1, x15.cell 2, x15.cell 3, x15.lt, x15.frozen⟩ : _ ∧ _ ∧ _ ∧ _ ∧ _ ∧ _)
    have hB18 := hB14.alloc hB14.size (.cells #[.int .i64 R.mx, .slice Bw1 R.idle.length dw1, .slice Bw2 R.held.length dw2, .slice Bw3 R.wait.length dw3] 30)
    have x19 := x15.alloc (.cells #[.int .i64 R.mx, .slice Bw1 R.idle.length dw1, .slice Bw2 R.held.length dw2, .slice Bw3 R.wait.length dw3] 30)
    have w20 := w17.alloc (.cells #[.int .i64 R.mx, .slice Bw1 R.idle.length dw1, .slice Bw2 R.held.length dw2, .slice Bw3 R.wait.length dw3] 30)
    clear hB14 x15 w17
    have pw21 : At (w3.alloc (.cells #[.int .i64 R.mx, .slice Bw1 R.idle.length dw1, .slice Bw2 R.held.length dw2, .slice Bw3 R.wait.length dw3] 30)) (w3.heap.size) 30 #[.int .i64 R.mx, .slice Bw1 R.idle.length dw1, .slice Bw2 R.held.length dw2, .slice Bw3 R.wait.length dw3] := At.newAt _ _ (by first | rfl | (simp; done) | (simp; omega))
    go_wp2_with fail
    with_reducible refine (toPool_any p A1 A2 A3 c1 c2 c3 _ (h.on hB18) N1.out N2.out N3.out).mono ?_
    rintro e w4 ⟨By1, By2, By3, dy1, dy2, dy3, rfl, hoy, hb4⟩
    have sz4 : w3.heap.size + 1 ≤ w4.heap.size := Nat.le_trans (by first | exact Nat.le_refl _ | (simp; done) | (simp; omega)) (hb4.size)
    have hB22 := hB18.trans (hb4.mono hB18.size)
    have x23 := x19.below hb4 x19.lt
    have w24 := w20.below hb4
    have pw25 := pw21.below hb4 pw21.lt
    clear hB18 x19 w20 pw21
    clear p0 p1 p2 p3 pl pf
    have y26 := hoy.mono (show w3.heap.size + 1 ≤ _ by first | exact Nat.le_refl _ | (simp; done))
    clear hoy
    have by1 := y26.lt1
    have by2 := y26.lt2
    have by3 := y26.lt3
    obtain ⟨p0, p1, p2, p3, pl, pf⟩ := (⟨x23.cell 0, x23.cell 1, x23.cell 2, x23.cell 3, x23.lt, x23.frozen⟩ : _ ∧ _ ∧ _ ∧ _ ∧ _ ∧ _)
    obtain ⟨q0, q1, q2, q3, ql, qf⟩ := (⟨pw25.cell 0, pw25.cell 1, pw25.cell 2, pw25.cell 3, pw25.lt, pw25.frozen⟩ : _ ∧ _ ∧ _ ∧ _ ∧ _ ∧ _)
    have hB27 := hB22.alloc hB22.size (.cells #[.int .i64 p.mx, .slice By1 p.idle.length dy1, .slice By2 p.held.length dy2, .slice By3 p.wait.length dy3] 30)
    have x28 := x23.alloc (.cells #[.int .i64 p.mx, .slice By1 p.idle.length dy1, .slice By2 p.held.length dy2, .slice By3 p.wait.length dy3] 30)
    have w29 := w24.alloc (.cells #[.int .i64 p.mx, .slice By1 p.idle.length dy1, .slice By2 p.held.length dy2, .slice By3 p.wait.length dy3] 30)
    have pw30 := pw25.alloc (.cells #[.int .i64 p.mx, .slice By1 p.idle.length dy1, .slice By2 p.held.length dy2, .slice By3 p.wait.length dy3] 30)
    have y31 := y26.alloc (.cells #[.int .i64 p.mx, .slice By1 p.idle.length dy1, .slice By2 p.held.length dy2, .slice By3 p.wait.length dy3] 30)
    clear hB22 x23 w24 pw25 y26
    have px32 : At (w4.alloc (.cells #[.int .i64 p.mx, .slice By1 p.idle.length dy1, .slice By2 p.held.length dy2, .slice By3 p.wait.length dy3] 30)) (w4.heap.size) 30 #[.int .i64 p.mx, .slice By1 p.idle.length dy1, .slice By2 p.held.length dy2, .slice By3 p.wait.length dy3] := At.newAt _ _ (by first | rfl | (simp; done) | (simp; omega))
    have cap := y31.lens
    go_wp2_with fail
    with_reducible refine (iReleaseConn_any p By1 By2 By3 dy1 dy2 dy3 o _ y31.sees cap.2.2 L1.out L2.out L3.out).mono ?_
    rintro e w5 ⟨Bgg1, Bgg2, Bgg3, dgg1, dgg2, dgg3, he, hogg, hb5⟩
    rw [HR.out, HN.out, HK.out] at he
    rw [HR.out] at hogg
    subst he
    have sz5 : w4.heap.size + 1 ≤ w5.heap.size := Nat.le_trans (by first | exact Nat.le_refl _ | (simp; done) | (simp; omega)) (hb5.size)
    have hB33 := hB27.trans (hb5.mono hB27.size)
    have x34 := x28.below hb5 x28.lt
    have w35 := w29.below hb5
    have pw36 := pw30.below hb5 pw30.lt
    have y37 := y31.below hb5
    have px38 := px32.below hb5 px32.lt
    clear hB27 x28 w29 pw30 y31 px32
    clear p0 p1 p2 p3 pl pf q0 q1 q2 q3 ql qf
    have gg39 := hogg.mono (show w4.heap.size + 1 ≤ _ by first | exact Nat.le_refl _ | (simp; done))
    clear cap hogg
    have bgg1 := gg39.lt1
    have bgg2 := gg39.lt2
    have bgg3 := gg39.lt3
    obtain ⟨p0, p1, p2, p3, pl, pf⟩ := (⟨x34.cell 0, x34.cell 1, x34.cell 2, x34.cell 3, x34.lt, x34.frozen⟩ : _ ∧ _ ∧ _ ∧ _ ∧ _ ∧ _)
    obtain ⟨q0, q1, q2, q3, ql, qf⟩ := (⟨pw36.cell 0, pw36.cell 1, pw36.cell 2, pw36.cell 3, pw36.lt, pw36.frozen⟩ : _ ∧ _ ∧ _ ∧ _ ∧ _ ∧ _)
    obtain ⟨r0, r1, r2, r3, rl, rf⟩ := (⟨px38.cell 0, px38.cell 1, px38.cell 2, px38.cell 3, px38.lt, px38.frozen⟩ : _ ∧ _ ∧ _ ∧ _ ∧ _ ∧ _)
    have hB40 := hB33.alloc hB33.size (.cells #[.int .i64 R.mx, .slice Bgg1 R.idle.length dgg1, .slice Bgg2 R.held.length dgg2, .slice Bgg3 R.wait.length dgg3] 30)
    have x41 := x34.alloc (.cells #[.int .i64 R.mx, .slice Bgg1 R.idle.length dgg1, .slice Bgg2 R.held.length dgg2, .slice Bgg3 R.wait.length dgg3] 30)
    have w42 := w35.alloc (.cells #[.int .i64 R.mx, .slice Bgg1 R.idle.length dgg1, .slice Bgg2 R.held.length dgg2, .slice Bgg3 R.wait.length dgg3] 30)
    have pw43 := pw36.alloc (.cells #[.int .i64 R.mx, .slice Bgg1 R.idle.length dgg1, .slice Bgg2 R.held.length dgg2, .slice Bgg3 R.wait.length dgg3] 30)
    have y44 := y37.alloc (.cells #[.int .i64 R.mx, .slice Bgg1 R.idle.length dgg1, .slice Bgg2 R.held.length dgg2, .slice Bgg3 R.wait.length dgg3] 30)
    have px45 := px38.alloc (.cells #[.int .i64 R.mx, .slice Bgg1 R.idle.length dgg1, .slice Bgg2 R.held.length dgg2, .slice Bgg3 R.wait.length dgg3] 30)
    have gg46 := gg39.alloc (.cells #[.int .i64 R.mx, .slice Bgg1 R.idle.length dgg1, .slice Bgg2 R.held.length dgg2, .slice Bgg3 R.wait.length dgg3] 30)
    clear hB33 x34 w35 pw36 y37 px38 gg39
    have pg47 : At (w5.alloc (.cells #[.int .i64 R.mx, .slice Bgg1 R.idle.length dgg1, .slice Bgg2 R.held.length dgg2, .slice Bgg3 R.wait.length dgg3] 30)) (w5.heap.size) 30 #[.int .i64 R.mx, .slice Bgg1 R.idle.length dgg1, .slice Bgg2 R.held.length dgg2, .slice Bgg3 R.wait.length dgg3] := At.newAt _ _ (by first | rfl | (simp; done) | (simp; omega))
    go_wp2_with fail
    with_reducible refine (eqPool_same Bgg1 Bgg2 Bgg3 Bw1 Bw2 Bw3 dgg1 dgg2 dgg3 dw1 dw2 dw3 R _ gg46.sees w42.sees R1.out R2.out R3.out).mono ?_
    rintro e w6 ⟨rfl, hb6⟩
    have sz6 : w5.heap.size + 1 ≤ w6.heap.size := Nat.le_trans (by first | exact Nat.le_refl _ | (simp; done) | (simp; omega)) (hb6.size)
    have hB48 := hB40.trans (hb6.mono hB40.size)
    have x49 := x41.below hb6 x41.lt
    have w50 := w42.below hb6
    have pw51 := pw43.below hb6 pw43.lt
    have y52 := y44.below hb6
    have px53 := px45.below hb6 px45.lt
    have gg54 := gg46.below hb6
    have pg55 := pg47.below hb6 pg47.lt
    clear hB40 x41 w42 pw43 y44 px45 gg46 pg47
    clear p0 p1 p2 p3 pl pf q0 q1 q2 q3 ql qf r0 r1 r2 r3 rl rf
    obtain ⟨p0, p1, p2, p3, pl, pf⟩ := (⟨x49.cell 0, x49.cell 1, x49.cell 2, x49.cell 3, x49.lt, x49.frozen⟩ : _ ∧ _ ∧ _ ∧ _ ∧ _ ∧ _)
    obtain ⟨q0, q1, q2, q3, ql, qf⟩ := (⟨pw51.cell 0, pw51.cell 1, pw51.cell 2, pw51.cell 3, pw51.lt, pw51.frozen⟩ : _ ∧ _ ∧ _ ∧ _ ∧ _ ∧ _)
    obtain ⟨r0, r1, r2, r3, rl, rf⟩ := (⟨px53.cell 0, px53.cell 1, px53.cell 2, px53.cell 3, px53.lt, px53.frozen⟩ : _ ∧ _ ∧ _ ∧ _ ∧ _ ∧ _)
    obtain ⟨s0, s1, s2, s3, sl, sf⟩ := (⟨pg55.cell 0, pg55.cell 1, pg55.cell 2, pg55.cell 3, pg55.lt, pg55.frozen⟩ : _ ∧ _ ∧ _ ∧ _ ∧ _ ∧ _)
    have K1 := hid (⟨x49.cell 0, x49.cell 1, x49.cell 2, x49.cell 3, px53.cell 0, px53.cell 1, px53.cell 2, px53.cell 3⟩ : (fun w' => w'.cell? ⟨w.heap.size, 0, none⟩ = some (.int .i64 p.mx) ∧ w'.cell? ⟨w.heap.size, 1, none⟩ = some (.slice A1 p.idle.length c1) ∧ w'.cell? ⟨w.heap.size, 2, none⟩ = some (.slice A2 p.held.length c2) ∧ w'.cell? ⟨w.heap.size, 3, none⟩ = some (.slice A3 p.wait.length c3) ∧ w'.cell? ⟨w4.heap.size, 0, none⟩ = some (.int .i64 p.mx) ∧ w'.cell? ⟨w4.heap.size, 1, none⟩ = some (.slice By1 p.idle.length dy1) ∧ w'.cell? ⟨w4.heap.size, 2, none⟩ = some (.slice By2 p.held.length dy2) ∧ w'.cell? ⟨w4.heap.size, 3, none⟩ = some (.slice By3 p.wait.length dy3)) w6)
    have hB_d := hB48.drew
    have x_d := x49.drew
    have w_d := w50.drew
    have pw_d := pw51.drew
    have y_d := y52.drew
    have px_d := px53.drew
    have gg_d := gg54.drew
    have pg_d := pg55.drew
    have K2 := hid (⟨x_d.cell 0, x_d.cell 1, x_d.cell 2, x_d.cell 3, px_d.cell 0, px_d.cell 1, px_d.cell 2, px_d.cell 3⟩ : (fun w' => w'.cell? ⟨w.heap.size, 0, none⟩ = some (.int .i64 p.mx) ∧ w'.cell? ⟨w.heap.size, 1, none⟩ = some (.slice A1 p.idle.length c1) ∧ w'.cell? ⟨w.heap.size, 2, none⟩ = some (.slice A2 p.held.length c2) ∧ w'.cell? ⟨w.heap.size, 3, none⟩ = some (.slice A3 p.wait.length c3) ∧ w'.cell? ⟨w4.heap.size, 0, none⟩ = some (.int .i64 p.mx) ∧ w'.cell? ⟨w4.heap.size, 1, none⟩ = some (.slice By1 p.idle.length dy1) ∧ w'.cell? ⟨w4.heap.size, 2, none⟩ = some (.slice By2 p.held.length dy2) ∧ w'.cell? ⟨w4.heap.size, 3, none⟩ = some (.slice By3 p.wait.length dy3)) w6.drew)
    go_wp2_with fail
    go_region_held3 (fun w' => w'.cell? ⟨w.heap.size, 0, none⟩ = some (.int .i64 p.mx) ∧ w'.cell? ⟨w.heap.size, 1, none⟩ = some (.slice A1 p.idle.length c1) ∧ w'.cell? ⟨w.heap.size, 2, none⟩ = some (.slice A2 p.held.length c2) ∧ w'.cell? ⟨w.heap.size, 3, none⟩ = some (.slice A3 p.wait.length c3) ∧ w'.cell? ⟨w4.heap.size, 0, none⟩ = some (.int .i64 p.mx) ∧ w'.cell? ⟨w4.heap.size, 1, none⟩ = some (.slice By1 p.idle.length dy1) ∧ w'.cell? ⟨w4.heap.size, 2, none⟩ = some (.slice By2 p.held.length dy2) ∧ w'.cell? ⟨w4.heap.size, 3, none⟩ = some (.slice By3 p.wait.length dy3))
      (first | with_reducible exact K1.out | with_reducible exact K2.out | with_reducible exact K3.out | with_reducible exact K4.out | go_keep)
      (first
        | (go_at_call 10; (with_reducible refine (toPool_any p A1 A2 A3 c1 c2 c3 _ (h.on hB_d) N1.out N2.out N3.out).mono ?_); rintro e wa ⟨Bz1, Bz2, Bz3, dz1, dz2, dz3, rfl, hoz, hba⟩; have hB_a := hB_d.trans (hba.mono hB_d.size); have x_a := x_d.below hba x_d.lt; have w_a := w_d.below hba; have pw_a := pw_d.below hba pw_d.lt; have y_a := y_d.below hba; have px_a := px_d.below hba px_d.lt; have gg_a := gg_d.below hba; have pg_a := pg_d.below hba pg_d.lt; have K3 := hid (⟨x_a.cell 0, x_a.cell 1, x_a.cell 2, x_a.cell 3, px_a.cell 0, px_a.cell 1, px_a.cell 2, px_a.cell 3⟩ : (fun w' => w'.cell? ⟨w.heap.size, 0, none⟩ = some (.int .i64 p.mx) ∧ w'.cell? ⟨w.heap.size, 1, none⟩ = some (.slice A1 p.idle.length c1) ∧ w'.cell? ⟨w.heap.size, 2, none⟩ = some (.slice A2 p.held.length c2) ∧ w'.cell? ⟨w.heap.size, 3, none⟩ = some (.slice A3 p.wait.length c3) ∧ w'.cell? ⟨w4.heap.size, 0, none⟩ = some (.int .i64 p.mx) ∧ w'.cell? ⟨w4.heap.size, 1, none⟩ = some (.slice By1 p.idle.length dy1) ∧ w'.cell? ⟨w4.heap.size, 2, none⟩ = some (.slice By2 p.held.length dy2) ∧ w'.cell? ⟨w4.heap.size, 3, none⟩ = some (.slice By3 p.wait.length dy3)) wa))
        | (go_at_call 12; (with_reducible refine (eqPool_same By1 By2 By3 Bz1 Bz2 Bz3 dy1 dy2 dy3 dz1 dz2 dz3 p _ y_a.sees hoz.sees N1.out N2.out N3.out).mono ?_); rintro e wb ⟨rfl, hbb⟩; have hB_b := hB_a.trans (hbb.mono hB_a.size); have x_b := x_a.below hbb x_a.lt; have w_b := w_a.below hbb; have pw_b := pw_a.below hbb pw_a.lt; have y_b := y_a.below hbb; have px_b := px_a.below hbb px_a.lt; have gg_b := gg_a.below hbb; have pg_b := pg_a.below hbb pg_a.lt; have K4 := hid (⟨x_b.cell 0, x_b.cell 1, x_b.cell 2, x_b.cell 3, px_b.cell 0, px_b.cell 1, px_b.cell 2, px_b.cell 3⟩ : (fun w' => w'.cell? ⟨w.heap.size, 0, none⟩ = some (.int .i64 p.mx) ∧ w'.cell? ⟨w.heap.size, 1, none⟩ = some (.slice A1 p.idle.length c1) ∧ w'.cell? ⟨w.heap.size, 2, none⟩ = some (.slice A2 p.held.length c2) ∧ w'.cell? ⟨w.heap.size, 3, none⟩ = some (.slice A3 p.wait.length c3) ∧ w'.cell? ⟨w4.heap.size, 0, none⟩ = some (.int .i64 p.mx) ∧ w'.cell? ⟨w4.heap.size, 1, none⟩ = some (.slice By1 p.idle.length dy1) ∧ w'.cell? ⟨w4.heap.size, 2, none⟩ = some (.slice By2 p.held.length dy2) ∧ w'.cell? ⟨w4.heap.size, 3, none⟩ = some (.slice By3 p.wait.length dy3)) wb))
        | fail)
    have hB56 := hB_b
    clear hB48
    have x57 := x_b
    clear x49
    have w58 := w_b
    clear w50
    have pw59 := pw_b
    clear pw51
    have y60 := y_b
    clear y52
    have px61 := px_b
    clear px53
    have gg62 := gg_b
    clear gg54
    have pg63 := pg_b
    clear pg55
    clear K1 K2 K3 K4 hB_d hB_a hB_b x_d x_a x_b w_d w_a w_b pw_d pw_a pw_b y_d y_a y_b px_d px_a px_b gg_d gg_a gg_b pg_d pg_a pg_b hba hbb hoz
    clear p0 p1 p2 p3 pl pf q0 q1 q2 q3 ql qf r0 r1 r2 r3 rl rf s0 s1 s2 s3 sl sf
    obtain ⟨p0, p1, p2, p3, pl, pf⟩ := (⟨x57.cell 0, x57.cell 1, x57.cell 2, x57.cell 3, x57.lt, x57.frozen⟩ : _ ∧ _ ∧ _ ∧ _ ∧ _ ∧ _)
    obtain ⟨q0, q1, q2, q3, ql, qf⟩ := (⟨pw59.cell 0, pw59.cell 1, pw59.cell 2, pw59.cell 3, pw59.lt, pw59.frozen⟩ : _ ∧ _ ∧ _ ∧ _ ∧ _ ∧ _)
    obtain ⟨r0, r1, r2, r3, rl, rf⟩ := (⟨px61.cell 0, px61.cell 1, px61.cell 2, px61.cell 3, px61.lt, px61.frozen⟩ : _ ∧ _ ∧ _ ∧ _ ∧ _ ∧ _)
    obtain ⟨s0, s1, s2, s3, sl, sf⟩ := (⟨pg63.cell 0, pg63.cell 1, pg63.cell 2, pg63.cell 3, pg63.lt, pg63.frozen⟩ : _ ∧ _ ∧ _ ∧ _ ∧ _ ∧ _)
    go_wp2_with fail
    with_reducible refine (markPool_any _ By1 By2 By3 dy1 dy2 dy3 p _ y60 N1.out N2.out N3.out (hi := w4.heap.size) (fun q hq => (by1 q hq).2) (fun q hq => (by2 q hq).2) (fun q hq => (by3 q hq).2)).mono ?_
    rintro e w8 ⟨he, _, hm8, hmo⟩
    rw [HCP.out] at he
    subst he
    have hB64 := below_mid hB56 hm8 (by omega) hB56.size
    clear hB56
    have x65 := x57.mid hm8 (by omega)
    clear x57
    have w66 := w58.mid hm8 (fun q hq => by have := bw1 q hq; omega) (fun q hq => by have := bw2 q hq; omega) (fun q hq => by have := bw3 q hq; omega)
    clear w58
    have pw67 := pw59.mid hm8 (by omega)
    clear pw59
    have y68 := hmo
    clear y60
    have px69 := px61.mid hm8 (by omega)
    clear px61
    have gg70 := gg62.mid hm8 (fun q hq => by have := bgg1 q hq; omega) (fun q hq => by have := bgg2 q hq; omega) (fun q hq => by have := bgg3 q hq; omega)
    clear gg62
    have pg71 := pg63.mid hm8 (by omega)
    clear pg63
    have sz8 := hm8.size
    clear hmo hm8
    clear p0 p1 p2 p3 pl pf q0 q1 q2 q3 ql qf r0 r1 r2 r3 rl rf s0 s1 s2 s3 sl sf
    clear y68
    obtain ⟨p0, p1, p2, p3, pl, pf⟩ := (⟨x65.cell 0, x65.cell 1, x65.cell 2, x65.cell 3, x65.lt, x65.frozen⟩ : _ ∧ _ ∧ _ ∧ _ ∧ _ ∧ _)
    obtain ⟨q0, q1, q2, q3, ql, qf⟩ := (⟨pw67.cell 0, pw67.cell 1, pw67.cell 2, pw67.cell 3, pw67.lt, pw67.frozen⟩ : _ ∧ _ ∧ _ ∧ _ ∧ _ ∧ _)
    obtain ⟨r0, r1, r2, r3, rl, rf⟩ := (⟨px69.cell 0, px69.cell 1, px69.cell 2, px69.cell 3, px69.lt, px69.frozen⟩ : _ ∧ _ ∧ _ ∧ _ ∧ _ ∧ _)
    obtain ⟨s0, s1, s2, s3, sl, sf⟩ := (⟨pg71.cell 0, pg71.cell 1, pg71.cell 2, pg71.cell 3, pg71.lt, pg71.frozen⟩ : _ ∧ _ ∧ _ ∧ _ ∧ _ ∧ _)
    go_wp2_with fail
    with_reducible refine (eqPool_same Bgg1 Bgg2 Bgg3 Bw1 Bw2 Bw3 dgg1 dgg2 dgg3 dw1 dw2 dw3 R _ gg70.sees w66.sees R1.out R2.out R3.out).mono ?_
    rintro e w9 ⟨rfl, hb9⟩
    have sz9 : w8.heap.size ≤ w9.heap.size := Nat.le_trans (by first | exact Nat.le_refl _ | (simp; done) | (simp; omega)) (hb9.size)
    have hB72 := hB64.trans (hb9.mono hB64.size)
    have x73 := x65.below hb9 x65.lt
    have w74 := w66.below hb9
    have pw75 := pw67.below hb9 pw67.lt
    have px76 := px69.below hb9 px69.lt
    have gg77 := gg70.below hb9
    have pg78 := pg71.below hb9 pg71.lt
    clear hB64 x65 w66 pw67 px69 gg70 pg71
    clear p0 p1 p2 p3 pl pf q0 q1 q2 q3 ql qf r0 r1 r2 r3 rl rf s0 s1 s2 s3 sl sf
    obtain ⟨p0, p1, p2, p3, pl, pf⟩ := (⟨x73.cell 0, x73.cell 1, x73.cell 2, x73.cell 3, x73.lt, x73.frozen⟩ : _ ∧ _ ∧ _ ∧ _ ∧ _ ∧ _)
    obtain ⟨q0, q1, q2, q3, ql, qf⟩ := (⟨pw75.cell 0, pw75.cell 1, pw75.cell 2, pw75.cell 3, pw75.lt, pw75.frozen⟩ : _ ∧ _ ∧ _ ∧ _ ∧ _ ∧ _)
    obtain ⟨r0, r1, r2, r3, rl, rf⟩ := (⟨px76.cell 0, px76.cell 1, px76.cell 2, px76.cell 3, px76.lt, px76.frozen⟩ : _ ∧ _ ∧ _ ∧ _ ∧ _ ∧ _)
    obtain ⟨s0, s1, s2, s3, sl, sf⟩ := (⟨pg78.cell 0, pg78.cell 1, pg78.cell 2, pg78.cell 3, pg78.lt, pg78.frozen⟩ : _ ∧ _ ∧ _ ∧ _ ∧ _ ∧ _)
    go_wp2_with fail
    with_reducible refine (markPool_any _ Bgg1 Bgg2 Bgg3 dgg1 dgg2 dgg3 R _ gg77 R1.out R2.out R3.out (hi := w5.heap.size) (fun q hq => (bgg1 q hq).2) (fun q hq => (bgg2 q hq).2) (fun q hq => (bgg3 q hq).2)).mono ?_
    rintro e w10 ⟨he, _, hm10, hmo⟩
    rw [HCR.out] at he
    subst he
    have hB79 := below_mid hB72 hm10 (by omega) hB72.size
    clear hB72
    have x80 := x73.mid hm10 (by omega)
    clear x73
    have w81 := w74.mid hm10 (fun q hq => by have := bw1 q hq; omega) (fun q hq => by have := bw2 q hq; omega) (fun q hq => by have := bw3 q hq; omega)
    clear w74
    have pw82 := pw75.mid hm10 (by omega)
    clear pw75
    have px83 := px76.mid hm10 (by omega)
    clear px76
    have gg84 := hmo
    clear gg77
    have pg85 := pg78.mid hm10 (by omega)
    clear pg78
    have sz10 := hm10.size
    clear hmo hm10
    clear p0 p1 p2 p3 pl pf q0 q1 q2 q3 ql qf r0 r1 r2 r3 rl rf s0 s1 s2 s3 sl sf
    obtain ⟨p0, p1, p2, p3, pl, pf⟩ := (⟨x80.cell 0, x80.cell 1, x80.cell 2, x80.cell 3, x80.lt, x80.frozen⟩ : _ ∧ _ ∧ _ ∧ _ ∧ _ ∧ _)
    obtain ⟨q0, q1, q2, q3, ql, qf⟩ := (⟨pw82.cell 0, pw82.cell 1, pw82.cell 2, pw82.cell 3, pw82.lt, pw82.frozen⟩ : _ ∧ _ ∧ _ ∧ _ ∧ _ ∧ _)
    obtain ⟨r0, r1, r2, r3, rl, rf⟩ := (⟨px83.cell 0, px83.cell 1, px83.cell 2, px83.cell 3, px83.lt, px83.frozen⟩ : _ ∧ _ ∧ _ ∧ _ ∧ _ ∧ _)
    obtain ⟨s0, s1, s2, s3, sl, sf⟩ := (⟨pg85.cell 0, pg85.cell 1, pg85.cell 2, pg85.cell 3, pg85.lt, pg85.frozen⟩ : _ ∧ _ ∧ _ ∧ _ ∧ _ ∧ _)
    go_wp2_with fail
    with_reducible refine (heldPool_any Bgg1 Bgg2 Bgg3 dgg1 dgg2 dgg3 R _ gg84.sees R1.out R2.out R3.out).mono ?_
    rintro e w11 ⟨he, hb11⟩
    rw [HCR.out] at he
    subst he
    have sz11 : w10.heap.size ≤ w11.heap.size := Nat.le_trans (by first | exact Nat.le_refl _ | (simp; done) | (simp; omega)) (hb11.size)
    have hB86 := hB79.trans (hb11.mono hB79.size)
    have x87 := x80.below hb11 x80.lt
    have w88 := w81.below hb11
    have pw89 := pw82.below hb11 pw82.lt
    have px90 := px83.below hb11 px83.lt
    have gg91 := gg84.below hb11
    have pg92 := pg85.below hb11 pg85.lt
    clear hB79 x80 w81 pw82 px83 gg84 pg85
    clear p0 p1 p2 p3 pl pf q0 q1 q2 q3 ql qf r0 r1 r2 r3 rl rf s0 s1 s2 s3 sl sf
    obtain ⟨p0, p1, p2, p3, pl, pf⟩ := (⟨x87.cell 0, x87.cell 1, x87.cell 2, x87.cell 3, x87.lt, x87.frozen⟩ : _ ∧ _ ∧ _ ∧ _ ∧ _ ∧ _)
    obtain ⟨q0, q1, q2, q3, ql, qf⟩ := (⟨pw89.cell 0, pw89.cell 1, pw89.cell 2, pw89.cell 3, pw89.lt, pw89.frozen⟩ : _ ∧ _ ∧ _ ∧ _ ∧ _ ∧ _)
    obtain ⟨r0, r1, r2, r3, rl, rf⟩ := (⟨px90.cell 0, px90.cell 1, px90.cell 2, px90.cell 3, px90.lt, px90.frozen⟩ : _ ∧ _ ∧ _ ∧ _ ∧ _ ∧ _)
    obtain ⟨s0, s1, s2, s3, sl, sf⟩ := (⟨pg92.cell 0, pg92.cell 1, pg92.cell 2, pg92.cell 3, pg92.lt, pg92.frozen⟩ : _ ∧ _ ∧ _ ∧ _ ∧ _ ∧ _)
    go_wp2_with fail
    with_reducible refine (toPool_any p A1 A2 A3 c1 c2 c3 _ (h.on hB86) N1.out N2.out N3.out).mono ?_
    rintro e w12 ⟨Bc1, Bc2, Bc3, dc1, dc2, dc3, rfl, hoc, hb12⟩
    have sz12 : w11.heap.size ≤ w12.heap.size := Nat.le_trans (by first | exact Nat.le_refl _ | (simp; done) | (simp; omega)) (hb12.size)
    have hB93 := hB86.trans (hb12.mono hB86.size)
    have x94 := x87.below hb12 x87.lt
    have w95 := w88.below hb12
    have pw96 := pw89.below hb12 pw89.lt
    have px97 := px90.below hb12 px90.lt
    have gg98 := gg91.below hb12
    have pg99 := pg92.below hb12 pg92.lt
    clear hB86 x87 w88 pw89 px90 gg91 pg92
    clear p0 p1 p2 p3 pl pf q0 q1 q2 q3 ql qf r0 r1 r2 r3 rl rf s0 s1 s2 s3 sl sf
    have c100 := hoc.mono (show w11.heap.size ≤ _ by first | exact Nat.le_refl _ | (simp; done))
    clear hoc
    have cap := c100.lens
    obtain ⟨p0, p1, p2, p3, pl, pf⟩ := (⟨x94.cell 0, x94.cell 1, x94.cell 2, x94.cell 3, x94.lt, x94.frozen⟩ : _ ∧ _ ∧ _ ∧ _ ∧ _ ∧ _)
    obtain ⟨q0, q1, q2, q3, ql, qf⟩ := (⟨pw96.cell 0, pw96.cell 1, pw96.cell 2, pw96.cell 3, pw96.lt, pw96.frozen⟩ : _ ∧ _ ∧ _ ∧ _ ∧ _ ∧ _)
    obtain ⟨r0, r1, r2, r3, rl, rf⟩ := (⟨px97.cell 0, px97.cell 1, px97.cell 2, px97.cell 3, px97.lt, px97.frozen⟩ : _ ∧ _ ∧ _ ∧ _ ∧ _ ∧ _)
    obtain ⟨s0, s1, s2, s3, sl, sf⟩ := (⟨pg99.cell 0, pg99.cell 1, pg99.cell 2, pg99.cell 3, pg99.lt, pg99.frozen⟩ : _ ∧ _ ∧ _ ∧ _ ∧ _ ∧ _)
    go_wp2_with fail
    with_reducible refine (iReleaseConn_any p Bc1 Bc2 Bc3 dc1 dc2 dc3 o _ c100.sees cap.2.2 L1.out L2.out L3.out).mono ?_
    rintro e w13 ⟨Bhh1, Bhh2, Bhh3, dhh1, dhh2, dhh3, he, hohh, hb13⟩
    rw [HR.out, HN.out, HK.out] at he
    rw [HR.out] at hohh
    subst he
    have sz13 : w12.heap.size ≤ w13.heap.size := Nat.le_trans (by first | exact Nat.le_refl _ | (simp; done) | (simp; omega)) (hb13.size)
    have hB101 := hB93.trans (hb13.mono hB93.size)
    have x102 := x94.below hb13 x94.lt
    have w103 := w95.below hb13
    have pw104 := pw96.below hb13 pw96.lt
    have px105 := px97.below hb13 px97.lt
    have gg106 := gg98.below hb13
    have pg107 := pg99.below hb13 pg99.lt
    have c108 := c100.below hb13
    clear hB93 x94 w95 pw96 px97 gg98 pg99 c100
    clear p0 p1 p2 p3 pl pf q0 q1 q2 q3 ql qf r0 r1 r2 r3 rl rf s0 s1 s2 s3 sl sf
    have hh109 := hohh.mono (show w12.heap.size ≤ _ by first | exact Nat.le_refl _ | (simp; done))
    clear cap hohh
    clear c108
    obtain ⟨p0, p1, p2, p3, pl, pf⟩ := (⟨x102.cell 0, x102.cell 1, x102.cell 2, x102.cell 3, x102.lt, x102.frozen⟩ : _ ∧ _ ∧ _ ∧ _ ∧ _ ∧ _)
    obtain ⟨q0, q1, q2, q3, ql, qf⟩ := (⟨pw104.cell 0, pw104.cell 1, pw104.cell 2, pw104.cell 3, pw104.lt, pw104.frozen⟩ : _ ∧ _ ∧ _ ∧ _ ∧ _ ∧ _)
    obtain ⟨r0, r1, r2, r3, rl, rf⟩ := (⟨px105.cell 0, px105.cell 1, px105.cell 2, px105.cell 3, px105.lt, px105.frozen⟩ : _ ∧ _ ∧ _ ∧ _ ∧ _ ∧ _)
    obtain ⟨s0, s1, s2, s3, sl, sf⟩ := (⟨pg107.cell 0, pg107.cell 1, pg107.cell 2, pg107.cell 3, pg107.lt, pg107.frozen⟩ : _ ∧ _ ∧ _ ∧ _ ∧ _ ∧ _)
    have hB110 := hB101.alloc hB101.size (.cells #[.int .i64 R.mx, .slice Bhh1 R.idle.length dhh1, .slice Bhh2 R.held.length dhh2, .slice Bhh3 R.wait.length dhh3] 30)
    have x111 := x102.alloc (.cells #[.int .i64 R.mx, .slice Bhh1 R.idle.length dhh1, .slice Bhh2 R.held.length dhh2, .slice Bhh3 R.wait.length dhh3] 30)
    have w112 := w103.alloc (.cells #[.int .i64 R.mx, .slice Bhh1 R.idle.length dhh1, .slice Bhh2 R.held.length dhh2, .slice Bhh3 R.wait.length dhh3] 30)
    have pw113 := pw104.alloc (.cells #[.int .i64 R.mx, .slice Bhh1 R.idle.length dhh1, .slice Bhh2 R.held.length dhh2, .slice Bhh3 R.wait.length dhh3] 30)
    have px114 := px105.alloc (.cells #[.int .i64 R.mx, .slice Bhh1 R.idle.length dhh1, .slice Bhh2 R.held.length dhh2, .slice Bhh3 R.wait.length dhh3] 30)
    have gg115 := gg106.alloc (.cells #[.int .i64 R.mx, .slice Bhh1 R.idle.length dhh1, .slice Bhh2 R.held.length dhh2, .slice Bhh3 R.wait.length dhh3] 30)
    have pg116 := pg107.alloc (.cells #[.int .i64 R.mx, .slice Bhh1 R.idle.length dhh1, .slice Bhh2 R.held.length dhh2, .slice Bhh3 R.wait.length dhh3] 30)
    have hh117 := hh109.alloc (.cells #[.int .i64 R.mx, .slice Bhh1 R.idle.length dhh1, .slice Bhh2 R.held.length dhh2, .slice Bhh3 R.wait.length dhh3] 30)
    clear hB101 x102 w103 pw104 px105 gg106 pg107 hh109
    have ph118 : At (w13.alloc (.cells #[.int .i64 R.mx, .slice Bhh1 R.idle.length dhh1, .slice Bhh2 R.held.length dhh2, .slice Bhh3 R.wait.length dhh3] 30)) (w13.heap.size) 30 #[.int .i64 R.mx, .slice Bhh1 R.idle.length dhh1, .slice Bhh2 R.held.length dhh2, .slice Bhh3 R.wait.length dhh3] := At.newAt _ _ (by first | rfl | (simp; done) | (simp; omega))
    go_wp2_with fail
    with_reducible refine (eqPool_same Bhh1 Bhh2 Bhh3 Bw1 Bw2 Bw3 dhh1 dhh2 dhh3 dw1 dw2 dw3 R _ hh117.sees w112.sees R1.out R2.out R3.out).mono ?_
    rintro e w14 ⟨rfl, hb14⟩
    have sz14 : w13.heap.size + 1 ≤ w14.heap.size := Nat.le_trans (by first | exact Nat.le_refl _ | (simp; done) | (simp; omega)) (hb14.size)
    have hB119 := hB110.trans (hb14.mono hB110.size)
    have x120 := x111.below hb14 x111.lt
    have w121 := w112.below hb14
    have pw122 := pw113.below hb14 pw113.lt
    have px123 := px114.below hb14 px114.lt
    have gg124 := gg115.below hb14
    have pg125 := pg116.below hb14 pg116.lt
    have hh126 := hh117.below hb14
    have ph127 := ph118.below hb14 ph118.lt
    clear hB110 x111 w112 pw113 px114 gg115 pg116 hh117 ph118
    clear p0 p1 p2 p3 pl pf q0 q1 q2 q3 ql qf r0 r1 r2 r3 rl rf s0 s1 s2 s3 sl sf
    obtain ⟨p0, p1, p2, p3, pl, pf⟩ := (⟨x120.cell 0, x120.cell 1, x120.cell 2, x120.cell 3, x120.lt, x120.frozen⟩ : _ ∧ _ ∧ _ ∧ _ ∧ _ ∧ _)
    obtain ⟨q0, q1, q2, q3, ql, qf⟩ := (⟨pw122.cell 0, pw122.cell 1, pw122.cell 2, pw122.cell 3, pw122.lt, pw122.frozen⟩ : _ ∧ _ ∧ _ ∧ _ ∧ _ ∧ _)
    obtain ⟨r0, r1, r2, r3, rl, rf⟩ := (⟨px123.cell 0, px123.cell 1, px123.cell 2, px123.cell 3, px123.lt, px123.frozen⟩ : _ ∧ _ ∧ _ ∧ _ ∧ _ ∧ _)
    obtain ⟨s0, s1, s2, s3, sl, sf⟩ := (⟨pg125.cell 0, pg125.cell 1, pg125.cell 2, pg125.cell 3, pg125.lt, pg125.frozen⟩ : _ ∧ _ ∧ _ ∧ _ ∧ _ ∧ _)
    obtain ⟨u0, u1, u2, u3, ul, uf⟩ := (⟨ph127.cell 0, ph127.cell 1, ph127.cell 2, ph127.cell 3, ph127.lt, ph127.frozen⟩ : _ ∧ _ ∧ _ ∧ _ ∧ _ ∧ _)
    go_wp2_with fail
    with_reducible refine (heldPool_any Bgg1 Bgg2 Bgg3 dgg1 dgg2 dgg3 R _ gg124.sees R1.out R2.out R3.out).mono ?_
    rintro e w15 ⟨he, hb15⟩
    rw [HCR.out] at he
    subst he
    have sz15 : w14.heap.size ≤ w15.heap.size := Nat.le_trans (by first | exact Nat.le_refl _ | (simp; done) | (simp; omega)) (hb15.size)
    have hB128 := hB119.trans (hb15.mono hB119.size)
    have x129 := x120.below hb15 x120.lt
    have w130 := w121.below hb15
    have pw131 := pw122.below hb15 pw122.lt
    have px132 := px123.below hb15 px123.lt
    have gg133 := gg124.below hb15
    have pg134 := pg125.below hb15 pg125.lt
    have hh135 := hh126.below hb15
    have ph136 := ph127.below hb15 ph127.lt
    clear hB119 x120 w121 pw122 px123 gg124 pg125 hh126 ph127
    clear p0 p1 p2 p3 pl pf q0 q1 q2 q3 ql qf r0 r1 r2 r3 rl rf s0 s1 s2 s3 sl sf u0 u1 u2 u3 ul uf
    obtain ⟨p0, p1, p2, p3, pl, pf⟩ := (⟨x129.cell 0, x129.cell 1, x129.cell 2, x129.cell 3, x129.lt, x129.frozen⟩ : _ ∧ _ ∧ _ ∧ _ ∧ _ ∧ _)
    obtain ⟨q0, q1, q2, q3, ql, qf⟩ := (⟨pw131.cell 0, pw131.cell 1, pw131.cell 2, pw131.cell 3, pw131.lt, pw131.frozen⟩ : _ ∧ _ ∧ _ ∧ _ ∧ _ ∧ _)
    obtain ⟨r0, r1, r2, r3, rl, rf⟩ := (⟨px132.cell 0, px132.cell 1, px132.cell 2, px132.cell 3, px132.lt, px132.frozen⟩ : _ ∧ _ ∧ _ ∧ _ ∧ _ ∧ _)
    obtain ⟨s0, s1, s2, s3, sl, sf⟩ := (⟨pg134.cell 0, pg134.cell 1, pg134.cell 2, pg134.cell 3, pg134.lt, pg134.frozen⟩ : _ ∧ _ ∧ _ ∧ _ ∧ _ ∧ _)
    obtain ⟨u0, u1, u2, u3, ul, uf⟩ := (⟨ph136.cell 0, ph136.cell 1, ph136.cell 2, ph136.cell 3, ph136.lt, ph136.frozen⟩ : _ ∧ _ ∧ _ ∧ _ ∧ _ ∧ _)
    go_wp2
    go_ret
    exact ⟨rfl, hB128⟩
end Go.Proofs.Ytaddndlpgabkfaa

/-
  The walk of the exact law FnExactFormatPool: at every argument it returns true and changes nothing that was there. Conditions: none.
-/
import Derived.Test.YtehdbllpiokbnaaPlU
import Derived.Test.YtehdbllpiokbnaaTxtJ
import Derived.Deep.RegionHeld3
namespace Go.Proofs.Ytehdbllpiokbnaa
open Go.RowKit Pol Txt

set_option maxHeartbeats 16000000 in
theorem walkExactFormatPool (A1 A2 A3 : Option Addr) (c1 c2 c3 : Nat) (p : Pl) (w : World) (hm1 : p.idle.length ≤ maxLen) (hm2 : p.held.length ≤ maxLen) (hm3 : p.wait.length ≤ maxLen) (h : SeesP w w.heap.size A1 A2 A3 p) :
    Calls Try.prog 3 #[.agg #[.int .i64 p.mx, .slice A1 p.idle.length c1, .slice A2 p.held.length c2, .slice A3 p.wait.length c3]] w fun e w' => e = .returned (.bool true) ∧ Below w.heap.size w w' := by
  have M1 := hid hm1
  have M2 := hid hm2
  have M3 := hid hm3
  clear hm1 hm2 hm3
  by_cases hbig : 1048576 < p.idle.length + p.held.length + p.wait.length
  · skip
    have E0 : Hid ((if 1048576 < p.idle.length + p.held.length + p.wait.length then (-1 : Int) else 1048576 - ((p.idle.length + p.held.length + p.wait.length : Nat) : Int)) = -1) := hid (if_pos hbig)
    clear hbig
    have hB1 := Below.refl w.heap.size w
    have hB2 := hB1.alloc hB1.size (.cells #[.int .i64 p.mx, .slice A1 p.idle.length c1, .slice A2 p.held.length c2, .slice A3 p.wait.length c3] 25)
    clear hB1
    have x3 : At (w.alloc (.cells #[.int .i64 p.mx, .slice A1 p.idle.length c1, .slice A2 p.held.length c2, .slice A3 p.wait.length c3] 25)) (w.heap.size) 25 #[.int .i64 p.mx, .slice A1 p.idle.length c1, .slice A2 p.held.length c2, .slice A3 p.wait.length c3] := At.newAt _ _ (by first | rfl | (simp; done) | (simp; omega))
    go_enter Try.func3, Try.ntmps3
    obtain ⟨p0, p1, p2, p3, pl, pf⟩ := (⟨x3.cell 0, x3.cell 1, x3.cell 2, x3.cell 3, x3.lt, x3.frozen⟩ : _ ∧ _ ∧ _ ∧ _ ∧ _ ∧ _)
    go_wp2_with fail
    with_reducible refine (szPool_any A1 A2 A3 p.idle.length p.held.length p.wait.length c1 c2 c3 p.mx _ M1.out M2.out M3.out).mono ?_
    rintro e w1 ⟨he, hb1⟩
    rw [E0.out] at he
    subst he
    have sz1 : w.heap.size + 1 ≤ w1.heap.size := Nat.le_trans (by first | exact Nat.le_refl _ | (simp; done) | (simp; omega)) (hb1.size)
    have hB4 := hB2.trans (hb1.mono hB2.size)
    have x5 := x3.below hb1 x3.lt
    clear hB2 x3
    clear p0 p1 p2 p3 pl pf
    obtain ⟨p0, p1, p2, p3, pl, pf⟩ := (⟨x5.cell 0, x5.cell 1, x5.cell 2, x5.cell 3, x5.lt, x5.frozen⟩ : _ ∧ _ ∧ _ ∧ _ ∧ _ ∧ _)
    go_wp2
    go_ret
    exact ⟨rfl, hB4⟩
  · skip
    have L1 := hid (show p.idle.length ≤ 2097152 by omega)
    have L2 := hid (show p.held.length ≤ 2097152 by omega)
    have L3 := hid (show p.wait.length ≤ 2097152 by omega)
    have N1 := hid (show p.idle.length ≤ 4194304 by omega)
    have N2 := hid (show p.held.length ≤ 4194304 by omega)
    have N3 := hid (show p.wait.length ≤ 4194304 by omega)
    obtain ⟨V, hV⟩ : ∃ V : Int, V = 1048576 - ((p.idle.length + p.held.length + p.wait.length : Nat) : Int) := ⟨_, rfl⟩
    have E0 : Hid ((if 1048576 < p.idle.length + p.held.length + p.wait.length then (-1 : Int) else 1048576 - ((p.idle.length + p.held.length + p.wait.length : Nat) : Int)) = V) := hid (by rw [if_neg hbig, hV])
    have hle : ¬ V < 0 := by omega
    clear hV hbig
    obtain ⟨K, hK⟩ : ∃ K, K = fmtP p := ⟨_, rfl⟩
    have HK : Hid (fmtP p = K) := hid hK.symm
    clear hK
    have hB6 := Below.refl w.heap.size w
    have hB7 := hB6.alloc hB6.size (.cells #[.int .i64 p.mx, .slice A1 p.idle.length c1, .slice A2 p.held.length c2, .slice A3 p.wait.length c3] 25)
    clear hB6
    have x8 : At (w.alloc (.cells #[.int .i64 p.mx, .slice A1 p.idle.length c1, .slice A2 p.held.length c2, .slice A3 p.wait.length c3] 25)) (w.heap.size) 25 #[.int .i64 p.mx, .slice A1 p.idle.length c1, .slice A2 p.held.length c2, .slice A3 p.wait.length c3] := At.newAt _ _ (by first | rfl | (simp; done) | (simp; omega))
    go_enter Try.func3, Try.ntmps3
    obtain ⟨p0, p1, p2, p3, pl, pf⟩ := (⟨x8.cell 0, x8.cell 1, x8.cell 2, x8.cell 3, x8.lt, x8.frozen⟩ : _ ∧ _ ∧ _ ∧ _ ∧ _ ∧ _)
    go_wp2_with fail
    with_reducible refine (szPool_any A1 A2 A3 p.idle.length p.held.length p.wait.length c1 c2 c3 p.mx _ M1.out M2.out M3.out).mono ?_
    rintro e w1 ⟨he, hb1⟩
    rw [E0.out] at he
    subst he
    have sz1 : w.heap.size + 1 ≤ w1.heap.size := Nat.le_trans (by first | exact Nat.le_refl _ | (simp; done) | (simp; omega)) (hb1.size)
    have hB9 := hB7.trans (hb1.mono hB7.size)
    have x10 := x8.below hb1 x8.lt
    clear hB7 x8
    clear p0 p1 p2 p3 pl pf
    obtain ⟨p0, p1, p2, p3, pl, pf⟩ := (⟨x10.cell 0, x10.cell 1, x10.cell 2, x10.cell 3, x10.lt, x10.frozen⟩ : _ ∧ _ ∧ _ ∧ _ ∧ _ ∧ _)
    go_wp2_with fail
    with_reducible refine (toPool_any p A1 A2 A3 c1 c2 c3 _ (h.on hB9) N1.out N2.out N3.out).mono ?_
    rintro e w2 ⟨Ba1, Ba2, Ba3, da1, da2, da3, rfl, hoa, hb2⟩
    have sz2 : w1.heap.size ≤ w2.heap.size := Nat.le_trans (by first | exact Nat.le_refl _ | (simp; done) | (simp; omega)) (hb2.size)
    have hB11 := hB9.trans (hb2.mono hB9.size)
    have x12 := x10.below hb2 x10.lt
    clear hB9 x10
    clear p0 p1 p2 p3 pl pf
    have a13 := hoa.mono (show w1.heap.size ≤ _ by first | exact Nat.le_refl _ | (simp; done))
    clear hoa
    have cap := a13.lens
    obtain ⟨p0, p1, p2, p3, pl, pf⟩ := (⟨x12.cell 0, x12.cell 1, x12.cell 2, x12.cell 3, x12.lt, x12.frozen⟩ : _ ∧ _ ∧ _ ∧ _ ∧ _ ∧ _)
    go_wp2_with fail
    with_reducible refine (sFormatPool_any p Ba1 Ba2 Ba3 da1 da2 da3 _ a13.sees L1.out L2.out L3.out).mono ?_
    rintro e w3 ⟨he, hb3⟩
    rw [HK.out] at he
    subst he
    unfold tx
    have sz3 : w2.heap.size ≤ w3.heap.size := Nat.le_trans (by first | exact Nat.le_refl _ | (simp; done) | (simp; omega)) (hb3.size)
    have hB14 := hB11.trans (hb3.mono hB11.size)
    have x15 := x12.below hb3 x12.lt
    have a16 := a13.below hb3
    clear hB11 x12 a13
    clear p0 p1 p2 p3 pl pf
    clear cap
    clear a16
    obtain ⟨p0, p1, p2, p3, pl, pf⟩ := (⟨x15.cell 0, x15.cell 1, x15.cell 2, x15.cell 3, x15.lt, x15.frozen⟩ : _ ∧ _ ∧ _ ∧ _ ∧ _ ∧ _)
    go_wp2_with fail
    with_reducible refine (toPool_any p A1 A2 A3 c1 c2 c3 _ (h.on hB14) N1.out N2.out N3.out).mono ?_
    rintro e w4 ⟨By1, By2, By3, dy1, dy2, dy3, rfl, hoy, hb4⟩
    have sz4 : w3.heap.size ≤ w4.heap.size := Nat.le_trans (by first | exact Nat.le_refl _ | (simp; done) | (simp; omega)) (hb4.size)
    have hB17 := hB14.trans (hb4.mono hB14.size)
    have x18 := x15.below hb4 x15.lt
    clear hB14 x15
    clear p0 p1 p2 p3 pl pf
    have y19 := hoy.mono (show w3.heap.size ≤ _ by first | exact Nat.le_refl _ | (simp; done))
    clear hoy
    have by1 := y19.lt1
    have by2 := y19.lt2
    have by3 := y19.lt3
    obtain ⟨p0, p1, p2, p3, pl, pf⟩ := (⟨x18.cell 0, x18.cell 1, x18.cell 2, x18.cell 3, x18.lt, x18.frozen⟩ : _ ∧ _ ∧ _ ∧ _ ∧ _ ∧ _)
    have hB20 := hB17.alloc hB17.size (.cells #[.int .i64 p.mx, .slice By1 p.idle.length dy1, .slice By2 p.held.length dy2, .slice By3 p.wait.length dy3] 30)
    have x21 := x18.alloc (.cells #[.int .i64 p.mx, .slice By1 p.idle.length dy1, .slice By2 p.held.length dy2, .slice By3 p.wait.length dy3] 30)
    have y22 := y19.alloc (.cells #[.int .i64 p.mx, .slice By1 p.idle.length dy1, .slice By2 p.held.length dy2, .slice By3 p.wait.length dy3] 30)
    clear hB17 x18 y19
    have px23 : At (w4.alloc (.cells #[.int .i64 p.mx, .slice By1 p.idle.length dy1, .slice By2 p.held.length dy2, .slice By3 p.wait.length dy3] 30)) (w4.heap.size) 30 #[.int .i64 p.mx, .slice By1 p.idle.length dy1, .slice By2 p.held.length dy2, .slice By3 p.wait.length dy3] := At.newAt _ _ (by first | rfl | (simp; done) | (simp; omega))
    have cap := y22.lens
    go_wp2_with fail
    with_reducible refine (iFormatPool_any p By1 By2 By3 dy1 dy2 dy3 _ y22.sees L1.out L2.out L3.out).mono ?_
    rintro e w5 ⟨he, hb5⟩
    rw [HK.out] at he
    subst he
    unfold tx
    have sz5 : w4.heap.size + 1 ≤ w5.heap.size := Nat.le_trans (by first | exact Nat.le_refl _ | (simp; done) | (simp; omega)) (hb5.size)
    have hB24 := hB20.trans (hb5.mono hB20.size)
    have x25 := x21.below hb5 x21.lt
    have y26 := y22.below hb5
    have px27 := px23.below hb5 px23.lt
    clear hB20 x21 y22 px23
    clear p0 p1 p2 p3 pl pf
    clear cap
    obtain ⟨p0, p1, p2, p3, pl, pf⟩ := (⟨x25.cell 0, x25.cell 1, x25.cell 2, x25.cell 3, x25.lt, x25.frozen⟩ : _ ∧ _ ∧ _ ∧ _ ∧ _ ∧ _)
    obtain ⟨r0, r1, r2, r3, rl, rf⟩ := (⟨px27.cell 0, px27.cell 1, px27.cell 2, px27.cell 3, px27.lt, px27.frozen⟩ : _ ∧ _ ∧ _ ∧ _ ∧ _ ∧ _)
    have K1 := hid (⟨x25.cell 0, x25.cell 1, x25.cell 2, x25.cell 3, px27.cell 0, px27.cell 1, px27.cell 2, px27.cell 3⟩ : (fun w' => w'.cell? ⟨w.heap.size, 0, none⟩ = some (.int .i64 p.mx) ∧ w'.cell? ⟨w.heap.size, 1, none⟩ = some (.slice A1 p.idle.length c1) ∧ w'.cell? ⟨w.heap.size, 2, none⟩ = some (.slice A2 p.held.length c2) ∧ w'.cell? ⟨w.heap.size, 3, none⟩ = some (.slice A3 p.wait.length c3) ∧ w'.cell? ⟨w4.heap.size, 0, none⟩ = some (.int .i64 p.mx) ∧ w'.cell? ⟨w4.heap.size, 1, none⟩ = some (.slice By1 p.idle.length dy1) ∧ w'.cell? ⟨w4.heap.size, 2, none⟩ = some (.slice By2 p.held.length dy2) ∧ w'.cell? ⟨w4.heap.size, 3, none⟩ = some (.slice By3 p.wait.length dy3)) w5)
    have hB_d := hB24.drew
    have x_d := x25.drew
    have y_d := y26.drew
    have px_d := px27.drew
    have K2 := hid (⟨x_d.cell 0, x_d.cell 1, x_d.cell 2, x_d.cell 3, px_d.cell 0, px_d.cell 1, px_d.cell 2, px_d.cell 3⟩ : (fun w' => w'.cell? ⟨w.heap.size, 0, none⟩ = some (.int .i64 p.mx) ∧ w'.cell? ⟨w.heap.size, 1, none⟩ = some (.slice A1 p.idle.length c1) ∧ w'.cell? ⟨w.heap.size, 2, none⟩ = some (.slice A2 p.held.length c2) ∧ w'.cell? ⟨w.heap.size, 3, none⟩ = some (.slice A3 p.wait.length c3) ∧ w'.cell? ⟨w4.heap.size, 0, none⟩ = some (.int .i64 p.mx) ∧ w'.cell? ⟨w4.heap.size, 1, none⟩ = some (.slice By1 p.idle.length dy1) ∧ w'.cell? ⟨w4.heap.size, 2, none⟩ = some (.slice By2 p.held.length dy2) ∧ w'.cell? ⟨w4.heap.size, 3, none⟩ = some (.slice By3 p.wait.length dy3)) w5.drew)
    go_wp2_with fail
    go_region_held3 (fun w' => w'.cell? ⟨w.heap.size, 0, none⟩ = some (.int .i64 p.mx) ∧ w'.cell? ⟨w.heap.size, 1, none⟩ = some (.slice A1 p.idle.length c1) ∧ w'.cell? ⟨w.heap.size, 2, none⟩ = some (.slice A2 p.held.length c2) ∧ w'.cell? ⟨w.heap.size, 3, none⟩ = some (.slice A3 p.wait.length c3) ∧ w'.cell? ⟨w4.heap.size, 0, none⟩ = some (.int .i64 p.mx) ∧ w'.cell? ⟨w4.heap.size, 1, none⟩ = some (.slice By1 p.idle.length dy1) ∧ w'.cell? ⟨w4.heap.size, 2, none⟩ = some (.slice By2 p.held.length dy2) ∧ w'.cell? ⟨w4.heap.size, 3, none⟩ = some (.slice By3 p.wait.length dy3))
      (first | with_reducible exact K1.out | with_reducible exact K2.out | with_reducible exact K3.out | with_reducible exact K4.out | go_keep)
      (first
        | (go_at_call 10; (with_reducible refine (toPool_any p A1 A2 A3 c1 c2 c3 _ (h.on hB_d) N1.out N2.out N3.out).mono ?_); rintro e wa ⟨Bz1, Bz2, Bz3, dz1, dz2, dz3, rfl, hoz, hba⟩; have hB_a := hB_d.trans (hba.mono hB_d.size); have x_a := x_d.below hba x_d.lt; have y_a := y_d.below hba; have px_a := px_d.below hba px_d.lt; have K3 := hid (⟨x_a.cell 0, x_a.cell 1, x_a.cell 2, x_a.cell 3, px_a.cell 0, px_a.cell 1, px_a.cell 2, px_a.cell 3⟩ : (fun w' => w'.cell? ⟨w.heap.size, 0, none⟩ = some (.int .i64 p.mx) ∧ w'.cell? ⟨w.heap.size, 1, none⟩ = some (.slice A1 p.idle.length c1) ∧ w'.cell? ⟨w.heap.size, 2, none⟩ = some (.slice A2 p.held.length c2) ∧ w'.cell? ⟨w.heap.size, 3, none⟩ = some (.slice A3 p.wait.length c3) ∧ w'.cell? ⟨w4.heap.size, 0, none⟩ = some (.int .i64 p.mx) ∧ w'.cell? ⟨w4.heap.size, 1, none⟩ = some (.slice By1 p.idle.length dy1) ∧ w'.cell? ⟨w4.heap.size, 2, none⟩ = some (.slice By2 p.held.length dy2) ∧ w'.cell? ⟨w4.heap.size, 3, none⟩ = some (.slice By3 p.wait.length dy3)) wa))
        | (go_at_call 12; (with_reducible refine (eqPool_same By1 By2 By3 Bz1 Bz2 Bz3 dy1 dy2 dy3 dz1 dz2 dz3 p _ y_a.sees hoz.sees N1.out N2.out N3.out).mono ?_); rintro e wb ⟨rfl, hbb⟩; have hB_b := hB_a.trans (hbb.mono hB_a.size); have x_b := x_a.below hbb x_a.lt; have y_b := y_a.below hbb; have px_b := px_a.below hbb px_a.lt; have K4 := hid (⟨x_b.cell 0, x_b.cell 1, x_b.cell 2, x_b.cell 3, px_b.cell 0, px_b.cell 1, px_b.cell 2, px_b.cell 3⟩ : (fun w' => w'.cell? ⟨w.heap.size, 0, none⟩ = some (.int .i64 p.mx) ∧ w'.cell? ⟨w.heap.size, 1, none⟩ = some (.slice A1 p.idle.length c1) ∧ w'.cell? ⟨w.heap.size, 2, none⟩ = some (.slice A2 p.held.length c2) ∧ w'.cell? ⟨w.heap.size, 3, none⟩ = some (.slice A3 p.wait.length c3) ∧ w'.cell? ⟨w4.heap.size, 0, none⟩ = some (.int .i64 p.mx) ∧ w'.cell? ⟨w4.heap.size, 1, none⟩ = some (.slice By1 p.idle.length dy1) ∧ w'.cell? ⟨w4.heap.size, 2, none⟩ = some (.slice By2 p.held.length dy2) ∧ w'.cell? ⟨w4.heap.size, 3, none⟩ = some (.slice By3 p.wait.length dy3)) wb))
        | fail)
    have hB28 := hB_b
    clear hB24
    have x29 := x_b
    clear x25
    have y30 := y_b
    clear y26
    have px31 := px_b
    clear px27
    clear K1 K2 K3 K4 hB_d hB_a hB_b x_d x_a x_b y_d y_a y_b px_d px_a px_b hba hbb hoz
    clear p0 p1 p2 p3 pl pf r0 r1 r2 r3 rl rf
    obtain ⟨p0, p1, p2, p3, pl, pf⟩ := (⟨x29.cell 0, x29.cell 1, x29.cell 2, x29.cell 3, x29.lt, x29.frozen⟩ : _ ∧ _ ∧ _ ∧ _ ∧ _ ∧ _)
    obtain ⟨r0, r1, r2, r3, rl, rf⟩ := (⟨px31.cell 0, px31.cell 1, px31.cell 2, px31.cell 3, px31.lt, px31.frozen⟩ : _ ∧ _ ∧ _ ∧ _ ∧ _ ∧ _)
    go_wp2
    go_ret
    exact ⟨rfl, hB28⟩
end Go.Proofs.Ytehdbllpiokbnaa

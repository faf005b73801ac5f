/-
  What the program's AcquireConn answers. Condition: the lists lie in memory.
-/
import Derived.Test.YtehdbllpiokbnaaPlG
import Derived.Test.YtehdbllpiokbnaaPoolLawMath

namespace Go.Proofs.Ytehdbllpiokbnaa
open Go.RowKit Pol

theorem copyNumbers_len {A : Option Addr} {n c : Nat} {l : List Int} {w : World} (hl : l.length = n) (h : Sees w w.heap.size A (ints l)) (hn : l.length ≤ 4194304) :
    Calls Try.prog 83 #[.slice A n c] w fun e w' => ∃ v, e = .returned v ∧ Own w' w.heap.size v l ∧ Below w.heap.size w w' := by
  subst hl; exact copyNumbers_any A c l w h hn
set_option maxRecDepth 16384 in
set_option maxHeartbeats 4000000 in
theorem iAcquireConn_any (p : Pl) (A1 A2 A3 : Option Addr) (c1 c2 c3 : Nat) (o : Int) (w : World) (h : SeesP w w.heap.size A1 A2 A3 p) (hcap : p.idle.length ≤ c1) (h1 : p.idle.length ≤ 2097152) (h2 : p.held.length ≤ 2097152) (h3 : p.wait.length ≤ 2097152) :
    Calls Try.prog 98 #[.agg #[.int .i64 p.mx, .slice A1 p.idle.length c1, .slice A2 p.held.length c2, .slice A3 p.wait.length c3], .int .i64 o] w (PAns3 (acqR p o) (acqN p o) (acqB p o) w) := by
  obtain ⟨i0, hi0, hz0, hz1, hz2⟩ := info_parts intInfo
  obtain ⟨ih0, hih0, hzh0, hzh1, hzh2⟩ := info_parts holdInfo
  have H1 := hid h1
  have H2 := hid h2
  have H3 := hid h3
  clear h1 h2 h3
  rcases hk : okB p with _ | _
  · skip
    have hk2 : ¬ Ok p := fun e => by rw [okB_iff.2 e] at hk; cases hk
    have EB := hid (show acqB p o = false from Bool.eq_false_iff.2 fun e => by have := acqB_iff.1 e; exact hk2 this.1)
    have HK := hid hk
    clear hk
    have hB1 := Below.refl w.heap.size w
    have hB2 := hB1.alloc hB1.size (.cells #[.int .i64 p.mx, .slice A1 p.idle.length c1, .slice A2 p.held.length c2, .slice A3 p.wait.length c3] 30)
    clear hB1
    have x3 : At (w.alloc (.cells #[.int .i64 p.mx, .slice A1 p.idle.length c1, .slice A2 p.held.length c2, .slice A3 p.wait.length c3] 30)) (w.heap.size) 30 #[.int .i64 p.mx, .slice A1 p.idle.length c1, .slice A2 p.held.length c2, .slice A3 p.wait.length c3] := At.newAt _ _ (by first | rfl | (simp; done) | (simp; omega))
    have hB4 := hB2.alloc hB2.size (.cells #[.int .i64 0, .slice none 0 0, .slice none 0 0, .slice none 0 0] 30)
    have x5 := x3.alloc (.cells #[.int .i64 0, .slice none 0 0, .slice none 0 0, .slice none 0 0] 30)
    clear hB2 x3
    have r6 : At ((w.alloc (.cells #[.int .i64 p.mx, .slice A1 p.idle.length c1, .slice A2 p.held.length c2, .slice A3 p.wait.length c3] 30)).alloc (.cells #[.int .i64 0, .slice none 0 0, .slice none 0 0, .slice none 0 0] 30)) (w.heap.size + 1) 30 #[.int .i64 0, .slice none 0 0, .slice none 0 0, .slice none 0 0] := At.newAt _ _ (by first | rfl | (simp; done) | (simp; omega))
    go_enter Try.func98, Try.ntmps98
    obtain ⟨p0, p1, p2, p3, pl, pf⟩ := (⟨x5.cell 0, x5.cell 1, x5.cell 2, x5.cell 3, x5.lt, x5.frozen⟩ : _ ∧ _ ∧ _ ∧ _ ∧ _ ∧ _)
    obtain ⟨q0, q1, q2, q3, ql, qf⟩ := (⟨r6.cell 0, r6.cell 1, r6.cell 2, r6.cell 3, r6.lt, r6.frozen⟩ : _ ∧ _ ∧ _ ∧ _ ∧ _ ∧ _)
    go_wp2_with fail
    with_reducible refine (iValidPool_any p A1 A2 A3 c1 c2 c3 _ (h.on hB4) H1.out H2.out (Nat.le_trans H3.out (by decide))).mono ?_
    rintro e w1 ⟨he, hb1⟩
    rw [HK.out] at he
    subst he
    have sz1 : w.heap.size + 2 ≤ w1.heap.size := Nat.le_trans (by first | exact Nat.le_refl _ | (simp; done) | (simp; omega)) (hb1.size)
    have hB7 := hB4.trans (hb1.mono hB4.size)
    have x8 := x5.below hb1 x5.lt
    have r9 := r6.below hb1 r6.lt
    clear hB4 x5 r6
    clear p0 p1 p2 p3 pl pf q0 q1 q2 q3 ql qf
    obtain ⟨p0, p1, p2, p3, pl, pf⟩ := (⟨x8.cell 0, x8.cell 1, x8.cell 2, x8.cell 3, x8.lt, x8.frozen⟩ : _ ∧ _ ∧ _ ∧ _ ∧ _ ∧ _)
    obtain ⟨q0, q1, q2, q3, ql, qf⟩ := (⟨r9.cell 0, r9.cell 1, r9.cell 2, r9.cell 3, r9.lt, r9.frozen⟩ : _ ∧ _ ∧ _ ∧ _ ∧ _ ∧ _)
    have hB10 := below_put hB7 (grown_set w1 (w.heap.size + 1) 0 (.int .i64 0)) (by omega) (by have := hB7.size; omega)
    have x11 := x8.past (grown_set w1 (w.heap.size + 1) 0 (.int .i64 0)) (by omega)
    have r12 : At (w1.setCell ⟨w.heap.size + 1, 0, none⟩ (.int .i64 0)) (w.heap.size + 1) 30 #[.int .i64 0, .slice none 0 0, .slice none 0 0, .slice none 0 0] := by simpa using r9.set 0 (.int .i64 0)
    clear hB7 x8 r9
    have hB13 := below_put hB10 (grown_set (w1.setCell ⟨w.heap.size + 1, 0, none⟩ (.int .i64 0)) (w.heap.size + 1) 1 (.slice none 0 0)) (by omega) (by have := hB10.size; omega)
    have x14 := x11.past (grown_set (w1.setCell ⟨w.heap.size + 1, 0, none⟩ (.int .i64 0)) (w.heap.size + 1) 1 (.slice none 0 0)) (by omega)
    have r15 : At ((w1.setCell ⟨w.heap.size + 1, 0, none⟩ (.int .i64 0)).setCell ⟨w.heap.size + 1, 1, none⟩ (.slice none 0 0)) (w.heap.size + 1) 30 #[.int .i64 0, .slice none 0 0, .slice none 0 0, .slice none 0 0] := by simpa using r12.set 1 (.slice none 0 0)
    clear hB10 x11 r12
    have hB16 := below_put hB13 (grown_set ((w1.setCell ⟨w.heap.size + 1, 0, none⟩ (.int .i64 0)).setCell ⟨w.heap.size + 1, 1, none⟩ (.slice none 0 0)) (w.heap.size + 1) 2 (.slice none 0 0)) (by omega) (by have := hB13.size; omega)
    have x17 := x14.past (grown_set ((w1.setCell ⟨w.heap.size + 1, 0, none⟩ (.int .i64 0)).setCell ⟨w.heap.size + 1, 1, none⟩ (.slice none 0 0)) (w.heap.size + 1) 2 (.slice none 0 0)) (by omega)
    have r18 : At (((w1.setCell ⟨w.heap.size + 1, 0, none⟩ (.int .i64 0)).setCell ⟨w.heap.size + 1, 1, none⟩ (.slice none 0 0)).setCell ⟨w.heap.size + 1, 2, none⟩ (.slice none 0 0)) (w.heap.size + 1) 30 #[.int .i64 0, .slice none 0 0, .slice none 0 0, .slice none 0 0] := by simpa using r15.set 2 (.slice none 0 0)
    clear hB13 x14 r15
    have hB19 := below_put hB16 (grown_set (((w1.setCell ⟨w.heap.size + 1, 0, none⟩ (.int .i64 0)).setCell ⟨w.heap.size + 1, 1, none⟩ (.slice none 0 0)).setCell ⟨w.heap.size + 1, 2, none⟩ (.slice none 0 0)) (w.heap.size + 1) 3 (.slice none 0 0)) (by omega) (by have := hB16.size; omega)
    have x20 := x17.past (grown_set (((w1.setCell ⟨w.heap.size + 1, 0, none⟩ (.int .i64 0)).setCell ⟨w.heap.size + 1, 1, none⟩ (.slice none 0 0)).setCell ⟨w.heap.size + 1, 2, none⟩ (.slice none 0 0)) (w.heap.size + 1) 3 (.slice none 0 0)) (by omega)
    have r21 : At ((((w1.setCell ⟨w.heap.size + 1, 0, none⟩ (.int .i64 0)).setCell ⟨w.heap.size + 1, 1, none⟩ (.slice none 0 0)).setCell ⟨w.heap.size + 1, 2, none⟩ (.slice none 0 0)).setCell ⟨w.heap.size + 1, 3, none⟩ (.slice none 0 0)) (w.heap.size + 1) 30 #[.int .i64 0, .slice none 0 0, .slice none 0 0, .slice none 0 0] := by simpa using r18.set 3 (.slice none 0 0)
    clear hB16 x17 r18
    go_wp2
    refine bodyPost_ret (v := .tuple #[.agg #[.int .i64 0, .slice none 0 0, .slice none 0 0, .slice none 0 0], .int .i64 (-1), .bool false]) (by simp [results, Try.results98, go_sem, r21.cell]) rfl ?_
    exact (by rw [(acq_no EB.out).1, (acq_no EB.out).2, EB.out]; exact pans3_zero hB19)
  by_cases x1 : o < 0
  · skip
    have EB := hid (show acqB p o = false from Bool.eq_false_iff.2 fun e => by have := acqB_iff.1 e; omega)
    have HK := hid hk
    clear hk
    have hB22 := Below.refl w.heap.size w
    have hB23 := hB22.alloc hB22.size (.cells #[.int .i64 p.mx, .slice A1 p.idle.length c1, .slice A2 p.held.length c2, .slice A3 p.wait.length c3] 30)
    clear hB22
    have x24 : At (w.alloc (.cells #[.int .i64 p.mx, .slice A1 p.idle.length c1, .slice A2 p.held.length c2, .slice A3 p.wait.length c3] 30)) (w.heap.size) 30 #[.int .i64 p.mx, .slice A1 p.idle.length c1, .slice A2 p.held.length c2, .slice A3 p.wait.length c3] := At.newAt _ _ (by first | rfl | (simp; done) | (simp; omega))
    have hB25 := hB23.alloc hB23.size (.cells #[.int .i64 0, .slice none 0 0, .slice none 0 0, .slice none 0 0] 30)
    have x26 := x24.alloc (.cells #[.int .i64 0, .slice none 0 0, .slice none 0 0, .slice none 0 0] 30)
    clear hB23 x24
    have r27 : At ((w.alloc (.cells #[.int .i64 p.mx, .slice A1 p.idle.length c1, .slice A2 p.held.length c2, .slice A3 p.wait.length c3] 30)).alloc (.cells #[.int .i64 0, .slice none 0 0, .slice none 0 0, .slice none 0 0] 30)) (w.heap.size + 1) 30 #[.int .i64 0, .slice none 0 0, .slice none 0 0, .slice none 0 0] := At.newAt _ _ (by first | rfl | (simp; done) | (simp; omega))
    go_enter Try.func98, Try.ntmps98
    obtain ⟨p0, p1, p2, p3, pl, pf⟩ := (⟨x26.cell 0, x26.cell 1, x26.cell 2, x26.cell 3, x26.lt, x26.frozen⟩ : _ ∧ _ ∧ _ ∧ _ ∧ _ ∧ _)
    obtain ⟨q0, q1, q2, q3, ql, qf⟩ := (⟨r27.cell 0, r27.cell 1, r27.cell 2, r27.cell 3, r27.lt, r27.frozen⟩ : _ ∧ _ ∧ _ ∧ _ ∧ _ ∧ _)
    go_wp2_with fail
    with_reducible refine (iValidPool_any p A1 A2 A3 c1 c2 c3 _ (h.on hB25) H1.out H2.out (Nat.le_trans H3.out (by decide))).mono ?_
    rintro e w1 ⟨he, hb1⟩
    rw [HK.out] at he
    subst he
    have sz1 : w.heap.size + 2 ≤ w1.heap.size := Nat.le_trans (by first | exact Nat.le_refl _ | (simp; done) | (simp; omega)) (hb1.size)
    have hB28 := hB25.trans (hb1.mono hB25.size)
    have x29 := x26.below hb1 x26.lt
    have r30 := r27.below hb1 r27.lt
    clear hB25 x26 r27
    clear p0 p1 p2 p3 pl pf q0 q1 q2 q3 ql qf
    obtain ⟨p0, p1, p2, p3, pl, pf⟩ := (⟨x29.cell 0, x29.cell 1, x29.cell 2, x29.cell 3, x29.lt, x29.frozen⟩ : _ ∧ _ ∧ _ ∧ _ ∧ _ ∧ _)
    obtain ⟨q0, q1, q2, q3, ql, qf⟩ := (⟨r30.cell 0, r30.cell 1, r30.cell 2, r30.cell 3, r30.lt, r30.frozen⟩ : _ ∧ _ ∧ _ ∧ _ ∧ _ ∧ _)
    have hB31 := below_put hB28 (grown_set w1 (w.heap.size + 1) 0 (.int .i64 0)) (by omega) (by have := hB28.size; omega)
    have x32 := x29.past (grown_set w1 (w.heap.size + 1) 0 (.int .i64 0)) (by omega)
    have r33 : At (w1.setCell ⟨w.heap.size + 1, 0, none⟩ (.int .i64 0)) (w.heap.size + 1) 30 #[.int .i64 0, .slice none 0 0, .slice none 0 0, .slice none 0 0] := by simpa using r30.set 0 (.int .i64 0)
    clear hB28 x29 r30
    have hB34 := below_put hB31 (grown_set (w1.setCell ⟨w.heap.size + 1, 0, none⟩ (.int .i64 0)) (w.heap.size + 1) 1 (.slice none 0 0)) (by omega) (by have := hB31.size; omega)
    have x35 := x32.past (grown_set (w1.setCell ⟨w.heap.size + 1, 0, none⟩ (.int .i64 0)) (w.heap.size + 1) 1 (.slice none 0 0)) (by omega)
    have r36 : At ((w1.setCell ⟨w.heap.size + 1, 0, none⟩ (.int .i64 0)).setCell ⟨w.heap.size + 1, 1, none⟩ (.slice none 0 0)) (w.heap.size + 1) 30 #[.int .i64 0, .slice none 0 0, .slice none 0 0, .slice none 0 0] := by simpa using r33.set 1 (.slice none 0 0)
    clear hB31 x32 r33
    have hB37 := below_put hB34 (grown_set ((w1.setCell ⟨w.heap.size + 1, 0, none⟩ (.int .i64 0)).setCell ⟨w.heap.size + 1, 1, none⟩ (.slice none 0 0)) (w.heap.size + 1) 2 (.slice none 0 0)) (by omega) (by have := hB34.size; omega)
    have x38 := x35.past (grown_set ((w1.setCell ⟨w.heap.size + 1, 0, none⟩ (.int .i64 0)).setCell ⟨w.heap.size + 1, 1, none⟩ (.slice none 0 0)) (w.heap.size + 1) 2 (.slice none 0 0)) (by omega)
    have r39 : At (((w1.setCell ⟨w.heap.size + 1, 0, none⟩ (.int .i64 0)).setCell ⟨w.heap.size + 1, 1, none⟩ (.slice none 0 0)).setCell ⟨w.heap.size + 1, 2, none⟩ (.slice none 0 0)) (w.heap.size + 1) 30 #[.int .i64 0, .slice none 0 0, .slice none 0 0, .slice none 0 0] := by simpa using r36.set 2 (.slice none 0 0)
    clear hB34 x35 r36
    have hB40 := below_put hB37 (grown_set (((w1.setCell ⟨w.heap.size + 1, 0, none⟩ (.int .i64 0)).setCell ⟨w.heap.size + 1, 1, none⟩ (.slice none 0 0)).setCell ⟨w.heap.size + 1, 2, none⟩ (.slice none 0 0)) (w.heap.size + 1) 3 (.slice none 0 0)) (by omega) (by have := hB37.size; omega)
    have x41 := x38.past (grown_set (((w1.setCell ⟨w.heap.size + 1, 0, none⟩ (.int .i64 0)).setCell ⟨w.heap.size + 1, 1, none⟩ (.slice none 0 0)).setCell ⟨w.heap.size + 1, 2, none⟩ (.slice none 0 0)) (w.heap.size + 1) 3 (.slice none 0 0)) (by omega)
    have r42 : At ((((w1.setCell ⟨w.heap.size + 1, 0, none⟩ (.int .i64 0)).setCell ⟨w.heap.size + 1, 1, none⟩ (.slice none 0 0)).setCell ⟨w.heap.size + 1, 2, none⟩ (.slice none 0 0)).setCell ⟨w.heap.size + 1, 3, none⟩ (.slice none 0 0)) (w.heap.size + 1) 30 #[.int .i64 0, .slice none 0 0, .slice none 0 0, .slice none 0 0] := by simpa using r39.set 3 (.slice none 0 0)
    clear hB37 x38 r39
    go_wp2
    refine bodyPost_ret (v := .tuple #[.agg #[.int .i64 0, .slice none 0 0, .slice none 0 0, .slice none 0 0], .int .i64 (-1), .bool false]) (by simp [results, Try.results98, go_sem, r42.cell]) rfl ?_
    exact (by rw [(acq_no EB.out).1, (acq_no EB.out).2, EB.out]; exact pans3_zero hB40)
  by_cases x2 : o ≥ 5
  · skip
    have EB := hid (show acqB p o = false from Bool.eq_false_iff.2 fun e => by have := acqB_iff.1 e; omega)
    have HK := hid hk
    clear hk
    have hB43 := Below.refl w.heap.size w
    have hB44 := hB43.alloc hB43.size (.cells #[.int .i64 p.mx, .slice A1 p.idle.length c1, .slice A2 p.held.length c2, .slice A3 p.wait.length c3] 30)
    clear hB43
    have x45 : At (w.alloc (.cells #[.int .i64 p.mx, .slice A1 p.idle.length c1, .slice A2 p.held.length c2, .slice A3 p.wait.length c3] 30)) (w.heap.size) 30 #[.int .i64 p.mx, .slice A1 p.idle.length c1, .slice A2 p.held.length c2, .slice A3 p.wait.length c3] := At.newAt _ _ (by first | rfl | (simp; done) | (simp; omega))
    have hB46 := hB44.alloc hB44.size (.cells #[.int .i64 0, .slice none 0 0, .slice none 0 0, .slice none 0 0] 30)
    have x47 := x45.alloc (.cells #[.int .i64 0, .slice none 0 0, .slice none 0 0, .slice none 0 0] 30)
    clear hB44 x45
    have r48 : At ((w.alloc (.cells #[.int .i64 p.mx, .slice A1 p.idle.length c1, .slice A2 p.held.length c2, .slice A3 p.wait.length c3] 30)).alloc (.cells #[.int .i64 0, .slice none 0 0, .slice none 0 0, .slice none 0 0] 30)) (w.heap.size + 1) 30 #[.int .i64 0, .slice none 0 0, .slice none 0 0, .slice none 0 0] := At.newAt _ _ (by first | rfl | (simp; done) | (simp; omega))
    go_enter Try.func98, Try.ntmps98
    obtain ⟨p0, p1, p2, p3, pl, pf⟩ := (⟨x47.cell 0, x47.cell 1, x47.cell 2, x47.cell 3, x47.lt, x47.frozen⟩ : _ ∧ _ ∧ _ ∧ _ ∧ _ ∧ _)
    obtain ⟨q0, q1, q2, q3, ql, qf⟩ := (⟨r48.cell 0, r48.cell 1, r48.cell 2, r48.cell 3, r48.lt, r48.frozen⟩ : _ ∧ _ ∧ _ ∧ _ ∧ _ ∧ _)
    go_wp2_with fail
    with_reducible refine (iValidPool_any p A1 A2 A3 c1 c2 c3 _ (h.on hB46) H1.out H2.out (Nat.le_trans H3.out (by decide))).mono ?_
    rintro e w1 ⟨he, hb1⟩
    rw [HK.out] at he
    subst he
    have sz1 : w.heap.size + 2 ≤ w1.heap.size := Nat.le_trans (by first | exact Nat.le_refl _ | (simp; done) | (simp; omega)) (hb1.size)
    have hB49 := hB46.trans (hb1.mono hB46.size)
    have x50 := x47.below hb1 x47.lt
    have r51 := r48.below hb1 r48.lt
    clear hB46 x47 r48
    clear p0 p1 p2 p3 pl pf q0 q1 q2 q3 ql qf
    obtain ⟨p0, p1, p2, p3, pl, pf⟩ := (⟨x50.cell 0, x50.cell 1, x50.cell 2, x50.cell 3, x50.lt, x50.frozen⟩ : _ ∧ _ ∧ _ ∧ _ ∧ _ ∧ _)
    obtain ⟨q0, q1, q2, q3, ql, qf⟩ := (⟨r51.cell 0, r51.cell 1, r51.cell 2, r51.cell 3, r51.lt, r51.frozen⟩ : _ ∧ _ ∧ _ ∧ _ ∧ _ ∧ _)
    have hB52 := below_put hB49 (grown_set w1 (w.heap.size + 1) 0 (.int .i64 0)) (by omega) (by have := hB49.size; omega)
    have x53 := x50.past (grown_set w1 (w.heap.size + 1) 0 (.int .i64 0)) (by omega)
    have r54 : At (w1.setCell ⟨w.heap.size + 1, 0, none⟩ (.int .i64 0)) (w.heap.size + 1) 30 #[.int .i64 0, .slice none 0 0, .slice none 0 0, .slice none 0 0] := by simpa using r51.set 0 (.int .i64 0)
    clear hB49 x50 r51
    have hB55 := below_put hB52 (grown_set (w1.setCell ⟨w.heap.size + 1, 0, none⟩ (.int .i64 0)) (w.heap.size + 1) 1 (.slice none 0 0)) (by omega) (by have := hB52.size; omega)
    have x56 := x53.past (grown_set (w1.setCell ⟨w.heap.size + 1, 0, none⟩ (.int .i64 0)) (w.heap.size + 1) 1 (.slice none 0 0)) (by omega)
    have r57 : At ((w1.setCell ⟨w.heap.size + 1, 0, none⟩ (.int .i64 0)).setCell ⟨w.heap.size + 1, 1, none⟩ (.slice none 0 0)) (w.heap.size + 1) 30 #[.int .i64 0, .slice none 0 0, .slice none 0 0, .slice none 0 0] := by simpa using r54.set 1 (.slice none 0 0)
    clear hB52 x53 r54
    have hB58 := below_put hB55 (grown_set ((w1.setCell ⟨w.heap.size + 1, 0, none⟩ (.int .i64 0)).setCell ⟨w.heap.size + 1, 1, none⟩ (.slice none 0 0)) (w.heap.size + 1) 2 (.slice none 0 0)) (by omega) (by have := hB55.size; omega)
    have x59 := x56.past (grown_set ((w1.setCell ⟨w.heap.size + 1, 0, none⟩ (.int .i64 0)).setCell ⟨w.heap.size + 1, 1, none⟩ (.slice none 0 0)) (w.heap.size + 1) 2 (.slice none 0 0)) (by omega)
    have r60 : At (((w1.setCell ⟨w.heap.size + 1, 0, none⟩ (.int .i64 0)).setCell ⟨w.heap.size + 1, 1, none⟩ (.slice none 0 0)).setCell ⟨w.heap.size + 1, 2, none⟩ (.slice none 0 0)) (w.heap.size + 1) 30 #[.int .i64 0, .slice none 0 0, .slice none 0 0, .slice none 0 0] := by simpa using r57.set 2 (.slice none 0 0)
    clear hB55 x56 r57
    have hB61 := below_put hB58 (grown_set (((w1.setCell ⟨w.heap.size + 1, 0, none⟩ (.int .i64 0)).setCell ⟨w.heap.size + 1, 1, none⟩ (.slice none 0 0)).setCell ⟨w.heap.size + 1, 2, none⟩ (.slice none 0 0)) (w.heap.size + 1) 3 (.slice none 0 0)) (by omega) (by have := hB58.size; omega)
    have x62 := x59.past (grown_set (((w1.setCell ⟨w.heap.size + 1, 0, none⟩ (.int .i64 0)).setCell ⟨w.heap.size + 1, 1, none⟩ (.slice none 0 0)).setCell ⟨w.heap.size + 1, 2, none⟩ (.slice none 0 0)) (w.heap.size + 1) 3 (.slice none 0 0)) (by omega)
    have r63 : At ((((w1.setCell ⟨w.heap.size + 1, 0, none⟩ (.int .i64 0)).setCell ⟨w.heap.size + 1, 1, none⟩ (.slice none 0 0)).setCell ⟨w.heap.size + 1, 2, none⟩ (.slice none 0 0)).setCell ⟨w.heap.size + 1, 3, none⟩ (.slice none 0 0)) (w.heap.size + 1) 30 #[.int .i64 0, .slice none 0 0, .slice none 0 0, .slice none 0 0] := by simpa using r60.set 3 (.slice none 0 0)
    clear hB58 x59 r60
    go_wp2
    refine bodyPost_ret (v := .tuple #[.agg #[.int .i64 0, .slice none 0 0, .slice none 0 0, .slice none 0 0], .int .i64 (-1), .bool false]) (by simp [results, Try.results98, go_sem, r63.cell]) rfl ?_
    exact (by rw [(acq_no EB.out).1, (acq_no EB.out).2, EB.out]; exact pans3_zero hB61)
  have hok := okB_iff.1 hk
  have hmx : p.mx ≤ 6 := hok.1.2
  have HK := hid hk
  clear hk
  by_cases x3 : (p.held.length : Int) = p.mx
  · skip
    have x3b : ((p.held.length : Int) == p.mx) = true := by simpa using x3
    have hf : fullB p = true := fullB_iff.2 x3
    clear x3
    by_cases x4 : (p.wait.length : Int) = 12
    · skip
      have EB := hid (show acqB p o = false from Bool.eq_false_iff.2 fun e => by have := acqB_iff.1 e; exact this.2.2 ⟨hf, by omega⟩)
      have X4 := hid x4
      clear x4 hok hf
      have hB64 := Below.refl w.heap.size w
      have hB65 := hB64.alloc hB64.size (.cells #[.int .i64 p.mx, .slice A1 p.idle.length c1, .slice A2 p.held.length c2, .slice A3 p.wait.length c3] 30)
      clear hB64
      have x66 : At (w.alloc (.cells #[.int .i64 p.mx, .slice A1 p.idle.length c1, .slice A2 p.held.length c2, .slice A3 p.wait.length c3] 30)) (w.heap.size) 30 #[.int .i64 p.mx, .slice A1 p.idle.length c1, .slice A2 p.held.length c2, .slice A3 p.wait.length c3] := At.newAt _ _ (by first | rfl | (simp; done) | (simp; omega))
      have hB67 := hB65.alloc hB65.size (.cells #[.int .i64 0, .slice none 0 0, .slice none 0 0, .slice none 0 0] 30)
      have x68 := x66.alloc (.cells #[.int .i64 0, .slice none 0 0, .slice none 0 0, .slice none 0 0] 30)
      clear hB65 x66
      have r69 : At ((w.alloc (.cells #[.int .i64 p.mx, .slice A1 p.idle.length c1, .slice A2 p.held.length c2, .slice A3 p.wait.length c3] 30)).alloc (.cells #[.int .i64 0, .slice none 0 0, .slice none 0 0, .slice none 0 0] 30)) (w.heap.size + 1) 30 #[.int .i64 0, .slice none 0 0, .slice none 0 0, .slice none 0 0] := At.newAt _ _ (by first | rfl | (simp; done) | (simp; omega))
      go_enter Try.func98, Try.ntmps98
      obtain ⟨p0, p1, p2, p3, pl, pf⟩ := (⟨x68.cell 0, x68.cell 1, x68.cell 2, x68.cell 3, x68.lt, x68.frozen⟩ : _ ∧ _ ∧ _ ∧ _ ∧ _ ∧ _)
      obtain ⟨q0, q1, q2, q3, ql, qf⟩ := (⟨r69.cell 0, r69.cell 1, r69.cell 2, r69.cell 3, r69.lt, r69.frozen⟩ : _ ∧ _ ∧ _ ∧ _ ∧ _ ∧ _)
      go_wp2_with fail
      with_reducible refine (iValidPool_any p A1 A2 A3 c1 c2 c3 _ (h.on hB67) H1.out H2.out (Nat.le_trans H3.out (by decide))).mono ?_
      rintro e w1 ⟨he, hb1⟩
      rw [HK.out] at he
      subst he
      have sz1 : w.heap.size + 2 ≤ w1.heap.size := Nat.le_trans (by first | exact Nat.le_refl _ | (simp; done) | (simp; omega)) (hb1.size)
      have hB70 := hB67.trans (hb1.mono hB67.size)
      have x71 := x68.below hb1 x68.lt
      have r72 := r69.below hb1 r69.lt
      clear hB67 x68 r69
      clear p0 p1 p2 p3 pl pf q0 q1 q2 q3 ql qf
      obtain ⟨p0, p1, p2, p3, pl, pf⟩ := (⟨x71.cell 0, x71.cell 1, x71.cell 2, x71.cell 3, x71.lt, x71.frozen⟩ : _ ∧ _ ∧ _ ∧ _ ∧ _ ∧ _)
      obtain ⟨q0, q1, q2, q3, ql, qf⟩ := (⟨r72.cell 0, r72.cell 1, r72.cell 2, r72.cell 3, r72.lt, r72.frozen⟩ : _ ∧ _ ∧ _ ∧ _ ∧ _ ∧ _)
      go_wp2_with fail
      with_reducible refine (joinWait_full p A1 A2 A3 c1 c2 c3 o _ (h.on hB70) X4.out).mono ?_
      rintro e w2 ⟨rfl, hb2⟩
      have sz2 : w1.heap.size ≤ w2.heap.size := Nat.le_trans (by first | exact Nat.le_refl _ | (simp; done) | (simp; omega)) (hb2.size)
      have hB73 := hB70.trans (hb2.mono hB70.size)
      have x74 := x71.below hb2 x71.lt
      have r75 := r72.below hb2 r72.lt
      clear hB70 x71 r72
      clear p0 p1 p2 p3 pl pf q0 q1 q2 q3 ql qf
      obtain ⟨p0, p1, p2, p3, pl, pf⟩ := (⟨x74.cell 0, x74.cell 1, x74.cell 2, x74.cell 3, x74.lt, x74.frozen⟩ : _ ∧ _ ∧ _ ∧ _ ∧ _ ∧ _)
      obtain ⟨q0, q1, q2, q3, ql, qf⟩ := (⟨r75.cell 0, r75.cell 1, r75.cell 2, r75.cell 3, r75.lt, r75.frozen⟩ : _ ∧ _ ∧ _ ∧ _ ∧ _ ∧ _)
      have hB76 := below_put hB73 (grown_set w2 (w.heap.size + 1) 0 (.int .i64 0)) (by omega) (by have := hB73.size; omega)
      have x77 := x74.past (grown_set w2 (w.heap.size + 1) 0 (.int .i64 0)) (by omega)
      have r78 : At (w2.setCell ⟨w.heap.size + 1, 0, none⟩ (.int .i64 0)) (w.heap.size + 1) 30 #[.int .i64 0, .slice none 0 0, .slice none 0 0, .slice none 0 0] := by simpa using r75.set 0 (.int .i64 0)
      clear hB73 x74 r75
      have hB79 := below_put hB76 (grown_set (w2.setCell ⟨w.heap.size + 1, 0, none⟩ (.int .i64 0)) (w.heap.size + 1) 1 (.slice none 0 0)) (by omega) (by have := hB76.size; omega)
      have x80 := x77.past (grown_set (w2.setCell ⟨w.heap.size + 1, 0, none⟩ (.int .i64 0)) (w.heap.size + 1) 1 (.slice none 0 0)) (by omega)
      have r81 : At ((w2.setCell ⟨w.heap.size + 1, 0, none⟩ (.int .i64 0)).setCell ⟨w.heap.size + 1, 1, none⟩ (.slice none 0 0)) (w.heap.size + 1) 30 #[.int .i64 0, .slice none 0 0, .slice none 0 0, .slice none 0 0] := by simpa using r78.set 1 (.slice none 0 0)
      clear hB76 x77 r78
      have hB82 := below_put hB79 (grown_set ((w2.setCell ⟨w.heap.size + 1, 0, none⟩ (.int .i64 0)).setCell ⟨w.heap.size + 1, 1, none⟩ (.slice none 0 0)) (w.heap.size + 1) 2 (.slice none 0 0)) (by omega) (by have := hB79.size; omega)
      have x83 := x80.past (grown_set ((w2.setCell ⟨w.heap.size + 1, 0, none⟩ (.int .i64 0)).setCell ⟨w.heap.size + 1, 1, none⟩ (.slice none 0 0)) (w.heap.size + 1) 2 (.slice none 0 0)) (by omega)
      have r84 : At (((w2.setCell ⟨w.heap.size + 1, 0, none⟩ (.int .i64 0)).setCell ⟨w.heap.size + 1, 1, none⟩ (.slice none 0 0)).setCell ⟨w.heap.size + 1, 2, none⟩ (.slice none 0 0)) (w.heap.size + 1) 30 #[.int .i64 0, .slice none 0 0, .slice none 0 0, .slice none 0 0] := by simpa using r81.set 2 (.slice none 0 0)
      clear hB79 x80 r81
      have hB85 := below_put hB82 (grown_set (((w2.setCell ⟨w.heap.size + 1, 0, none⟩ (.int .i64 0)).setCell ⟨w.heap.size + 1, 1, none⟩ (.slice none 0 0)).setCell ⟨w.heap.size + 1, 2, none⟩ (.slice none 0 0)) (w.heap.size + 1) 3 (.slice none 0 0)) (by omega) (by have := hB82.size; omega)
      have x86 := x83.past (grown_set (((w2.setCell ⟨w.heap.size + 1, 0, none⟩ (.int .i64 0)).setCell ⟨w.heap.size + 1, 1, none⟩ (.slice none 0 0)).setCell ⟨w.heap.size + 1, 2, none⟩ (.slice none 0 0)) (w.heap.size + 1) 3 (.slice none 0 0)) (by omega)
      have r87 : At ((((w2.setCell ⟨w.heap.size + 1, 0, none⟩ (.int .i64 0)).setCell ⟨w.heap.size + 1, 1, none⟩ (.slice none 0 0)).setCell ⟨w.heap.size + 1, 2, none⟩ (.slice none 0 0)).setCell ⟨w.heap.size + 1, 3, none⟩ (.slice none 0 0)) (w.heap.size + 1) 30 #[.int .i64 0, .slice none 0 0, .slice none 0 0, .slice none 0 0] := by simpa using r84.set 3 (.slice none 0 0)
      clear hB82 x83 r84
      go_wp2
      refine bodyPost_ret (v := .tuple #[.agg #[.int .i64 0, .slice none 0 0, .slice none 0 0, .slice none 0 0], .int .i64 (-1), .bool false]) (by simp [results, Try.results98, go_sem, r87.cell]) rfl ?_
      exact (by rw [(acq_no EB.out).1, (acq_no EB.out).2, EB.out]; exact pans3_zero hB85)
    · skip
      have hb : acqB p o = true := acqB_iff.2 ⟨hok, ⟨by omega, by omega⟩, fun e => x4 (by omega)⟩
      have EB := hid hb
      obtain ⟨e1, e2⟩ := acq_full hb hf
      have E1 := hid e1
      have E2 := hid e2
      have X4 := hid x4
      clear x4 hok hf e1 e2 hb
      have hB88 := Below.refl w.heap.size w
      have hB89 := hB88.alloc hB88.size (.cells #[.int .i64 p.mx, .slice A1 p.idle.length c1, .slice A2 p.held.length c2, .slice A3 p.wait.length c3] 30)
      clear hB88
      have x90 : At (w.alloc (.cells #[.int .i64 p.mx, .slice A1 p.idle.length c1, .slice A2 p.held.length c2, .slice A3 p.wait.length c3] 30)) (w.heap.size) 30 #[.int .i64 p.mx, .slice A1 p.idle.length c1, .slice A2 p.held.length c2, .slice A3 p.wait.length c3] := At.newAt _ _ (by first | rfl | (simp; done) | (simp; omega))
      have hB91 := hB89.alloc hB89.size (.cells #[.int .i64 0, .slice none 0 0, .slice none 0 0, .slice none 0 0] 30)
      have x92 := x90.alloc (.cells #[.int .i64 0, .slice none 0 0, .slice none 0 0, .slice none 0 0] 30)
      clear hB89 x90
      have r93 : At ((w.alloc (.cells #[.int .i64 p.mx, .slice A1 p.idle.length c1, .slice A2 p.held.length c2, .slice A3 p.wait.length c3] 30)).alloc (.cells #[.int .i64 0, .slice none 0 0, .slice none 0 0, .slice none 0 0] 30)) (w.heap.size + 1) 30 #[.int .i64 0, .slice none 0 0, .slice none 0 0, .slice none 0 0] := At.newAt _ _ (by first | rfl | (simp; done) | (simp; omega))
      go_enter Try.func98, Try.ntmps98
      obtain ⟨p0, p1, p2, p3, pl, pf⟩ := (⟨x92.cell 0, x92.cell 1, x92.cell 2, x92.cell 3, x92.lt, x92.frozen⟩ : _ ∧ _ ∧ _ ∧ _ ∧ _ ∧ _)
      obtain ⟨q0, q1, q2, q3, ql, qf⟩ := (⟨r93.cell 0, r93.cell 1, r93.cell 2, r93.cell 3, r93.lt, r93.frozen⟩ : _ ∧ _ ∧ _ ∧ _ ∧ _ ∧ _)
      go_wp2_with fail
      with_reducible refine (iValidPool_any p A1 A2 A3 c1 c2 c3 _ (h.on hB91) H1.out H2.out (Nat.le_trans H3.out (by decide))).mono ?_
      rintro e w1 ⟨he, hb1⟩
      rw [HK.out] at he
      subst he
      have sz1 : w.heap.size + 2 ≤ w1.heap.size := Nat.le_trans (by first | exact Nat.le_refl _ | (simp; done) | (simp; omega)) (hb1.size)
      have hB94 := hB91.trans (hb1.mono hB91.size)
      have x95 := x92.below hb1 x92.lt
      have r96 := r93.below hb1 r93.lt
      clear hB91 x92 r93
      clear p0 p1 p2 p3 pl pf q0 q1 q2 q3 ql qf
      obtain ⟨p0, p1, p2, p3, pl, pf⟩ := (⟨x95.cell 0, x95.cell 1, x95.cell 2, x95.cell 3, x95.lt, x95.frozen⟩ : _ ∧ _ ∧ _ ∧ _ ∧ _ ∧ _)
      obtain ⟨q0, q1, q2, q3, ql, qf⟩ := (⟨r96.cell 0, r96.cell 1, r96.cell 2, r96.cell 3, r96.lt, r96.frozen⟩ : _ ∧ _ ∧ _ ∧ _ ∧ _ ∧ _)
      go_wp2_with fail
      with_reducible refine (joinWait_ok p A1 A2 A3 c1 c2 c3 o _ (h.on hB94) X4.out H1.out H2.out H3.out).mono ?_
      rintro e w2 ⟨B1, B2, B3, d1, d2, d3, rfl, ho, hb2⟩
      have sz2 : w1.heap.size ≤ w2.heap.size := Nat.le_trans (by first | exact Nat.le_refl _ | (simp; done) | (simp; omega)) (hb2.size)
      have hB97 := hB94.trans (hb2.mono hB94.size)
      have x98 := x95.below hb2 x95.lt
      have r99 := r96.below hb2 r96.lt
      clear hB94 x95 r96
      clear p0 p1 p2 p3 pl pf q0 q1 q2 q3 ql qf
      have o100 := ho.mono (show w.heap.size + 2 ≤ _ by omega)
      clear ho
      obtain ⟨p0, p1, p2, p3, pl, pf⟩ := (⟨x98.cell 0, x98.cell 1, x98.cell 2, x98.cell 3, x98.lt, x98.frozen⟩ : _ ∧ _ ∧ _ ∧ _ ∧ _ ∧ _)
      obtain ⟨q0, q1, q2, q3, ql, qf⟩ := (⟨r99.cell 0, r99.cell 1, r99.cell 2, r99.cell 3, r99.lt, r99.frozen⟩ : _ ∧ _ ∧ _ ∧ _ ∧ _ ∧ _)
      have hB101 := below_put hB97 (grown_set w2 (w.heap.size + 1) 0 (.int .i64 p.mx)) (by omega) (by have := hB97.size; omega)
      have x102 := x98.past (grown_set w2 (w.heap.size + 1) 0 (.int .i64 p.mx)) (by omega)
      have o103 := o100.past r99 (grown_set w2 (w.heap.size + 1) 0 (.int .i64 p.mx))
      have r104 : At (w2.setCell ⟨w.heap.size + 1, 0, none⟩ (.int .i64 p.mx)) (w.heap.size + 1) 30 #[.int .i64 p.mx, .slice none 0 0, .slice none 0 0, .slice none 0 0] := by simpa using r99.set 0 (.int .i64 p.mx)
      clear hB97 x98 o100 r99
      have hB105 := below_put hB101 (grown_set (w2.setCell ⟨w.heap.size + 1, 0, none⟩ (.int .i64 p.mx)) (w.heap.size + 1) 1 (.slice B1 p.idle.length d1)) (by omega) (by have := hB101.size; omega)
      have x106 := x102.past (grown_set (w2.setCell ⟨w.heap.size + 1, 0, none⟩ (.int .i64 p.mx)) (w.heap.size + 1) 1 (.slice B1 p.idle.length d1)) (by omega)
      have o107 := o103.past r104 (grown_set (w2.setCell ⟨w.heap.size + 1, 0, none⟩ (.int .i64 p.mx)) (w.heap.size + 1) 1 (.slice B1 p.idle.length d1))
      have r108 : At ((w2.setCell ⟨w.heap.size + 1, 0, none⟩ (.int .i64 p.mx)).setCell ⟨w.heap.size + 1, 1, none⟩ (.slice B1 p.idle.length d1)) (w.heap.size + 1) 30 #[.int .i64 p.mx, .slice B1 p.idle.length d1, .slice none 0 0, .slice none 0 0] := by simpa using r104.set 1 (.slice B1 p.idle.length d1)
      clear hB101 x102 o103 r104
      have hB109 := below_put hB105 (grown_set ((w2.setCell ⟨w.heap.size + 1, 0, none⟩ (.int .i64 p.mx)).setCell ⟨w.heap.size + 1, 1, none⟩ (.slice B1 p.idle.length d1)) (w.heap.size + 1) 2 (.slice B2 p.held.length d2)) (by omega) (by have := hB105.size; omega)
      have x110 := x106.past (grown_set ((w2.setCell ⟨w.heap.size + 1, 0, none⟩ (.int .i64 p.mx)).setCell ⟨w.heap.size + 1, 1, none⟩ (.slice B1 p.idle.length d1)) (w.heap.size + 1) 2 (.slice B2 p.held.length d2)) (by omega)
      have o111 := o107.past r108 (grown_set ((w2.setCell ⟨w.heap.size + 1, 0, none⟩ (.int .i64 p.mx)).setCell ⟨w.heap.size + 1, 1, none⟩ (.slice B1 p.idle.length d1)) (w.heap.size + 1) 2 (.slice B2 p.held.length d2))
      have r112 : At (((w2.setCell ⟨w.heap.size + 1, 0, none⟩ (.int .i64 p.mx)).setCell ⟨w.heap.size + 1, 1, none⟩ (.slice B1 p.idle.length d1)).setCell ⟨w.heap.size + 1, 2, none⟩ (.slice B2 p.held.length d2)) (w.heap.size + 1) 30 #[.int .i64 p.mx, .slice B1 p.idle.length d1, .slice B2 p.held.length d2, .slice none 0 0] := by simpa using r108.set 2 (.slice B2 p.held.length d2)
      clear hB105 x106 o107 r108
      have hB113 := below_put hB109 (grown_set (((w2.setCell ⟨w.heap.size + 1, 0, none⟩ (.int .i64 p.mx)).setCell ⟨w.heap.size + 1, 1, none⟩ (.slice B1 p.idle.length d1)).setCell ⟨w.heap.size + 1, 2, none⟩ (.slice B2 p.held.length d2)) (w.heap.size + 1) 3 (.slice B3 (p.wait.length + 1) d3)) (by omega) (by have := hB109.size; omega)
      have x114 := x110.past (grown_set (((w2.setCell ⟨w.heap.size + 1, 0, none⟩ (.int .i64 p.mx)).setCell ⟨w.heap.size + 1, 1, none⟩ (.slice B1 p.idle.length d1)).setCell ⟨w.heap.size + 1, 2, none⟩ (.slice B2 p.held.length d2)) (w.heap.size + 1) 3 (.slice B3 (p.wait.length + 1) d3)) (by omega)
      have o115 := o111.past r112 (grown_set (((w2.setCell ⟨w.heap.size + 1, 0, none⟩ (.int .i64 p.mx)).setCell ⟨w.heap.size + 1, 1, none⟩ (.slice B1 p.idle.length d1)).setCell ⟨w.heap.size + 1, 2, none⟩ (.slice B2 p.held.length d2)) (w.heap.size + 1) 3 (.slice B3 (p.wait.length + 1) d3))
      have r116 : At ((((w2.setCell ⟨w.heap.size + 1, 0, none⟩ (.int .i64 p.mx)).setCell ⟨w.heap.size + 1, 1, none⟩ (.slice B1 p.idle.length d1)).setCell ⟨w.heap.size + 1, 2, none⟩ (.slice B2 p.held.length d2)).setCell ⟨w.heap.size + 1, 3, none⟩ (.slice B3 (p.wait.length + 1) d3)) (w.heap.size + 1) 30 #[.int .i64 p.mx, .slice B1 p.idle.length d1, .slice B2 p.held.length d2, .slice B3 (p.wait.length + 1) d3] := by simpa using r112.set 3 (.slice B3 (p.wait.length + 1) d3)
      clear hB109 x110 o111 r112
      go_wp2
      refine bodyPost_ret (v := .tuple #[.agg #[.int .i64 p.mx, .slice B1 p.idle.length d1, .slice B2 p.held.length d2, .slice B3 (p.wait.length + 1) d3], .int .i64 (-1), .bool true]) (by simp [results, Try.results98, go_sem, r116.cell]) rfl ?_
      rw [E1.out, E2.out, EB.out]
      exact ⟨B1, B2, B3, d1, d2, d3, by simp [List.length_append], (by simpa [List.length_append] using o115.mono (show w.heap.size ≤ w.heap.size + 2 by omega)), hB113⟩
  · skip
    have x3b : ((p.held.length : Int) == p.mx) = false := by simpa using x3
    have hf : fullB p = false := fullB_no.2 x3
    have hb : acqB p o = true := acqB_iff.2 ⟨hok, ⟨by omega, by omega⟩, fun e => by rw [hf] at e; cases e.1⟩
    have EB := hid hb
    obtain ⟨e1, e2, e3, e4⟩ := acq_one hb hf
    have E1 := hid e1
    have E2 := hid e2
    clear x3 hok hf e1 e2 e3 e4 hb
    rcases Nat.eq_zero_or_pos p.idle.length with hI | hI
    · skip
      have hl0 := hI
      replace hI := List.eq_nil_of_length_eq_zero hI
      have HD := hid (show p.idle.dropLast = p.idle by rw [hI]; rfl)
      have hp : pickC p = closed p := by unfold pickC; rw [hI]; rfl
      clear hI
      obtain ⟨C, hC⟩ : ∃ C, C = closed p := ⟨_, rfl⟩
      rw [← hC] at hp
      have HC := hid hC.symm
      have HP := hid hp
      clear hC hp
      have hgt : ¬ (p.idle.length : Int) > 0 := by omega
      clear hl0
      have hB117 := Below.refl w.heap.size w
      have hB118 := hB117.alloc hB117.size (.cells #[.int .i64 p.mx, .slice A1 p.idle.length c1, .slice A2 p.held.length c2, .slice A3 p.wait.length c3] 30)
      clear hB117
      have x119 : At (w.alloc (.cells #[.int .i64 p.mx, .slice A1 p.idle.length c1, .slice A2 p.held.length c2, .slice A3 p.wait.length c3] 30)) (w.heap.size) 30 #[.int .i64 p.mx, .slice A1 p.idle.length c1, .slice A2 p.held.length c2, .slice A3 p.wait.length c3] := At.newAt _ _ (by first | rfl | (simp; done) | (simp; omega))
      have hB120 := hB118.alloc hB118.size (.cells #[.int .i64 0, .slice none 0 0, .slice none 0 0, .slice none 0 0] 30)
      have x121 := x119.alloc (.cells #[.int .i64 0, .slice none 0 0, .slice none 0 0, .slice none 0 0] 30)
      clear hB118 x119
      have r122 : At ((w.alloc (.cells #[.int .i64 p.mx, .slice A1 p.idle.length c1, .slice A2 p.held.length c2, .slice A3 p.wait.length c3] 30)).alloc (.cells #[.int .i64 0, .slice none 0 0, .slice none 0 0, .slice none 0 0] 30)) (w.heap.size + 1) 30 #[.int .i64 0, .slice none 0 0, .slice none 0 0, .slice none 0 0] := At.newAt _ _ (by first | rfl | (simp; done) | (simp; omega))
      go_enter Try.func98, Try.ntmps98
      obtain ⟨p0, p1, p2, p3, pl, pf⟩ := (⟨x121.cell 0, x121.cell 1, x121.cell 2, x121.cell 3, x121.lt, x121.frozen⟩ : _ ∧ _ ∧ _ ∧ _ ∧ _ ∧ _)
      obtain ⟨q0, q1, q2, q3, ql, qf⟩ := (⟨r122.cell 0, r122.cell 1, r122.cell 2, r122.cell 3, r122.lt, r122.frozen⟩ : _ ∧ _ ∧ _ ∧ _ ∧ _ ∧ _)
      go_wp2_with fail
      with_reducible refine (iValidPool_any p A1 A2 A3 c1 c2 c3 _ (h.on hB120) H1.out H2.out (Nat.le_trans H3.out (by decide))).mono ?_
      rintro e w1 ⟨he, hb1⟩
      rw [HK.out] at he
      subst he
      have sz1 : w.heap.size + 2 ≤ w1.heap.size := Nat.le_trans (by first | exact Nat.le_refl _ | (simp; done) | (simp; omega)) (hb1.size)
      have hB123 := hB120.trans (hb1.mono hB120.size)
      have x124 := x121.below hb1 x121.lt
      have r125 := r122.below hb1 r122.lt
      clear hB120 x121 r122
      clear p0 p1 p2 p3 pl pf q0 q1 q2 q3 ql qf
      obtain ⟨p0, p1, p2, p3, pl, pf⟩ := (⟨x124.cell 0, x124.cell 1, x124.cell 2, x124.cell 3, x124.lt, x124.frozen⟩ : _ ∧ _ ∧ _ ∧ _ ∧ _ ∧ _)
      obtain ⟨q0, q1, q2, q3, ql, qf⟩ := (⟨r125.cell 0, r125.cell 1, r125.cell 2, r125.cell 3, r125.lt, r125.frozen⟩ : _ ∧ _ ∧ _ ∧ _ ∧ _ ∧ _)
      go_wp2_with fail
      with_reducible refine (icopyPool_any p A1 A2 A3 c1 c2 c3 _ (h.on hB123) (Nat.le_trans H1.out (by decide)) (Nat.le_trans H2.out (by decide)) (Nat.le_trans H3.out (by decide))).mono ?_
      rintro e w2 ⟨B1, B2, B3, d1, d2, d3, rfl, ho, hb2⟩
      have sz2 : w1.heap.size ≤ w2.heap.size := Nat.le_trans (by first | exact Nat.le_refl _ | (simp; done) | (simp; omega)) (hb2.size)
      have hB126 := hB123.trans (hb2.mono hB123.size)
      have x127 := x124.below hb2 x124.lt
      have r128 := r125.below hb2 r125.lt
      clear hB123 x124 r125
      clear p0 p1 p2 p3 pl pf q0 q1 q2 q3 ql qf
      have o129 := ho.mono (show w.heap.size + 2 ≤ _ by omega)
      clear ho
      obtain ⟨p0, p1, p2, p3, pl, pf⟩ := (⟨x127.cell 0, x127.cell 1, x127.cell 2, x127.cell 3, x127.lt, x127.frozen⟩ : _ ∧ _ ∧ _ ∧ _ ∧ _ ∧ _)
      obtain ⟨q0, q1, q2, q3, ql, qf⟩ := (⟨r128.cell 0, r128.cell 1, r128.cell 2, r128.cell 3, r128.lt, r128.frozen⟩ : _ ∧ _ ∧ _ ∧ _ ∧ _ ∧ _)
      have hB130 := hB126.alloc hB126.size (.cells #[.int .i64 p.mx, .slice B1 p.idle.length d1, .slice B2 p.held.length d2, .slice B3 p.wait.length d3] 30)
      have x131 := x127.alloc (.cells #[.int .i64 p.mx, .slice B1 p.idle.length d1, .slice B2 p.held.length d2, .slice B3 p.wait.length d3] 30)
      have r132 := r128.alloc (.cells #[.int .i64 p.mx, .slice B1 p.idle.length d1, .slice B2 p.held.length d2, .slice B3 p.wait.length d3] 30)
      have o133 := o129.alloc (.cells #[.int .i64 p.mx, .slice B1 p.idle.length d1, .slice B2 p.held.length d2, .slice B3 p.wait.length d3] 30)
      clear hB126 x127 r128 o129
      have t134 : At (w2.alloc (.cells #[.int .i64 p.mx, .slice B1 p.idle.length d1, .slice B2 p.held.length d2, .slice B3 p.wait.length d3] 30)) (w2.heap.size) 30 #[.int .i64 p.mx, .slice B1 p.idle.length d1, .slice B2 p.held.length d2, .slice B3 p.wait.length d3] := At.newAt _ _ (by first | rfl | (simp; done) | (simp; omega))
      go_wp2_with fail
      with_reducible refine (leastClosed_any p A1 A2 A3 c1 c2 c3 _ (h.on hB130) H1.out H2.out hmx).mono ?_
      rintro e w3 ⟨he, hb3⟩
      rw [HC.out] at he
      subst he
      have sz3 : w2.heap.size + 1 ≤ w3.heap.size := Nat.le_trans (by first | exact Nat.le_refl _ | (simp; done) | (simp; omega)) (hb3.size)
      have hB135 := hB130.trans (hb3.mono hB130.size)
      have x136 := x131.below hb3 x131.lt
      have r137 := r132.below hb3 r132.lt
      have o138 := o133.below hb3
      have t139 := t134.below hb3 t134.lt
      clear hB130 x131 r132 o133 t134
      clear p0 p1 p2 p3 pl pf q0 q1 q2 q3 ql qf
      obtain ⟨p0, p1, p2, p3, pl, pf⟩ := (⟨x136.cell 0, x136.cell 1, x136.cell 2, x136.cell 3, x136.lt, x136.frozen⟩ : _ ∧ _ ∧ _ ∧ _ ∧ _ ∧ _)
      obtain ⟨q0, q1, q2, q3, ql, qf⟩ := (⟨r137.cell 0, r137.cell 1, r137.cell 2, r137.cell 3, r137.lt, r137.frozen⟩ : _ ∧ _ ∧ _ ∧ _ ∧ _ ∧ _)
      obtain ⟨t0, t1, t2, t3, tl, tf⟩ := (⟨t139.cell 0, t139.cell 1, t139.cell 2, t139.cell 3, t139.lt, t139.frozen⟩ : _ ∧ _ ∧ _ ∧ _ ∧ _ ∧ _)
      have ne_pq : ¬ w.heap.size = w.heap.size + 1 := by omega
      have ne_qp : ¬ w.heap.size + 1 = w.heap.size := by omega
      have ne_pt : ¬ w.heap.size = w2.heap.size := by omega
      have ne_tp : ¬ w2.heap.size = w.heap.size := by omega
      have ne_qt : ¬ w.heap.size + 1 = w2.heap.size := by omega
      have ne_tq : ¬ w2.heap.size = w.heap.size + 1 := by omega
      have hB140 := hB135.alloc hB135.size (.cells #[.int .i64 C, .int .i64 o] 91)
      have x141 := x136.alloc (.cells #[.int .i64 C, .int .i64 o] 91)
      have r142 := r137.alloc (.cells #[.int .i64 C, .int .i64 o] 91)
      have o143 := o138.alloc (.cells #[.int .i64 C, .int .i64 o] 91)
      have t144 := t139.alloc (.cells #[.int .i64 C, .int .i64 o] 91)
      clear hB135 x136 r137 o138 t139
      have hown := o143.2.1.out
      have hlow := o143.low.2.1
      go_wp2_with (at_builtin; refine wpList_append_own_at _ rfl _ _ 28 rfl (w.heap.size + 2) 91 ih0 (.agg #[.int .i64 0, .int .i64 0]) 2 16 Try.underlying28 hih0 hzh0 hzh1 hzh2 rfl (by decide) _ _ _ rfl hown ⟨w3.heap.size, 0, none⟩ 1 1 [.int .i64 C, .int .i64 o] rfl rfl (by simpa using cells_new w3 [.int .i64 C, .int .i64 o] 91) ?c2 ?c3 ?c4 ?c5 ?_)
      case c2 => simp [Value.oneCell']
      case c3 => have := H2.out; unfold maxLen; omega
      case c4 => have := H2.out; omega
      case c5 => first | omega | (simp; omega) | (simp; done)
      case _ =>
        intro va w4 h1 hg1 _ hat
        obtain ⟨A145, c145, rfl, _, _⟩ := own_form h1
        have sz4 : w3.heap.size + 1 ≤ w4.heap.size := Nat.le_trans (by first | exact Nat.le_refl _ | (simp; done) | (simp; omega)) (hg1.size)
        have hB146 := hB140.grown hg1 hB140.size (fun q hq => Nat.le_trans (by omega) (hlow q hq))
        have x147 := x141.beside hown (by decide) hg1
        have r148 := r142.beside hown (by decide) hg1
        have t149 := t144.beside hown (by decide) hg1
        have o150 := o143.addHeld (x := ⟨C, o⟩) h1 hg1 (by simpa using hat)
        clear h1 hg1 hat hown hlow hB140 x141 r142 t144 o143
        clear p0 p1 p2 p3 pl pf q0 q1 q2 q3 ql qf t0 t1 t2 t3 tl tf ne_pq ne_qp ne_pt ne_tp ne_qt ne_tq
        obtain ⟨p0, p1, p2, p3, pl, pf⟩ := (⟨x147.cell 0, x147.cell 1, x147.cell 2, x147.cell 3, x147.lt, x147.frozen⟩ : _ ∧ _ ∧ _ ∧ _ ∧ _ ∧ _)
        obtain ⟨q0, q1, q2, q3, ql, qf⟩ := (⟨r148.cell 0, r148.cell 1, r148.cell 2, r148.cell 3, r148.lt, r148.frozen⟩ : _ ∧ _ ∧ _ ∧ _ ∧ _ ∧ _)
        obtain ⟨t0, t1, t2, t3, tl, tf⟩ := (⟨t149.cell 0, t149.cell 1, t149.cell 2, t149.cell 3, t149.lt, t149.frozen⟩ : _ ∧ _ ∧ _ ∧ _ ∧ _ ∧ _)
        have ne_pq : ¬ w.heap.size = w.heap.size + 1 := by omega
        have ne_qp : ¬ w.heap.size + 1 = w.heap.size := by omega
        have ne_pt : ¬ w.heap.size = w2.heap.size := by omega
        have ne_tp : ¬ w2.heap.size = w.heap.size := by omega
        have ne_qt : ¬ w.heap.size + 1 = w2.heap.size := by omega
        have ne_tq : ¬ w2.heap.size = w.heap.size + 1 := by omega
        have hB151 := below_put hB146 (grown_set w4 (w2.heap.size) 2 (.slice A145 (p.held.length + 1) c145)) (by omega) (by have := hB146.size; omega)
        have x152 := x147.past (grown_set w4 (w2.heap.size) 2 (.slice A145 (p.held.length + 1) c145)) (by omega)
        have r153 := r148.past (grown_set w4 (w2.heap.size) 2 (.slice A145 (p.held.length + 1) c145)) (by omega)
        have o154 := o150.past t149 (grown_set w4 (w2.heap.size) 2 (.slice A145 (p.held.length + 1) c145))
        have t155 : At (w4.setCell ⟨w2.heap.size, 2, none⟩ (.slice A145 (p.held.length + 1) c145)) (w2.heap.size) 30 #[.int .i64 p.mx, .slice B1 p.idle.length d1, .slice A145 (p.held.length + 1) c145, .slice B3 p.wait.length d3] := by simpa using t149.set 2 (.slice A145 (p.held.length + 1) c145)
        clear hB146 x147 r148 o150 t149
        have hB156 := below_put hB151 (grown_set (w4.setCell ⟨w2.heap.size, 2, none⟩ (.slice A145 (p.held.length + 1) c145)) (w.heap.size + 1) 0 (.int .i64 p.mx)) (by omega) (by have := hB151.size; omega)
        have x157 := x152.past (grown_set (w4.setCell ⟨w2.heap.size, 2, none⟩ (.slice A145 (p.held.length + 1) c145)) (w.heap.size + 1) 0 (.int .i64 p.mx)) (by omega)
        have o158 := o154.past r153 (grown_set (w4.setCell ⟨w2.heap.size, 2, none⟩ (.slice A145 (p.held.length + 1) c145)) (w.heap.size + 1) 0 (.int .i64 p.mx))
        have t159 := t155.past (grown_set (w4.setCell ⟨w2.heap.size, 2, none⟩ (.slice A145 (p.held.length + 1) c145)) (w.heap.size + 1) 0 (.int .i64 p.mx)) (by omega)
        have r160 : At ((w4.setCell ⟨w2.heap.size, 2, none⟩ (.slice A145 (p.held.length + 1) c145)).setCell ⟨w.heap.size + 1, 0, none⟩ (.int .i64 p.mx)) (w.heap.size + 1) 30 #[.int .i64 p.mx, .slice none 0 0, .slice none 0 0, .slice none 0 0] := by simpa using r153.set 0 (.int .i64 p.mx)
        clear hB151 x152 o154 t155 r153
        have hB161 := below_put hB156 (grown_set ((w4.setCell ⟨w2.heap.size, 2, none⟩ (.slice A145 (p.held.length + 1) c145)).setCell ⟨w.heap.size + 1, 0, none⟩ (.int .i64 p.mx)) (w.heap.size + 1) 1 (.slice B1 p.idle.length d1)) (by omega) (by have := hB156.size; omega)
        have x162 := x157.past (grown_set ((w4.setCell ⟨w2.heap.size, 2, none⟩ (.slice A145 (p.held.length + 1) c145)).setCell ⟨w.heap.size + 1, 0, none⟩ (.int .i64 p.mx)) (w.heap.size + 1) 1 (.slice B1 p.idle.length d1)) (by omega)
        have o163 := o158.past r160 (grown_set ((w4.setCell ⟨w2.heap.size, 2, none⟩ (.slice A145 (p.held.length + 1) c145)).setCell ⟨w.heap.size + 1, 0, none⟩ (.int .i64 p.mx)) (w.heap.size + 1) 1 (.slice B1 p.idle.length d1))
        have t164 := t159.past (grown_set ((w4.setCell ⟨w2.heap.size, 2, none⟩ (.slice A145 (p.held.length + 1) c145)).setCell ⟨w.heap.size + 1, 0, none⟩ (.int .i64 p.mx)) (w.heap.size + 1) 1 (.slice B1 p.idle.length d1)) (by omega)
        have r165 : At (((w4.setCell ⟨w2.heap.size, 2, none⟩ (.slice A145 (p.held.length + 1) c145)).setCell ⟨w.heap.size + 1, 0, none⟩ (.int .i64 p.mx)).setCell ⟨w.heap.size + 1, 1, none⟩ (.slice B1 p.idle.length d1)) (w.heap.size + 1) 30 #[.int .i64 p.mx, .slice B1 p.idle.length d1, .slice none 0 0, .slice none 0 0] := by simpa using r160.set 1 (.slice B1 p.idle.length d1)
        clear hB156 x157 o158 t159 r160
        have hB166 := below_put hB161 (grown_set (((w4.setCell ⟨w2.heap.size, 2, none⟩ (.slice A145 (p.held.length + 1) c145)).setCell ⟨w.heap.size + 1, 0, none⟩ (.int .i64 p.mx)).setCell ⟨w.heap.size + 1, 1, none⟩ (.slice B1 p.idle.length d1)) (w.heap.size + 1) 2 (.slice A145 (p.held.length + 1) c145)) (by omega) (by have := hB161.size; omega)
        have x167 := x162.past (grown_set (((w4.setCell ⟨w2.heap.size, 2, none⟩ (.slice A145 (p.held.length + 1) c145)).setCell ⟨w.heap.size + 1, 0, none⟩ (.int .i64 p.mx)).setCell ⟨w.heap.size + 1, 1, none⟩ (.slice B1 p.idle.length d1)) (w.heap.size + 1) 2 (.slice A145 (p.held.length + 1) c145)) (by omega)
        have o168 := o163.past r165 (grown_set (((w4.setCell ⟨w2.heap.size, 2, none⟩ (.slice A145 (p.held.length + 1) c145)).setCell ⟨w.heap.size + 1, 0, none⟩ (.int .i64 p.mx)).setCell ⟨w.heap.size + 1, 1, none⟩ (.slice B1 p.idle.length d1)) (w.heap.size + 1) 2 (.slice A145 (p.held.length + 1) c145))
        have t169 := t164.past (grown_set (((w4.setCell ⟨w2.heap.size, 2, none⟩ (.slice A145 (p.held.length + 1) c145)).setCell ⟨w.heap.size + 1, 0, none⟩ (.int .i64 p.mx)).setCell ⟨w.heap.size + 1, 1, none⟩ (.slice B1 p.idle.length d1)) (w.heap.size + 1) 2 (.slice A145 (p.held.length + 1) c145)) (by omega)
        have r170 : At ((((w4.setCell ⟨w2.heap.size, 2, none⟩ (.slice A145 (p.held.length + 1) c145)).setCell ⟨w.heap.size + 1, 0, none⟩ (.int .i64 p.mx)).setCell ⟨w.heap.size + 1, 1, none⟩ (.slice B1 p.idle.length d1)).setCell ⟨w.heap.size + 1, 2, none⟩ (.slice A145 (p.held.length + 1) c145)) (w.heap.size + 1) 30 #[.int .i64 p.mx, .slice B1 p.idle.length d1, .slice A145 (p.held.length + 1) c145, .slice none 0 0] := by simpa using r165.set 2 (.slice A145 (p.held.length + 1) c145)
        clear hB161 x162 o163 t164 r165
        have hB171 := below_put hB166 (grown_set ((((w4.setCell ⟨w2.heap.size, 2, none⟩ (.slice A145 (p.held.length + 1) c145)).setCell ⟨w.heap.size + 1, 0, none⟩ (.int .i64 p.mx)).setCell ⟨w.heap.size + 1, 1, none⟩ (.slice B1 p.idle.length d1)).setCell ⟨w.heap.size + 1, 2, none⟩ (.slice A145 (p.held.length + 1) c145)) (w.heap.size + 1) 3 (.slice B3 p.wait.length d3)) (by omega) (by have := hB166.size; omega)
        have x172 := x167.past (grown_set ((((w4.setCell ⟨w2.heap.size, 2, none⟩ (.slice A145 (p.held.length + 1) c145)).setCell ⟨w.heap.size + 1, 0, none⟩ (.int .i64 p.mx)).setCell ⟨w.heap.size + 1, 1, none⟩ (.slice B1 p.idle.length d1)).setCell ⟨w.heap.size + 1, 2, none⟩ (.slice A145 (p.held.length + 1) c145)) (w.heap.size + 1) 3 (.slice B3 p.wait.length d3)) (by omega)
        have o173 := o168.past r170 (grown_set ((((w4.setCell ⟨w2.heap.size, 2, none⟩ (.slice A145 (p.held.length + 1) c145)).setCell ⟨w.heap.size + 1, 0, none⟩ (.int .i64 p.mx)).setCell ⟨w.heap.size + 1, 1, none⟩ (.slice B1 p.idle.length d1)).setCell ⟨w.heap.size + 1, 2, none⟩ (.slice A145 (p.held.length + 1) c145)) (w.heap.size + 1) 3 (.slice B3 p.wait.length d3))
        have t174 := t169.past (grown_set ((((w4.setCell ⟨w2.heap.size, 2, none⟩ (.slice A145 (p.held.length + 1) c145)).setCell ⟨w.heap.size + 1, 0, none⟩ (.int .i64 p.mx)).setCell ⟨w.heap.size + 1, 1, none⟩ (.slice B1 p.idle.length d1)).setCell ⟨w.heap.size + 1, 2, none⟩ (.slice A145 (p.held.length + 1) c145)) (w.heap.size + 1) 3 (.slice B3 p.wait.length d3)) (by omega)
        have r175 : At (((((w4.setCell ⟨w2.heap.size, 2, none⟩ (.slice A145 (p.held.length + 1) c145)).setCell ⟨w.heap.size + 1, 0, none⟩ (.int .i64 p.mx)).setCell ⟨w.heap.size + 1, 1, none⟩ (.slice B1 p.idle.length d1)).setCell ⟨w.heap.size + 1, 2, none⟩ (.slice A145 (p.held.length + 1) c145)).setCell ⟨w.heap.size + 1, 3, none⟩ (.slice B3 p.wait.length d3)) (w.heap.size + 1) 30 #[.int .i64 p.mx, .slice B1 p.idle.length d1, .slice A145 (p.held.length + 1) c145, .slice B3 p.wait.length d3] := by simpa using r170.set 3 (.slice B3 p.wait.length d3)
        clear hB166 x167 o168 t169 r170
        go_wp2
        refine bodyPost_ret (v := .tuple #[.agg #[.int .i64 p.mx, .slice B1 p.idle.length d1, .slice A145 (p.held.length + 1) c145, .slice B3 p.wait.length d3], .int .i64 C, .bool true]) (by simp [results, Try.results98, go_sem, r175.cell]) rfl ?_
        rw [E1.out, E2.out, EB.out, HP.out]
        rw [HD.out]
        exact ⟨B1, A145, B3, d1, c145, d3, by simp [List.length_append], (by simpa [List.length_append] using o173.mono (show w.heap.size ≤ w.heap.size + 2 by omega)), hB171⟩
    · skip
      obtain ⟨m, hm⟩ : ∃ m, p.idle.length = m + 1 := ⟨p.idle.length - 1, by omega⟩
      clear hI
      have hmlt : m < p.idle.length := by omega
      obtain ⟨b, of, rfl, hbl, hce⟩ := h.idle.int hmlt
      clear hce
      have hp : pickC p = p.idle[m] := by unfold pickC; rw [List.getLast?_eq_getElem?]; simp [hm]
      have hd0 : p.idle.dropLast = p.idle.take m := by rw [List.dropLast_eq_take, hm]; rfl
      obtain ⟨L, hL⟩ : ∃ L, L = p.idle.take m := ⟨_, rfl⟩
      have HLL := hid (show L.length = m by rw [hL, List.length_take]; omega)
      have HLn := hid (show L.length ≤ 4194304 by rw [HLL.out]; have := H1.out; omega)
      rw [← hL] at hd0
      have HD := hid hd0
      have HLs := hid (fun (w1 : World) (hs : Sees w1 w1.heap.size (some ⟨b, of, none⟩) (ints p.idle)) => (show Sees w1 w1.heap.size (some ⟨b, of, none⟩) (ints L) by rw [hL]; exact hs.itake m))
      have HCe := hid (fun (w1 : World) (hs : Sees w1 w1.heap.size (some ⟨b, of, none⟩) (ints p.idle)) => (show w1.cell? ⟨b, of + m, none⟩ = some (.int .i64 p.idle[m]) by obtain ⟨b2, o2, e, _, h2⟩ := hs.int hmlt; injection e with e; injection e with ea eb; subst ea eb; exact h2))
      clear hL hd0
      obtain ⟨C, hC⟩ : ∃ C, C = p.idle[m] := ⟨_, rfl⟩
      rw [← hC] at hp HCe
      have HP := hid hp
      clear hC hp
      obtain ⟨D, hD⟩ : ∃ D, D = closed p := ⟨_, rfl⟩
      have HC := hid hD.symm
      clear hD
      have hgt : (p.idle.length : Int) > 0 := by omega
      have hw1 : IntKind.i64.wrap ((p.idle.length : Int) - 1) = (m : Int) := by rw [IntKind.wrap_i64]; have := H1.out; omega
      have hm0 : (0 : Int) ≤ (m : Int) := by omega
      have hmc : (m : Int) ≤ (c1 : Int) := by omega
      have hml : (m : Int) < (p.idle.length : Int) := by omega
      have hm13 : m ≤ 2097152 := by have := H1.out; omega
      have HM := hid hm
      clear hm hmlt
      have hB176 := Below.refl w.heap.size w
      have hB177 := hB176.alloc hB176.size (.cells #[.int .i64 p.mx, .slice (some ⟨b, of, none⟩) p.idle.length c1, .slice A2 p.held.length c2, .slice A3 p.wait.length c3] 30)
      clear hB176
      have x178 : At (w.alloc (.cells #[.int .i64 p.mx, .slice (some ⟨b, of, none⟩) p.idle.length c1, .slice A2 p.held.length c2, .slice A3 p.wait.length c3] 30)) (w.heap.size) 30 #[.int .i64 p.mx, .slice (some ⟨b, of, none⟩) p.idle.length c1, .slice A2 p.held.length c2, .slice A3 p.wait.length c3] := At.newAt _ _ (by first | rfl | (simp; done) | (simp; omega))
      have hB179 := hB177.alloc hB177.size (.cells #[.int .i64 0, .slice none 0 0, .slice none 0 0, .slice none 0 0] 30)
      have x180 := x178.alloc (.cells #[.int .i64 0, .slice none 0 0, .slice none 0 0, .slice none 0 0] 30)
      clear hB177 x178
      have r181 : At ((w.alloc (.cells #[.int .i64 p.mx, .slice (some ⟨b, of, none⟩) p.idle.length c1, .slice A2 p.held.length c2, .slice A3 p.wait.length c3] 30)).alloc (.cells #[.int .i64 0, .slice none 0 0, .slice none 0 0, .slice none 0 0] 30)) (w.heap.size + 1) 30 #[.int .i64 0, .slice none 0 0, .slice none 0 0, .slice none 0 0] := At.newAt _ _ (by first | rfl | (simp; done) | (simp; omega))
      go_enter Try.func98, Try.ntmps98
      obtain ⟨p0, p1, p2, p3, pl, pf⟩ := (⟨x180.cell 0, x180.cell 1, x180.cell 2, x180.cell 3, x180.lt, x180.frozen⟩ : _ ∧ _ ∧ _ ∧ _ ∧ _ ∧ _)
      obtain ⟨q0, q1, q2, q3, ql, qf⟩ := (⟨r181.cell 0, r181.cell 1, r181.cell 2, r181.cell 3, r181.lt, r181.frozen⟩ : _ ∧ _ ∧ _ ∧ _ ∧ _ ∧ _)
      go_wp2_with fail
      with_reducible refine (iValidPool_any p (some ⟨b, of, none⟩) A2 A3 c1 c2 c3 _ (h.on hB179) H1.out H2.out (Nat.le_trans H3.out (by decide))).mono ?_
      rintro e w1 ⟨he, hb1⟩
      rw [HK.out] at he
      subst he
      have sz1 : w.heap.size + 2 ≤ w1.heap.size := Nat.le_trans (by first | exact Nat.le_refl _ | (simp; done) | (simp; omega)) (hb1.size)
      have hB182 := hB179.trans (hb1.mono hB179.size)
      have x183 := x180.below hb1 x180.lt
      have r184 := r181.below hb1 r181.lt
      clear hB179 x180 r181
      clear p0 p1 p2 p3 pl pf q0 q1 q2 q3 ql qf
      obtain ⟨p0, p1, p2, p3, pl, pf⟩ := (⟨x183.cell 0, x183.cell 1, x183.cell 2, x183.cell 3, x183.lt, x183.frozen⟩ : _ ∧ _ ∧ _ ∧ _ ∧ _ ∧ _)
      obtain ⟨q0, q1, q2, q3, ql, qf⟩ := (⟨r184.cell 0, r184.cell 1, r184.cell 2, r184.cell 3, r184.lt, r184.frozen⟩ : _ ∧ _ ∧ _ ∧ _ ∧ _ ∧ _)
      go_wp2_with fail
      with_reducible refine (icopyPool_any p (some ⟨b, of, none⟩) A2 A3 c1 c2 c3 _ (h.on hB182) (Nat.le_trans H1.out (by decide)) (Nat.le_trans H2.out (by decide)) (Nat.le_trans H3.out (by decide))).mono ?_
      rintro e w2 ⟨B1, B2, B3, d1, d2, d3, rfl, ho, hb2⟩
      have sz2 : w1.heap.size ≤ w2.heap.size := Nat.le_trans (by first | exact Nat.le_refl _ | (simp; done) | (simp; omega)) (hb2.size)
      have hB185 := hB182.trans (hb2.mono hB182.size)
      have x186 := x183.below hb2 x183.lt
      have r187 := r184.below hb2 r184.lt
      clear hB182 x183 r184
      clear p0 p1 p2 p3 pl pf q0 q1 q2 q3 ql qf
      have o188 := ho.mono (show w.heap.size + 2 ≤ _ by omega)
      clear ho
      obtain ⟨p0, p1, p2, p3, pl, pf⟩ := (⟨x186.cell 0, x186.cell 1, x186.cell 2, x186.cell 3, x186.lt, x186.frozen⟩ : _ ∧ _ ∧ _ ∧ _ ∧ _ ∧ _)
      obtain ⟨q0, q1, q2, q3, ql, qf⟩ := (⟨r187.cell 0, r187.cell 1, r187.cell 2, r187.cell 3, r187.lt, r187.frozen⟩ : _ ∧ _ ∧ _ ∧ _ ∧ _ ∧ _)
      have hB189 := hB185.alloc hB185.size (.cells #[.int .i64 p.mx, .slice B1 p.idle.length d1, .slice B2 p.held.length d2, .slice B3 p.wait.length d3] 30)
      have x190 := x186.alloc (.cells #[.int .i64 p.mx, .slice B1 p.idle.length d1, .slice B2 p.held.length d2, .slice B3 p.wait.length d3] 30)
      have r191 := r187.alloc (.cells #[.int .i64 p.mx, .slice B1 p.idle.length d1, .slice B2 p.held.length d2, .slice B3 p.wait.length d3] 30)
      have o192 := o188.alloc (.cells #[.int .i64 p.mx, .slice B1 p.idle.length d1, .slice B2 p.held.length d2, .slice B3 p.wait.length d3] 30)
      clear hB185 x186 r187 o188
      have t193 : At (w2.alloc (.cells #[.int .i64 p.mx, .slice B1 p.idle.length d1, .slice B2 p.held.length d2, .slice B3 p.wait.length d3] 30)) (w2.heap.size) 30 #[.int .i64 p.mx, .slice B1 p.idle.length d1, .slice B2 p.held.length d2, .slice B3 p.wait.length d3] := At.newAt _ _ (by first | rfl | (simp; done) | (simp; omega))
      go_wp2_with fail
      with_reducible refine (leastClosed_any p (some ⟨b, of, none⟩) A2 A3 c1 c2 c3 _ (h.on hB189) H1.out H2.out hmx).mono ?_
      rintro e w3 ⟨he, hb3⟩
      rw [HC.out] at he
      subst he
      have sz3 : w2.heap.size + 1 ≤ w3.heap.size := Nat.le_trans (by first | exact Nat.le_refl _ | (simp; done) | (simp; omega)) (hb3.size)
      have hB194 := hB189.trans (hb3.mono hB189.size)
      have x195 := x190.below hb3 x190.lt
      have r196 := r191.below hb3 r191.lt
      have o197 := o192.below hb3
      have t198 := t193.below hb3 t193.lt
      clear hB189 x190 r191 o192 t193
      clear p0 p1 p2 p3 pl pf q0 q1 q2 q3 ql qf
      obtain ⟨p0, p1, p2, p3, pl, pf⟩ := (⟨x195.cell 0, x195.cell 1, x195.cell 2, x195.cell 3, x195.lt, x195.frozen⟩ : _ ∧ _ ∧ _ ∧ _ ∧ _ ∧ _)
      obtain ⟨q0, q1, q2, q3, ql, qf⟩ := (⟨r196.cell 0, r196.cell 1, r196.cell 2, r196.cell 3, r196.lt, r196.frozen⟩ : _ ∧ _ ∧ _ ∧ _ ∧ _ ∧ _)
      obtain ⟨t0, t1, t2, t3, tl, tf⟩ := (⟨t198.cell 0, t198.cell 1, t198.cell 2, t198.cell 3, t198.lt, t198.frozen⟩ : _ ∧ _ ∧ _ ∧ _ ∧ _ ∧ _)
      have ne_pq : ¬ w.heap.size = w.heap.size + 1 := by omega
      have ne_qp : ¬ w.heap.size + 1 = w.heap.size := by omega
      have ne_pt : ¬ w.heap.size = w2.heap.size := by omega
      have ne_tp : ¬ w2.heap.size = w.heap.size := by omega
      have ne_qt : ¬ w.heap.size + 1 = w2.heap.size := by omega
      have ne_tq : ¬ w2.heap.size = w.heap.size + 1 := by omega
      have hcell := HCe.out _ (h.on hB194).idle
      go_wp2_with fail
      with_reducible refine (copyNumbers_len HLL.out (HLs.out _ (h.on hB194).idle) HLn.out).mono ?_
      rintro e w4 ⟨v4, rfl, hn4, hb4⟩
      obtain ⟨An4, cn4, rfl, _⟩ := hn4.form
      have sz4 : w3.heap.size ≤ w4.heap.size := Nat.le_trans (by first | exact Nat.le_refl _ | (simp; done) | (simp; omega)) (hb4.size)
      have o199 := o197.newIdle (by first | omega | (simp; omega) | (simp; done)) hn4 hb4
      have hB200 := hB194.trans (hb4.mono hB194.size)
      have x201 := x195.below hb4 x195.lt
      have r202 := r196.below hb4 r196.lt
      have t203 := t198.below hb4 t198.lt
      clear hB194 x195 r196 t198
      clear p0 p1 p2 p3 pl pf q0 q1 q2 q3 ql qf t0 t1 t2 t3 tl tf ne_pq ne_qp ne_pt ne_tp ne_qt ne_tq
      clear o197 hn4
      clear hcell
      obtain ⟨p0, p1, p2, p3, pl, pf⟩ := (⟨x201.cell 0, x201.cell 1, x201.cell 2, x201.cell 3, x201.lt, x201.frozen⟩ : _ ∧ _ ∧ _ ∧ _ ∧ _ ∧ _)
      obtain ⟨q0, q1, q2, q3, ql, qf⟩ := (⟨r202.cell 0, r202.cell 1, r202.cell 2, r202.cell 3, r202.lt, r202.frozen⟩ : _ ∧ _ ∧ _ ∧ _ ∧ _ ∧ _)
      obtain ⟨t0, t1, t2, t3, tl, tf⟩ := (⟨t203.cell 0, t203.cell 1, t203.cell 2, t203.cell 3, t203.lt, t203.frozen⟩ : _ ∧ _ ∧ _ ∧ _ ∧ _ ∧ _)
      have ne_pq : ¬ w.heap.size = w.heap.size + 1 := by omega
      have ne_qp : ¬ w.heap.size + 1 = w.heap.size := by omega
      have ne_pt : ¬ w.heap.size = w2.heap.size := by omega
      have ne_tp : ¬ w2.heap.size = w.heap.size := by omega
      have ne_qt : ¬ w.heap.size + 1 = w2.heap.size := by omega
      have ne_tq : ¬ w2.heap.size = w.heap.size + 1 := by omega
      have hB204 := below_put hB200 (grown_set w4 (w2.heap.size) 1 (.slice An4 L.length cn4)) (by omega) (by have := hB200.size; omega)
      have x205 := x201.past (grown_set w4 (w2.heap.size) 1 (.slice An4 L.length cn4)) (by omega)
      have r206 := r202.past (grown_set w4 (w2.heap.size) 1 (.slice An4 L.length cn4)) (by omega)
      have o207 := o199.past t203 (grown_set w4 (w2.heap.size) 1 (.slice An4 L.length cn4))
      have t208 : At (w4.setCell ⟨w2.heap.size, 1, none⟩ (.slice An4 L.length cn4)) (w2.heap.size) 30 #[.int .i64 p.mx, .slice An4 L.length cn4, .slice B2 p.held.length d2, .slice B3 p.wait.length d3] := by simpa using t203.set 1 (.slice An4 L.length cn4)
      clear hB200 x201 r202 o199 t203
      have hB209 := hB204.alloc hB204.size (.cells #[.int .i64 C, .int .i64 o] 91)
      have x210 := x205.alloc (.cells #[.int .i64 C, .int .i64 o] 91)
      have r211 := r206.alloc (.cells #[.int .i64 C, .int .i64 o] 91)
      have t212 := t208.alloc (.cells #[.int .i64 C, .int .i64 o] 91)
      have o213 := o207.alloc (.cells #[.int .i64 C, .int .i64 o] 91)
      clear hB204 x205 r206 t208 o207
      have hown := o213.2.1.out
      have hlow := o213.low.2.1
      go_wp2_with (at_builtin; refine wpList_append_own_at _ rfl _ _ 28 rfl (w.heap.size + 2) 91 ih0 (.agg #[.int .i64 0, .int .i64 0]) 2 16 Try.underlying28 hih0 hzh0 hzh1 hzh2 rfl (by decide) _ _ _ rfl hown ⟨w4.heap.size, 0, none⟩ 1 1 [.int .i64 C, .int .i64 o] rfl rfl (by simpa using cells_new (w4.setCell ⟨w2.heap.size, 1, none⟩ (.slice An4 L.length cn4)) [.int .i64 C, .int .i64 o] 91) ?c2 ?c3 ?c4 ?c5 ?_)
      case c2 => simp [Value.oneCell']
      case c3 => have := H2.out; unfold maxLen; omega
      case c4 => have := H2.out; omega
      case c5 => first | omega | (simp; omega) | (simp; done)
      case _ =>
        intro va w5 h1 hg1 _ hat
        obtain ⟨A214, c214, rfl, _, _⟩ := own_form h1
        have sz5 : w4.heap.size + 1 ≤ w5.heap.size := Nat.le_trans (by first | exact Nat.le_refl _ | (simp; done) | (simp; omega)) (hg1.size)
        have hB215 := hB209.grown hg1 hB209.size (fun q hq => Nat.le_trans (by omega) (hlow q hq))
        have x216 := x210.beside hown (by decide) hg1
        have r217 := r211.beside hown (by decide) hg1
        have t218 := t212.beside hown (by decide) hg1
        have o219 := o213.addHeld (x := ⟨C, o⟩) h1 hg1 (by simpa using hat)
        clear h1 hg1 hat hown hlow hB209 x210 r211 t212 o213
        clear p0 p1 p2 p3 pl pf q0 q1 q2 q3 ql qf t0 t1 t2 t3 tl tf ne_pq ne_qp ne_pt ne_tp ne_qt ne_tq
        obtain ⟨p0, p1, p2, p3, pl, pf⟩ := (⟨x216.cell 0, x216.cell 1, x216.cell 2, x216.cell 3, x216.lt, x216.frozen⟩ : _ ∧ _ ∧ _ ∧ _ ∧ _ ∧ _)
        obtain ⟨q0, q1, q2, q3, ql, qf⟩ := (⟨r217.cell 0, r217.cell 1, r217.cell 2, r217.cell 3, r217.lt, r217.frozen⟩ : _ ∧ _ ∧ _ ∧ _ ∧ _ ∧ _)
        obtain ⟨t0, t1, t2, t3, tl, tf⟩ := (⟨t218.cell 0, t218.cell 1, t218.cell 2, t218.cell 3, t218.lt, t218.frozen⟩ : _ ∧ _ ∧ _ ∧ _ ∧ _ ∧ _)
        have ne_pq : ¬ w.heap.size = w.heap.size + 1 := by omega
        have ne_qp : ¬ w.heap.size + 1 = w.heap.size := by omega
        have ne_pt : ¬ w.heap.size = w2.heap.size := by omega
        have ne_tp : ¬ w2.heap.size = w.heap.size := by omega
        have ne_qt : ¬ w.heap.size + 1 = w2.heap.size := by omega
        have ne_tq : ¬ w2.heap.size = w.heap.size + 1 := by omega
        have hB220 := below_put hB215 (grown_set w5 (w2.heap.size) 2 (.slice A214 (p.held.length + 1) c214)) (by omega) (by have := hB215.size; omega)
        have x221 := x216.past (grown_set w5 (w2.heap.size) 2 (.slice A214 (p.held.length + 1) c214)) (by omega)
        have r222 := r217.past (grown_set w5 (w2.heap.size) 2 (.slice A214 (p.held.length + 1) c214)) (by omega)
        have o223 := o219.past t218 (grown_set w5 (w2.heap.size) 2 (.slice A214 (p.held.length + 1) c214))
        have t224 : At (w5.setCell ⟨w2.heap.size, 2, none⟩ (.slice A214 (p.held.length + 1) c214)) (w2.heap.size) 30 #[.int .i64 p.mx, .slice An4 L.length cn4, .slice A214 (p.held.length + 1) c214, .slice B3 p.wait.length d3] := by simpa using t218.set 2 (.slice A214 (p.held.length + 1) c214)
        clear hB215 x216 r217 o219 t218
        have hB225 := below_put hB220 (grown_set (w5.setCell ⟨w2.heap.size, 2, none⟩ (.slice A214 (p.held.length + 1) c214)) (w.heap.size + 1) 0 (.int .i64 p.mx)) (by omega) (by have := hB220.size; omega)
        have x226 := x221.past (grown_set (w5.setCell ⟨w2.heap.size, 2, none⟩ (.slice A214 (p.held.length + 1) c214)) (w.heap.size + 1) 0 (.int .i64 p.mx)) (by omega)
        have t227 := t224.past (grown_set (w5.setCell ⟨w2.heap.size, 2, none⟩ (.slice A214 (p.held.length + 1) c214)) (w.heap.size + 1) 0 (.int .i64 p.mx)) (by omega)
        have o228 := o223.past r222 (grown_set (w5.setCell ⟨w2.heap.size, 2, none⟩ (.slice A214 (p.held.length + 1) c214)) (w.heap.size + 1) 0 (.int .i64 p.mx))
        have r229 : At ((w5.setCell ⟨w2.heap.size, 2, none⟩ (.slice A214 (p.held.length + 1) c214)).setCell ⟨w.heap.size + 1, 0, none⟩ (.int .i64 p.mx)) (w.heap.size + 1) 30 #[.int .i64 p.mx, .slice none 0 0, .slice none 0 0, .slice none 0 0] := by simpa using r222.set 0 (.int .i64 p.mx)
        clear hB220 x221 t224 o223 r222
        have hB230 := below_put hB225 (grown_set ((w5.setCell ⟨w2.heap.size, 2, none⟩ (.slice A214 (p.held.length + 1) c214)).setCell ⟨w.heap.size + 1, 0, none⟩ (.int .i64 p.mx)) (w.heap.size + 1) 1 (.slice An4 L.length cn4)) (by omega) (by have := hB225.size; omega)
        have x231 := x226.past (grown_set ((w5.setCell ⟨w2.heap.size, 2, none⟩ (.slice A214 (p.held.length + 1) c214)).setCell ⟨w.heap.size + 1, 0, none⟩ (.int .i64 p.mx)) (w.heap.size + 1) 1 (.slice An4 L.length cn4)) (by omega)
        have t232 := t227.past (grown_set ((w5.setCell ⟨w2.heap.size, 2, none⟩ (.slice A214 (p.held.length + 1) c214)).setCell ⟨w.heap.size + 1, 0, none⟩ (.int .i64 p.mx)) (w.heap.size + 1) 1 (.slice An4 L.length cn4)) (by omega)
        have o233 := o228.past r229 (grown_set ((w5.setCell ⟨w2.heap.size, 2, none⟩ (.slice A214 (p.held.length + 1) c214)).setCell ⟨w.heap.size + 1, 0, none⟩ (.int .i64 p.mx)) (w.heap.size + 1) 1 (.slice An4 L.length cn4))
        have r234 : At (((w5.setCell ⟨w2.heap.size, 2, none⟩ (.slice A214 (p.held.length + 1) c214)).setCell ⟨w.heap.size + 1, 0, none⟩ (.int .i64 p.mx)).setCell ⟨w.heap.size + 1, 1, none⟩ (.slice An4 L.length cn4)) (w.heap.size + 1) 30 #[.int .i64 p.mx, .slice An4 L.length cn4, .slice none 0 0, .slice none 0 0] := by simpa using r229.set 1 (.slice An4 L.length cn4)
        clear hB225 x226 t227 o228 r229
        have hB235 := below_put hB230 (grown_set (((w5.setCell ⟨w2.heap.size, 2, none⟩ (.slice A214 (p.held.length + 1) c214)).setCell ⟨w.heap.size + 1, 0, none⟩ (.int .i64 p.mx)).setCell ⟨w.heap.size + 1, 1, none⟩ (.slice An4 L.length cn4)) (w.heap.size + 1) 2 (.slice A214 (p.held.length + 1) c214)) (by omega) (by have := hB230.size; omega)
        have x236 := x231.past (grown_set (((w5.setCell ⟨w2.heap.size, 2, none⟩ (.slice A214 (p.held.length + 1) c214)).setCell ⟨w.heap.size + 1, 0, none⟩ (.int .i64 p.mx)).setCell ⟨w.heap.size + 1, 1, none⟩ (.slice An4 L.length cn4)) (w.heap.size + 1) 2 (.slice A214 (p.held.length + 1) c214)) (by omega)
        have t237 := t232.past (grown_set (((w5.setCell ⟨w2.heap.size, 2, none⟩ (.slice A214 (p.held.length + 1) c214)).setCell ⟨w.heap.size + 1, 0, none⟩ (.int .i64 p.mx)).setCell ⟨w.heap.size + 1, 1, none⟩ (.slice An4 L.length cn4)) (w.heap.size + 1) 2 (.slice A214 (p.held.length + 1) c214)) (by omega)
        have o238 := o233.past r234 (grown_set (((w5.setCell ⟨w2.heap.size, 2, none⟩ (.slice A214 (p.held.length + 1) c214)).setCell ⟨w.heap.size + 1, 0, none⟩ (.int .i64 p.mx)).setCell ⟨w.heap.size + 1, 1, none⟩ (.slice An4 L.length cn4)) (w.heap.size + 1) 2 (.slice A214 (p.held.length + 1) c214))
        have r239 : At ((((w5.setCell ⟨w2.heap.size, 2, none⟩ (.slice A214 (p.held.length + 1) c214)).setCell ⟨w.heap.size + 1, 0, none⟩ (.int .i64 p.mx)).setCell ⟨w.heap.size + 1, 1, none⟩ (.slice An4 L.length cn4)).setCell ⟨w.heap.size + 1, 2, none⟩ (.slice A214 (p.held.length + 1) c214)) (w.heap.size + 1) 30 #[.int .i64 p.mx, .slice An4 L.length cn4, .slice A214 (p.held.length + 1) c214, .slice none 0 0] := by simpa using r234.set 2 (.slice A214 (p.held.length + 1) c214)
        clear hB230 x231 t232 o233 r234
        have hB240 := below_put hB235 (grown_set ((((w5.setCell ⟨w2.heap.size, 2, none⟩ (.slice A214 (p.held.length + 1) c214)).setCell ⟨w.heap.size + 1, 0, none⟩ (.int .i64 p.mx)).setCell ⟨w.heap.size + 1, 1, none⟩ (.slice An4 L.length cn4)).setCell ⟨w.heap.size + 1, 2, none⟩ (.slice A214 (p.held.length + 1) c214)) (w.heap.size + 1) 3 (.slice B3 p.wait.length d3)) (by omega) (by have := hB235.size; omega)
        have x241 := x236.past (grown_set ((((w5.setCell ⟨w2.heap.size, 2, none⟩ (.slice A214 (p.held.length + 1) c214)).setCell ⟨w.heap.size + 1, 0, none⟩ (.int .i64 p.mx)).setCell ⟨w.heap.size + 1, 1, none⟩ (.slice An4 L.length cn4)).setCell ⟨w.heap.size + 1, 2, none⟩ (.slice A214 (p.held.length + 1) c214)) (w.heap.size + 1) 3 (.slice B3 p.wait.length d3)) (by omega)
        have t242 := t237.past (grown_set ((((w5.setCell ⟨w2.heap.size, 2, none⟩ (.slice A214 (p.held.length + 1) c214)).setCell ⟨w.heap.size + 1, 0, none⟩ (.int .i64 p.mx)).setCell ⟨w.heap.size + 1, 1, none⟩ (.slice An4 L.length cn4)).setCell ⟨w.heap.size + 1, 2, none⟩ (.slice A214 (p.held.length + 1) c214)) (w.heap.size + 1) 3 (.slice B3 p.wait.length d3)) (by omega)
        have o243 := o238.past r239 (grown_set ((((w5.setCell ⟨w2.heap.size, 2, none⟩ (.slice A214 (p.held.length + 1) c214)).setCell ⟨w.heap.size + 1, 0, none⟩ (.int .i64 p.mx)).setCell ⟨w.heap.size + 1, 1, none⟩ (.slice An4 L.length cn4)).setCell ⟨w.heap.size + 1, 2, none⟩ (.slice A214 (p.held.length + 1) c214)) (w.heap.size + 1) 3 (.slice B3 p.wait.length d3))
        have r244 : At (((((w5.setCell ⟨w2.heap.size, 2, none⟩ (.slice A214 (p.held.length + 1) c214)).setCell ⟨w.heap.size + 1, 0, none⟩ (.int .i64 p.mx)).setCell ⟨w.heap.size + 1, 1, none⟩ (.slice An4 L.length cn4)).setCell ⟨w.heap.size + 1, 2, none⟩ (.slice A214 (p.held.length + 1) c214)).setCell ⟨w.heap.size + 1, 3, none⟩ (.slice B3 p.wait.length d3)) (w.heap.size + 1) 30 #[.int .i64 p.mx, .slice An4 L.length cn4, .slice A214 (p.held.length + 1) c214, .slice B3 p.wait.length d3] := by simpa using r239.set 3 (.slice B3 p.wait.length d3)
        clear hB235 x236 t237 o238 r239
        go_wp2
        refine bodyPost_ret (v := .tuple #[.agg #[.int .i64 p.mx, .slice An4 L.length cn4, .slice A214 (p.held.length + 1) c214, .slice B3 p.wait.length d3], .int .i64 C, .bool true]) (by simp [results, Try.results98, go_sem, r244.cell]) rfl ?_
        rw [E1.out, E2.out, EB.out, HP.out, HD.out]
        exact ⟨An4, A214, B3, cn4, c214, d3, by simp [List.length_append], (by simpa [List.length_append] using o243.mono (show w.heap.size ≤ w.heap.size + 2 by omega)), hB240⟩

end Go.Proofs.Ytehdbllpiokbnaa

/-
  What the model's AcquireConn and CloseIdle answer. Condition: the lists lie in memory.
-/
import Derived.Test.YtehdbllpiokbnaaPlQ
import Derived.Test.YtehdbllpiokbnaaPlS0

namespace Go.Proofs.Ytehdbllpiokbnaa
open Go.RowKit Pol

theorem acqP_len (p : Pl) (o : Int) : (acqP p o).idle.length ≤ p.idle.length ∧ (acqP p o).held.length ≤ p.held.length + 1 ∧ (acqP p o).wait.length ≤ p.wait.length + 1 := by
  unfold acqP
  split <;> simp
set_option maxRecDepth 16384 in
set_option maxHeartbeats 4000000 in
theorem sAcquireConn_any (p : Pl) (A1 A2 A3 : Option Addr) (c1 c2 c3 : Nat) (o : Int) (w : World) (h : SeesP w w.heap.size A1 A2 A3 p) (hcap : p.idle.length ≤ c1) (h1 : p.idle.length ≤ 2097152) (h2 : p.held.length ≤ 2097152) (h3 : p.wait.length ≤ 2097152) :
    Calls Try.prog 86 #[.agg #[.int .i64 p.mx, .slice A1 p.idle.length c1, .slice A2 p.held.length c2, .slice A3 p.wait.length c3], .int .i64 o] w (PAns3 (acqR p o) (acqN p o) (acqB p o) w) := by
  obtain ⟨i0, hi0, hz0, hz1, hz2⟩ := info_parts intInfo
  obtain ⟨ih0, hih0, hzh0, hzh1, hzh2⟩ := info_parts holdInfo
  have H1 := hid h1
  have H2 := hid h2
  have H3 := hid h3
  clear h1 h2 h3
  rcases hk : okB p with _ | _
  · skip
    have EB := hid (show acqB p o = false from Bool.eq_false_iff.2 fun e => by have := okB_iff.2 (acqB_iff.1 e).1; rw [this] at hk; cases hk)
    have HK := hid hk
    clear hk
    have hB1 := Below.refl w.heap.size w
    have hB2 := hB1.alloc hB1.size (.cells #[.int .i64 p.mx, .slice A1 p.idle.length c1, .slice A2 p.held.length c2, .slice A3 p.wait.length c3] 30)
    clear hB1
    have x3 : At (w.alloc (.cells #[.int .i64 p.mx, .slice A1 p.idle.length c1, .slice A2 p.held.length c2, .slice A3 p.wait.length c3] 30)) (w.heap.size) 30 #[.int .i64 p.mx, .slice A1 p.idle.length c1, .slice A2 p.held.length c2, .slice A3 p.wait.length c3] := At.newAt _ _ (by first | rfl | (simp; done) | (simp; omega))
    have hB4 := hB2.alloc hB2.size (.cells #[.int .i64 0, .slice none 0 0, .slice none 0 0, .slice none 0 0] 30)
    have x5 := x3.alloc (.cells #[.int .i64 0, .slice none 0 0, .slice none 0 0, .slice none 0 0] 30)
    clear hB2 x3
    have r6 : At ((w.alloc (.cells #[.int .i64 p.mx, .slice A1 p.idle.length c1, .slice A2 p.held.length c2, .slice A3 p.wait.length c3] 30)).alloc (.cells #[.int .i64 0, .slice none 0 0, .slice none 0 0, .slice none 0 0] 30)) (w.heap.size + 1) 30 #[.int .i64 0, .slice none 0 0, .slice none 0 0, .slice none 0 0] := At.newAt _ _ (by first | rfl | (simp; done) | (simp; omega))
    go_enter Try.func86, Try.ntmps86
    obtain ⟨p0, p1, p2, p3, pl, pf⟩ := (⟨x5.cell 0, x5.cell 1, x5.cell 2, x5.cell 3, x5.lt, x5.frozen⟩ : _ ∧ _ ∧ _ ∧ _ ∧ _ ∧ _)
    obtain ⟨q0, q1, q2, q3, ql, qf⟩ := (⟨r6.cell 0, r6.cell 1, r6.cell 2, r6.cell 3, r6.lt, r6.frozen⟩ : _ ∧ _ ∧ _ ∧ _ ∧ _ ∧ _)
    go_wp2_with fail
    with_reducible refine (svalidPool_any p A1 A2 A3 c1 c2 c3 _ (h.on hB4) H1.out H2.out (Nat.le_trans H3.out (by decide))).mono ?_
    rintro e w1 ⟨he, hb1⟩
    rw [HK.out] at he
    subst he
    have sz1 : w.heap.size + 2 ≤ w1.heap.size := Nat.le_trans (by first | exact Nat.le_refl _ | (simp; done) | (simp; omega)) (hb1.size)
    have hB7 := hB4.trans (hb1.mono hB4.size)
    have x8 := x5.below hb1 x5.lt
    have r9 := r6.below hb1 r6.lt
    clear hB4 x5 r6
    clear p0 p1 p2 p3 pl pf q0 q1 q2 q3 ql qf
    obtain ⟨p0, p1, p2, p3, pl, pf⟩ := (⟨x8.cell 0, x8.cell 1, x8.cell 2, x8.cell 3, x8.lt, x8.frozen⟩ : _ ∧ _ ∧ _ ∧ _ ∧ _ ∧ _)
    obtain ⟨q0, q1, q2, q3, ql, qf⟩ := (⟨r9.cell 0, r9.cell 1, r9.cell 2, r9.cell 3, r9.lt, r9.frozen⟩ : _ ∧ _ ∧ _ ∧ _ ∧ _ ∧ _)
    have hB10 := below_put hB7 (grown_set w1 (w.heap.size + 1) 0 (.int .i64 0)) (by omega) (by have := hB7.size; omega)
    have x11 := x8.past (grown_set w1 (w.heap.size + 1) 0 (.int .i64 0)) (by omega)
    have r12 : At (w1.setCell ⟨w.heap.size + 1, 0, none⟩ (.int .i64 0)) (w.heap.size + 1) 30 #[.int .i64 0, .slice none 0 0, .slice none 0 0, .slice none 0 0] := by simpa using r9.set 0 (.int .i64 0)
    clear hB7 x8 r9
    have hB13 := below_put hB10 (grown_set (w1.setCell ⟨w.heap.size + 1, 0, none⟩ (.int .i64 0)) (w.heap.size + 1) 1 (.slice none 0 0)) (by omega) (by have := hB10.size; omega)
    have x14 := x11.past (grown_set (w1.setCell ⟨w.heap.size + 1, 0, none⟩ (.int .i64 0)) (w.heap.size + 1) 1 (.slice none 0 0)) (by omega)
    have r15 : At ((w1.setCell ⟨w.heap.size + 1, 0, none⟩ (.int .i64 0)).setCell ⟨w.heap.size + 1, 1, none⟩ (.slice none 0 0)) (w.heap.size + 1) 30 #[.int .i64 0, .slice none 0 0, .slice none 0 0, .slice none 0 0] := by simpa using r12.set 1 (.slice none 0 0)
    clear hB10 x11 r12
    have hB16 := below_put hB13 (grown_set ((w1.setCell ⟨w.heap.size + 1, 0, none⟩ (.int .i64 0)).setCell ⟨w.heap.size + 1, 1, none⟩ (.slice none 0 0)) (w.heap.size + 1) 2 (.slice none 0 0)) (by omega) (by have := hB13.size; omega)
    have x17 := x14.past (grown_set ((w1.setCell ⟨w.heap.size + 1, 0, none⟩ (.int .i64 0)).setCell ⟨w.heap.size + 1, 1, none⟩ (.slice none 0 0)) (w.heap.size + 1) 2 (.slice none 0 0)) (by omega)
    have r18 : At (((w1.setCell ⟨w.heap.size + 1, 0, none⟩ (.int .i64 0)).setCell ⟨w.heap.size + 1, 1, none⟩ (.slice none 0 0)).setCell ⟨w.heap.size + 1, 2, none⟩ (.slice none 0 0)) (w.heap.size + 1) 30 #[.int .i64 0, .slice none 0 0, .slice none 0 0, .slice none 0 0] := by simpa using r15.set 2 (.slice none 0 0)
    clear hB13 x14 r15
    have hB19 := below_put hB16 (grown_set (((w1.setCell ⟨w.heap.size + 1, 0, none⟩ (.int .i64 0)).setCell ⟨w.heap.size + 1, 1, none⟩ (.slice none 0 0)).setCell ⟨w.heap.size + 1, 2, none⟩ (.slice none 0 0)) (w.heap.size + 1) 3 (.slice none 0 0)) (by omega) (by have := hB16.size; omega)
    have x20 := x17.past (grown_set (((w1.setCell ⟨w.heap.size + 1, 0, none⟩ (.int .i64 0)).setCell ⟨w.heap.size + 1, 1, none⟩ (.slice none 0 0)).setCell ⟨w.heap.size + 1, 2, none⟩ (.slice none 0 0)) (w.heap.size + 1) 3 (.slice none 0 0)) (by omega)
    have r21 : At ((((w1.setCell ⟨w.heap.size + 1, 0, none⟩ (.int .i64 0)).setCell ⟨w.heap.size + 1, 1, none⟩ (.slice none 0 0)).setCell ⟨w.heap.size + 1, 2, none⟩ (.slice none 0 0)).setCell ⟨w.heap.size + 1, 3, none⟩ (.slice none 0 0)) (w.heap.size + 1) 30 #[.int .i64 0, .slice none 0 0, .slice none 0 0, .slice none 0 0] := by simpa using r18.set 3 (.slice none 0 0)
    clear hB16 x17 r18
    go_wp2
    refine bodyPost_ret (v := .tuple #[.agg #[.int .i64 0, .slice none 0 0, .slice none 0 0, .slice none 0 0], .int .i64 (-1), .bool false]) (by simp [results, Try.results86, go_sem, r21.cell]) rfl ?_
    exact (by rw [(acq_no EB.out).1, (acq_no EB.out).2, EB.out]; exact pans3_zero hB19)
  have hok := okB_iff.1 hk
  have HK := hid hk
  clear hk
  rcases hr : inB o 0 4 with _ | _
  · skip
    have EB := hid (show acqB p o = false from Bool.eq_false_iff.2 fun e => by have := (acqB_iff.1 e).2.1; rw [inB_iff.2 ⟨this.1, by omega⟩] at hr; cases hr)
    have HR := hid hr
    clear hr hok
    have hB22 := Below.refl w.heap.size w
    have hB23 := hB22.alloc hB22.size (.cells #[.int .i64 p.mx, .slice A1 p.idle.length c1, .slice A2 p.held.length c2, .slice A3 p.wait.length c3] 30)
    clear hB22
    have x24 : At (w.alloc (.cells #[.int .i64 p.mx, .slice A1 p.idle.length c1, .slice A2 p.held.length c2, .slice A3 p.wait.length c3] 30)) (w.heap.size) 30 #[.int .i64 p.mx, .slice A1 p.idle.length c1, .slice A2 p.held.length c2, .slice A3 p.wait.length c3] := At.newAt _ _ (by first | rfl | (simp; done) | (simp; omega))
    have hB25 := hB23.alloc hB23.size (.cells #[.int .i64 0, .slice none 0 0, .slice none 0 0, .slice none 0 0] 30)
    have x26 := x24.alloc (.cells #[.int .i64 0, .slice none 0 0, .slice none 0 0, .slice none 0 0] 30)
    clear hB23 x24
    have r27 : At ((w.alloc (.cells #[.int .i64 p.mx, .slice A1 p.idle.length c1, .slice A2 p.held.length c2, .slice A3 p.wait.length c3] 30)).alloc (.cells #[.int .i64 0, .slice none 0 0, .slice none 0 0, .slice none 0 0] 30)) (w.heap.size + 1) 30 #[.int .i64 0, .slice none 0 0, .slice none 0 0, .slice none 0 0] := At.newAt _ _ (by first | rfl | (simp; done) | (simp; omega))
    go_enter Try.func86, Try.ntmps86
    obtain ⟨p0, p1, p2, p3, pl, pf⟩ := (⟨x26.cell 0, x26.cell 1, x26.cell 2, x26.cell 3, x26.lt, x26.frozen⟩ : _ ∧ _ ∧ _ ∧ _ ∧ _ ∧ _)
    obtain ⟨q0, q1, q2, q3, ql, qf⟩ := (⟨r27.cell 0, r27.cell 1, r27.cell 2, r27.cell 3, r27.lt, r27.frozen⟩ : _ ∧ _ ∧ _ ∧ _ ∧ _ ∧ _)
    go_wp2_with fail
    with_reducible refine (svalidPool_any p A1 A2 A3 c1 c2 c3 _ (h.on hB25) H1.out H2.out (Nat.le_trans H3.out (by decide))).mono ?_
    rintro e w1 ⟨he, hb1⟩
    rw [HK.out] at he
    subst he
    have sz1 : w.heap.size + 2 ≤ w1.heap.size := Nat.le_trans (by first | exact Nat.le_refl _ | (simp; done) | (simp; omega)) (hb1.size)
    have hB28 := hB25.trans (hb1.mono hB25.size)
    have x29 := x26.below hb1 x26.lt
    have r30 := r27.below hb1 r27.lt
    clear hB25 x26 r27
    clear p0 p1 p2 p3 pl pf q0 q1 q2 q3 ql qf
    obtain ⟨p0, p1, p2, p3, pl, pf⟩ := (⟨x29.cell 0, x29.cell 1, x29.cell 2, x29.cell 3, x29.lt, x29.frozen⟩ : _ ∧ _ ∧ _ ∧ _ ∧ _ ∧ _)
    obtain ⟨q0, q1, q2, q3, ql, qf⟩ := (⟨r30.cell 0, r30.cell 1, r30.cell 2, r30.cell 3, r30.lt, r30.frozen⟩ : _ ∧ _ ∧ _ ∧ _ ∧ _ ∧ _)
    go_wp2_with fail
    with_reducible refine (inRange_any o 0 4 _).mono ?_
    rintro e w' ⟨he, rfl⟩
    rw [HR.out] at he
    subst he
    clear p0 p1 p2 p3 pl pf q0 q1 q2 q3 ql qf
    obtain ⟨p0, p1, p2, p3, pl, pf⟩ := (⟨x29.cell 0, x29.cell 1, x29.cell 2, x29.cell 3, x29.lt, x29.frozen⟩ : _ ∧ _ ∧ _ ∧ _ ∧ _ ∧ _)
    obtain ⟨q0, q1, q2, q3, ql, qf⟩ := (⟨r30.cell 0, r30.cell 1, r30.cell 2, r30.cell 3, r30.lt, r30.frozen⟩ : _ ∧ _ ∧ _ ∧ _ ∧ _ ∧ _)
    have hB31 := below_put hB28 (grown_set w1 (w.heap.size + 1) 0 (.int .i64 0)) (by omega) (by have := hB28.size; omega)
    have x32 := x29.past (grown_set w1 (w.heap.size + 1) 0 (.int .i64 0)) (by omega)
    have r33 : At (w1.setCell ⟨w.heap.size + 1, 0, none⟩ (.int .i64 0)) (w.heap.size + 1) 30 #[.int .i64 0, .slice none 0 0, .slice none 0 0, .slice none 0 0] := by simpa using r30.set 0 (.int .i64 0)
    clear hB28 x29 r30
    have hB34 := below_put hB31 (grown_set (w1.setCell ⟨w.heap.size + 1, 0, none⟩ (.int .i64 0)) (w.heap.size + 1) 1 (.slice none 0 0)) (by omega) (by have := hB31.size; omega)
    have x35 := x32.past (grown_set (w1.setCell ⟨w.heap.size + 1, 0, none⟩ (.int .i64 0)) (w.heap.size + 1) 1 (.slice none 0 0)) (by omega)
    have r36 : At ((w1.setCell ⟨w.heap.size + 1, 0, none⟩ (.int .i64 0)).setCell ⟨w.heap.size + 1, 1, none⟩ (.slice none 0 0)) (w.heap.size + 1) 30 #[.int .i64 0, .slice none 0 0, .slice none 0 0, .slice none 0 0] := by simpa using r33.set 1 (.slice none 0 0)
    clear hB31 x32 r33
    have hB37 := below_put hB34 (grown_set ((w1.setCell ⟨w.heap.size + 1, 0, none⟩ (.int .i64 0)).setCell ⟨w.heap.size + 1, 1, none⟩ (.slice none 0 0)) (w.heap.size + 1) 2 (.slice none 0 0)) (by omega) (by have := hB34.size; omega)
    have x38 := x35.past (grown_set ((w1.setCell ⟨w.heap.size + 1, 0, none⟩ (.int .i64 0)).setCell ⟨w.heap.size + 1, 1, none⟩ (.slice none 0 0)) (w.heap.size + 1) 2 (.slice none 0 0)) (by omega)
    have r39 : At (((w1.setCell ⟨w.heap.size + 1, 0, none⟩ (.int .i64 0)).setCell ⟨w.heap.size + 1, 1, none⟩ (.slice none 0 0)).setCell ⟨w.heap.size + 1, 2, none⟩ (.slice none 0 0)) (w.heap.size + 1) 30 #[.int .i64 0, .slice none 0 0, .slice none 0 0, .slice none 0 0] := by simpa using r36.set 2 (.slice none 0 0)
    clear hB34 x35 r36
    have hB40 := below_put hB37 (grown_set (((w1.setCell ⟨w.heap.size + 1, 0, none⟩ (.int .i64 0)).setCell ⟨w.heap.size + 1, 1, none⟩ (.slice none 0 0)).setCell ⟨w.heap.size + 1, 2, none⟩ (.slice none 0 0)) (w.heap.size + 1) 3 (.slice none 0 0)) (by omega) (by have := hB37.size; omega)
    have x41 := x38.past (grown_set (((w1.setCell ⟨w.heap.size + 1, 0, none⟩ (.int .i64 0)).setCell ⟨w.heap.size + 1, 1, none⟩ (.slice none 0 0)).setCell ⟨w.heap.size + 1, 2, none⟩ (.slice none 0 0)) (w.heap.size + 1) 3 (.slice none 0 0)) (by omega)
    have r42 : At ((((w1.setCell ⟨w.heap.size + 1, 0, none⟩ (.int .i64 0)).setCell ⟨w.heap.size + 1, 1, none⟩ (.slice none 0 0)).setCell ⟨w.heap.size + 1, 2, none⟩ (.slice none 0 0)).setCell ⟨w.heap.size + 1, 3, none⟩ (.slice none 0 0)) (w.heap.size + 1) 30 #[.int .i64 0, .slice none 0 0, .slice none 0 0, .slice none 0 0] := by simpa using r39.set 3 (.slice none 0 0)
    clear hB37 x38 r39
    go_wp2
    refine bodyPost_ret (v := .tuple #[.agg #[.int .i64 0, .slice none 0 0, .slice none 0 0, .slice none 0 0], .int .i64 (-1), .bool false]) (by simp [results, Try.results86, go_sem, r42.cell]) rfl ?_
    exact (by rw [(acq_no EB.out).1, (acq_no EB.out).2, EB.out]; exact pans3_zero hB40)
  have hin := inB_iff.1 hr
  have HR := hid hr
  clear hr
  have hacq := acq_ok (o := o) hok hin.1 (by omega)
  obtain ⟨l1, l2, l3⟩ := acqP_len p o
  rcases hv : okB (acqP p o) with _ | _
  · skip
    have EB := hid (show acqB p o = false from Bool.eq_false_iff.2 fun e => by have := okB_iff.2 (hacq.2 (acqB_iff.1 e).2.2); rw [this] at hv; cases hv)
    clear hacq
    obtain ⟨R, hR⟩ : ∃ R, R = acqP p o := ⟨_, rfl⟩
    rw [← hR] at hv l1 l2 l3
    have HRR := hid hR.symm
    clear hR
    obtain ⟨C, hC⟩ : ∃ C, C = acqC p := ⟨_, rfl⟩
    have HN := hid hC.symm
    clear hC
    have HV := hid hv
    clear hv
    replace l1 : R.idle.length ≤ 2097152 := Nat.le_trans l1 H1.out
    have hsm := hok.small
    replace l2 : R.held.length ≤ 2097152 := by omega
    replace l3 : R.wait.length ≤ 4194304 := by omega
    clear hsm
    have hB43 := Below.refl w.heap.size w
    have hB44 := hB43.alloc hB43.size (.cells #[.int .i64 p.mx, .slice A1 p.idle.length c1, .slice A2 p.held.length c2, .slice A3 p.wait.length c3] 30)
    clear hB43
    have x45 : At (w.alloc (.cells #[.int .i64 p.mx, .slice A1 p.idle.length c1, .slice A2 p.held.length c2, .slice A3 p.wait.length c3] 30)) (w.heap.size) 30 #[.int .i64 p.mx, .slice A1 p.idle.length c1, .slice A2 p.held.length c2, .slice A3 p.wait.length c3] := At.newAt _ _ (by first | rfl | (simp; done) | (simp; omega))
    have hB46 := hB44.alloc hB44.size (.cells #[.int .i64 0, .slice none 0 0, .slice none 0 0, .slice none 0 0] 30)
    have x47 := x45.alloc (.cells #[.int .i64 0, .slice none 0 0, .slice none 0 0, .slice none 0 0] 30)
    clear hB44 x45
    have r48 : At ((w.alloc (.cells #[.int .i64 p.mx, .slice A1 p.idle.length c1, .slice A2 p.held.length c2, .slice A3 p.wait.length c3] 30)).alloc (.cells #[.int .i64 0, .slice none 0 0, .slice none 0 0, .slice none 0 0] 30)) (w.heap.size + 1) 30 #[.int .i64 0, .slice none 0 0, .slice none 0 0, .slice none 0 0] := At.newAt _ _ (by first | rfl | (simp; done) | (simp; omega))
    go_enter Try.func86, Try.ntmps86
    obtain ⟨p0, p1, p2, p3, pl, pf⟩ := (⟨x47.cell 0, x47.cell 1, x47.cell 2, x47.cell 3, x47.lt, x47.frozen⟩ : _ ∧ _ ∧ _ ∧ _ ∧ _ ∧ _)
    obtain ⟨q0, q1, q2, q3, ql, qf⟩ := (⟨r48.cell 0, r48.cell 1, r48.cell 2, r48.cell 3, r48.lt, r48.frozen⟩ : _ ∧ _ ∧ _ ∧ _ ∧ _ ∧ _)
    go_wp2_with fail
    with_reducible refine (svalidPool_any p A1 A2 A3 c1 c2 c3 _ (h.on hB46) H1.out H2.out (Nat.le_trans H3.out (by decide))).mono ?_
    rintro e w1 ⟨he, hb1⟩
    rw [HK.out] at he
    subst he
    have sz1 : w.heap.size + 2 ≤ w1.heap.size := Nat.le_trans (by first | exact Nat.le_refl _ | (simp; done) | (simp; omega)) (hb1.size)
    have hB49 := hB46.trans (hb1.mono hB46.size)
    have x50 := x47.below hb1 x47.lt
    have r51 := r48.below hb1 r48.lt
    clear hB46 x47 r48
    clear p0 p1 p2 p3 pl pf q0 q1 q2 q3 ql qf
    obtain ⟨p0, p1, p2, p3, pl, pf⟩ := (⟨x50.cell 0, x50.cell 1, x50.cell 2, x50.cell 3, x50.lt, x50.frozen⟩ : _ ∧ _ ∧ _ ∧ _ ∧ _ ∧ _)
    obtain ⟨q0, q1, q2, q3, ql, qf⟩ := (⟨r51.cell 0, r51.cell 1, r51.cell 2, r51.cell 3, r51.lt, r51.frozen⟩ : _ ∧ _ ∧ _ ∧ _ ∧ _ ∧ _)
    go_wp2_with fail
    with_reducible refine (inRange_any o 0 4 _).mono ?_
    rintro e w' ⟨he, rfl⟩
    rw [HR.out] at he
    subst he
    clear p0 p1 p2 p3 pl pf q0 q1 q2 q3 ql qf
    obtain ⟨p0, p1, p2, p3, pl, pf⟩ := (⟨x50.cell 0, x50.cell 1, x50.cell 2, x50.cell 3, x50.lt, x50.frozen⟩ : _ ∧ _ ∧ _ ∧ _ ∧ _ ∧ _)
    obtain ⟨q0, q1, q2, q3, ql, qf⟩ := (⟨r51.cell 0, r51.cell 1, r51.cell 2, r51.cell 3, r51.lt, r51.frozen⟩ : _ ∧ _ ∧ _ ∧ _ ∧ _ ∧ _)
    go_wp2_with fail
    with_reducible refine (sacquire_any p A1 A2 A3 c1 c2 c3 o _ (h.on hB49) hok hcap H1.out H2.out H3.out).mono ?_
    rintro e w2 ⟨B1, B2, B3, d1, d2, d3, he, ho, hb2⟩
    rw [HN.out] at he
    rw [HRR.out] at he ho
    subst he
    have sz2 : w1.heap.size ≤ w2.heap.size := Nat.le_trans (by first | exact Nat.le_refl _ | (simp; done) | (simp; omega)) (hb2.size)
    have hB52 := hB49.trans (hb2.mono hB49.size)
    have x53 := x50.below hb2 x50.lt
    have r54 := r51.below hb2 r51.lt
    clear hB49 x50 r51
    clear p0 p1 p2 p3 pl pf q0 q1 q2 q3 ql qf
    have o55 := ho.mono (show w.heap.size + 2 ≤ _ by omega)
    clear ho
    obtain ⟨p0, p1, p2, p3, pl, pf⟩ := (⟨x53.cell 0, x53.cell 1, x53.cell 2, x53.cell 3, x53.lt, x53.frozen⟩ : _ ∧ _ ∧ _ ∧ _ ∧ _ ∧ _)
    obtain ⟨q0, q1, q2, q3, ql, qf⟩ := (⟨r54.cell 0, r54.cell 1, r54.cell 2, r54.cell 3, r54.lt, r54.frozen⟩ : _ ∧ _ ∧ _ ∧ _ ∧ _ ∧ _)
    have hB56 := hB52.alloc hB52.size (.cells #[.int .i64 R.mx, .slice B1 R.idle.length d1, .slice B2 R.held.length d2, .slice B3 R.wait.length d3] 30)
    have x57 := x53.alloc (.cells #[.int .i64 R.mx, .slice B1 R.idle.length d1, .slice B2 R.held.length d2, .slice B3 R.wait.length d3] 30)
    have r58 := r54.alloc (.cells #[.int .i64 R.mx, .slice B1 R.idle.length d1, .slice B2 R.held.length d2, .slice B3 R.wait.length d3] 30)
    have o59 := o55.alloc (.cells #[.int .i64 R.mx, .slice B1 R.idle.length d1, .slice B2 R.held.length d2, .slice B3 R.wait.length d3] 30)
    clear hB52 x53 r54 o55
    have t60 : At (w2.alloc (.cells #[.int .i64 R.mx, .slice B1 R.idle.length d1, .slice B2 R.held.length d2, .slice B3 R.wait.length d3] 30)) (w2.heap.size) 30 #[.int .i64 R.mx, .slice B1 R.idle.length d1, .slice B2 R.held.length d2, .slice B3 R.wait.length d3] := At.newAt _ _ (by first | rfl | (simp; done) | (simp; omega))
    go_wp2_with fail
    with_reducible refine (svalidPool_any R B1 B2 B3 d1 d2 d3 _ o59.sees l1 l2 l3).mono ?_
    rintro e w3 ⟨he, hb3⟩
    rw [HV.out] at he
    subst he
    have sz3 : w2.heap.size + 1 ≤ w3.heap.size := Nat.le_trans (by first | exact Nat.le_refl _ | (simp; done) | (simp; omega)) (hb3.size)
    have hB61 := hB56.trans (hb3.mono hB56.size)
    have x62 := x57.below hb3 x57.lt
    have r63 := r58.below hb3 r58.lt
    have o64 := o59.below hb3
    have t65 := t60.below hb3 t60.lt
    clear hB56 x57 r58 o59 t60
    clear p0 p1 p2 p3 pl pf q0 q1 q2 q3 ql qf
    obtain ⟨p0, p1, p2, p3, pl, pf⟩ := (⟨x62.cell 0, x62.cell 1, x62.cell 2, x62.cell 3, x62.lt, x62.frozen⟩ : _ ∧ _ ∧ _ ∧ _ ∧ _ ∧ _)
    obtain ⟨q0, q1, q2, q3, ql, qf⟩ := (⟨r63.cell 0, r63.cell 1, r63.cell 2, r63.cell 3, r63.lt, r63.frozen⟩ : _ ∧ _ ∧ _ ∧ _ ∧ _ ∧ _)
    obtain ⟨t0, t1, t2, t3, tl, tf⟩ := (⟨t65.cell 0, t65.cell 1, t65.cell 2, t65.cell 3, t65.lt, t65.frozen⟩ : _ ∧ _ ∧ _ ∧ _ ∧ _ ∧ _)
    have ne_pq : ¬ w.heap.size = w.heap.size + 1 := by omega
    have ne_qp : ¬ w.heap.size + 1 = w.heap.size := by omega
    have ne_pt : ¬ w.heap.size = w2.heap.size := by omega
    have ne_tp : ¬ w2.heap.size = w.heap.size := by omega
    have ne_qt : ¬ w.heap.size + 1 = w2.heap.size := by omega
    have ne_tq : ¬ w2.heap.size = w.heap.size + 1 := by omega
    have hB66 := below_put hB61 (grown_set w3 (w.heap.size + 1) 0 (.int .i64 0)) (by omega) (by have := hB61.size; omega)
    have x67 := x62.past (grown_set w3 (w.heap.size + 1) 0 (.int .i64 0)) (by omega)
    have o68 := o64.past r63 (grown_set w3 (w.heap.size + 1) 0 (.int .i64 0))
    have t69 := t65.past (grown_set w3 (w.heap.size + 1) 0 (.int .i64 0)) (by omega)
    have r70 : At (w3.setCell ⟨w.heap.size + 1, 0, none⟩ (.int .i64 0)) (w.heap.size + 1) 30 #[.int .i64 0, .slice none 0 0, .slice none 0 0, .slice none 0 0] := by simpa using r63.set 0 (.int .i64 0)
    clear hB61 x62 o64 t65 r63
    have hB71 := below_put hB66 (grown_set (w3.setCell ⟨w.heap.size + 1, 0, none⟩ (.int .i64 0)) (w.heap.size + 1) 1 (.slice none 0 0)) (by omega) (by have := hB66.size; omega)
    have x72 := x67.past (grown_set (w3.setCell ⟨w.heap.size + 1, 0, none⟩ (.int .i64 0)) (w.heap.size + 1) 1 (.slice none 0 0)) (by omega)
    have o73 := o68.past r70 (grown_set (w3.setCell ⟨w.heap.size + 1, 0, none⟩ (.int .i64 0)) (w.heap.size + 1) 1 (.slice none 0 0))
    have t74 := t69.past (grown_set (w3.setCell ⟨w.heap.size + 1, 0, none⟩ (.int .i64 0)) (w.heap.size + 1) 1 (.slice none 0 0)) (by omega)
    have r75 : At ((w3.setCell ⟨w.heap.size + 1, 0, none⟩ (.int .i64 0)).setCell ⟨w.heap.size + 1, 1, none⟩ (.slice none 0 0)) (w.heap.size + 1) 30 #[.int .i64 0, .slice none 0 0, .slice none 0 0, .slice none 0 0] := by simpa using r70.set 1 (.slice none 0 0)
    clear hB66 x67 o68 t69 r70
    have hB76 := below_put hB71 (grown_set ((w3.setCell ⟨w.heap.size + 1, 0, none⟩ (.int .i64 0)).setCell ⟨w.heap.size + 1, 1, none⟩ (.slice none 0 0)) (w.heap.size + 1) 2 (.slice none 0 0)) (by omega) (by have := hB71.size; omega)
    have x77 := x72.past (grown_set ((w3.setCell ⟨w.heap.size + 1, 0, none⟩ (.int .i64 0)).setCell ⟨w.heap.size + 1, 1, none⟩ (.slice none 0 0)) (w.heap.size + 1) 2 (.slice none 0 0)) (by omega)
    have o78 := o73.past r75 (grown_set ((w3.setCell ⟨w.heap.size + 1, 0, none⟩ (.int .i64 0)).setCell ⟨w.heap.size + 1, 1, none⟩ (.slice none 0 0)) (w.heap.size + 1) 2 (.slice none 0 0))
    have t79 := t74.past (grown_set ((w3.setCell ⟨w.heap.size + 1, 0, none⟩ (.int .i64 0)).setCell ⟨w.heap.size + 1, 1, none⟩ (.slice none 0 0)) (w.heap.size + 1) 2 (.slice none 0 0)) (by omega)
    have r80 : At (((w3.setCell ⟨w.heap.size + 1, 0, none⟩ (.int .i64 0)).setCell ⟨w.heap.size + 1, 1, none⟩ (.slice none 0 0)).setCell ⟨w.heap.size + 1, 2, none⟩ (.slice none 0 0)) (w.heap.size + 1) 30 #[.int .i64 0, .slice none 0 0, .slice none 0 0, .slice none 0 0] := by simpa using r75.set 2 (.slice none 0 0)
    clear hB71 x72 o73 t74 r75
    have hB81 := below_put hB76 (grown_set (((w3.setCell ⟨w.heap.size + 1, 0, none⟩ (.int .i64 0)).setCell ⟨w.heap.size + 1, 1, none⟩ (.slice none 0 0)).setCell ⟨w.heap.size + 1, 2, none⟩ (.slice none 0 0)) (w.heap.size + 1) 3 (.slice none 0 0)) (by omega) (by have := hB76.size; omega)
    have x82 := x77.past (grown_set (((w3.setCell ⟨w.heap.size + 1, 0, none⟩ (.int .i64 0)).setCell ⟨w.heap.size + 1, 1, none⟩ (.slice none 0 0)).setCell ⟨w.heap.size + 1, 2, none⟩ (.slice none 0 0)) (w.heap.size + 1) 3 (.slice none 0 0)) (by omega)
    have o83 := o78.past r80 (grown_set (((w3.setCell ⟨w.heap.size + 1, 0, none⟩ (.int .i64 0)).setCell ⟨w.heap.size + 1, 1, none⟩ (.slice none 0 0)).setCell ⟨w.heap.size + 1, 2, none⟩ (.slice none 0 0)) (w.heap.size + 1) 3 (.slice none 0 0))
    have t84 := t79.past (grown_set (((w3.setCell ⟨w.heap.size + 1, 0, none⟩ (.int .i64 0)).setCell ⟨w.heap.size + 1, 1, none⟩ (.slice none 0 0)).setCell ⟨w.heap.size + 1, 2, none⟩ (.slice none 0 0)) (w.heap.size + 1) 3 (.slice none 0 0)) (by omega)
    have r85 : At ((((w3.setCell ⟨w.heap.size + 1, 0, none⟩ (.int .i64 0)).setCell ⟨w.heap.size + 1, 1, none⟩ (.slice none 0 0)).setCell ⟨w.heap.size + 1, 2, none⟩ (.slice none 0 0)).setCell ⟨w.heap.size + 1, 3, none⟩ (.slice none 0 0)) (w.heap.size + 1) 30 #[.int .i64 0, .slice none 0 0, .slice none 0 0, .slice none 0 0] := by simpa using r80.set 3 (.slice none 0 0)
    clear hB76 x77 o78 t79 r80
    go_wp2
    refine bodyPost_ret (v := .tuple #[.agg #[.int .i64 0, .slice none 0 0, .slice none 0 0, .slice none 0 0], .int .i64 (-1), .bool false]) (by simp [results, Try.results86, go_sem, r85.cell]) rfl ?_
    exact (by rw [(acq_no EB.out).1, (acq_no EB.out).2, EB.out]; exact pans3_zero hB81)
  · skip
    have hb : acqB p o = true := acqB_iff.2 ⟨hok, ⟨hin.1, by omega⟩, hacq.1 (okB_iff.1 hv)⟩
    obtain ⟨e1, e2⟩ := acq_yes hb
    have EB := hid hb
    have E1 := hid e1
    have E2 := hid e2
    clear hacq e1 e2 hb
    obtain ⟨R, hR⟩ : ∃ R, R = acqP p o := ⟨_, rfl⟩
    rw [← hR] at hv l1 l2 l3
    have HRR := hid hR.symm
    clear hR
    obtain ⟨C, hC⟩ : ∃ C, C = acqC p := ⟨_, rfl⟩
    have HN := hid hC.symm
    clear hC
    have HV := hid hv
    clear hv
    replace l1 : R.idle.length ≤ 2097152 := Nat.le_trans l1 H1.out
    have hsm := hok.small
    replace l2 : R.held.length ≤ 2097152 := by omega
    replace l3 : R.wait.length ≤ 4194304 := by omega
    clear hsm
    have hB86 := Below.refl w.heap.size w
    have hB87 := hB86.alloc hB86.size (.cells #[.int .i64 p.mx, .slice A1 p.idle.length c1, .slice A2 p.held.length c2, .slice A3 p.wait.length c3] 30)
    clear hB86
    have x88 : At (w.alloc (.cells #[.int .i64 p.mx, .slice A1 p.idle.length c1, .slice A2 p.held.length c2, .slice A3 p.wait.length c3] 30)) (w.heap.size) 30 #[.int .i64 p.mx, .slice A1 p.idle.length c1, .slice A2 p.held.length c2, .slice A3 p.wait.length c3] := At.newAt _ _ (by first | rfl | (simp; done) | (simp; omega))
    have hB89 := hB87.alloc hB87.size (.cells #[.int .i64 0, .slice none 0 0, .slice none 0 0, .slice none 0 0] 30)
    have x90 := x88.alloc (.cells #[.int .i64 0, .slice none 0 0, .slice none 0 0, .slice none 0 0] 30)
    clear hB87 x88
    have r91 : At ((w.alloc (.cells #[.int .i64 p.mx, .slice A1 p.idle.length c1, .slice A2 p.held.length c2, .slice A3 p.wait.length c3] 30)).alloc (.cells #[.int .i64 0, .slice none 0 0, .slice none 0 0, .slice none 0 0] 30)) (w.heap.size + 1) 30 #[.int .i64 0, .slice none 0 0, .slice none 0 0, .slice none 0 0] := At.newAt _ _ (by first | rfl | (simp; done) | (simp; omega))
    go_enter Try.func86, Try.ntmps86
    obtain ⟨p0, p1, p2, p3, pl, pf⟩ := (⟨x90.cell 0, x90.cell 1, x90.cell 2, x90.cell 3, x90.lt, x90.frozen⟩ : _ ∧ _ ∧ _ ∧ _ ∧ _ ∧ _)
    obtain ⟨q0, q1, q2, q3, ql, qf⟩ := (⟨r91.cell 0, r91.cell 1, r91.cell 2, r91.cell 3, r91.lt, r91.frozen⟩ : _ ∧ _ ∧ _ ∧ _ ∧ _ ∧ _)
    go_wp2_with fail
    with_reducible refine (svalidPool_any p A1 A2 A3 c1 c2 c3 _ (h.on hB89) H1.out H2.out (Nat.le_trans H3.out (by decide))).mono ?_
    rintro e w1 ⟨he, hb1⟩
    rw [HK.out] at he
    subst he
    have sz1 : w.heap.size + 2 ≤ w1.heap.size := Nat.le_trans (by first | exact Nat.le_refl _ | (simp; done) | (simp; omega)) (hb1.size)
    have hB92 := hB89.trans (hb1.mono hB89.size)
    have x93 := x90.below hb1 x90.lt
    have r94 := r91.below hb1 r91.lt
    clear hB89 x90 r91
    clear p0 p1 p2 p3 pl pf q0 q1 q2 q3 ql qf
    obtain ⟨p0, p1, p2, p3, pl, pf⟩ := (⟨x93.cell 0, x93.cell 1, x93.cell 2, x93.cell 3, x93.lt, x93.frozen⟩ : _ ∧ _ ∧ _ ∧ _ ∧ _ ∧ _)
    obtain ⟨q0, q1, q2, q3, ql, qf⟩ := (⟨r94.cell 0, r94.cell 1, r94.cell 2, r94.cell 3, r94.lt, r94.frozen⟩ : _ ∧ _ ∧ _ ∧ _ ∧ _ ∧ _)
    go_wp2_with fail
    with_reducible refine (inRange_any o 0 4 _).mono ?_
    rintro e w' ⟨he, rfl⟩
    rw [HR.out] at he
    subst he
    clear p0 p1 p2 p3 pl pf q0 q1 q2 q3 ql qf
    obtain ⟨p0, p1, p2, p3, pl, pf⟩ := (⟨x93.cell 0, x93.cell 1, x93.cell 2, x93.cell 3, x93.lt, x93.frozen⟩ : _ ∧ _ ∧ _ ∧ _ ∧ _ ∧ _)
    obtain ⟨q0, q1, q2, q3, ql, qf⟩ := (⟨r94.cell 0, r94.cell 1, r94.cell 2, r94.cell 3, r94.lt, r94.frozen⟩ : _ ∧ _ ∧ _ ∧ _ ∧ _ ∧ _)
    go_wp2_with fail
    with_reducible refine (sacquire_any p A1 A2 A3 c1 c2 c3 o _ (h.on hB92) hok hcap H1.out H2.out H3.out).mono ?_
    rintro e w2 ⟨B1, B2, B3, d1, d2, d3, he, ho, hb2⟩
    rw [HN.out] at he
    rw [HRR.out] at he ho
    subst he
    have sz2 : w1.heap.size ≤ w2.heap.size := Nat.le_trans (by first | exact Nat.le_refl _ | (simp; done) | (simp; omega)) (hb2.size)
    have hB95 := hB92.trans (hb2.mono hB92.size)
    have x96 := x93.below hb2 x93.lt
    have r97 := r94.below hb2 r94.lt
    clear hB92 x93 r94
    clear p0 p1 p2 p3 pl pf q0 q1 q2 q3 ql qf
    have o98 := ho.mono (show w.heap.size + 2 ≤ _ by omega)
    clear ho
    obtain ⟨p0, p1, p2, p3, pl, pf⟩ := (⟨x96.cell 0, x96.cell 1, x96.cell 2, x96.cell 3, x96.lt, x96.frozen⟩ : _ ∧ _ ∧ _ ∧ _ ∧ _ ∧ _)
    obtain ⟨q0, q1, q2, q3, ql, qf⟩ := (⟨r97.cell 0, r97.cell 1, r97.cell 2, r97.cell 3, r97.lt, r97.frozen⟩ : _ ∧ _ ∧ _ ∧ _ ∧ _ ∧ _)
    have hB99 := hB95.alloc hB95.size (.cells #[.int .i64 R.mx, .slice B1 R.idle.length d1, .slice B2 R.held.length d2, .slice B3 R.wait.length d3] 30)
    have x100 := x96.alloc (.cells #[.int .i64 R.mx, .slice B1 R.idle.length d1, .slice B2 R.held.length d2, .slice B3 R.wait.length d3] 30)
    have r101 := r97.alloc (.cells #[.int .i64 R.mx, .slice B1 R.idle.length d1, .slice B2 R.held.length d2, .slice B3 R.wait.length d3] 30)
    have o102 := o98.alloc (.cells #[.int .i64 R.mx, .slice B1 R.idle.length d1, .slice B2 R.held.length d2, .slice B3 R.wait.length d3] 30)
    clear hB95 x96 r97 o98
    have t103 : At (w2.alloc (.cells #[.int .i64 R.mx, .slice B1 R.idle.length d1, .slice B2 R.held.length d2, .slice B3 R.wait.length d3] 30)) (w2.heap.size) 30 #[.int .i64 R.mx, .slice B1 R.idle.length d1, .slice B2 R.held.length d2, .slice B3 R.wait.length d3] := At.newAt _ _ (by first | rfl | (simp; done) | (simp; omega))
    go_wp2_with fail
    with_reducible refine (svalidPool_any R B1 B2 B3 d1 d2 d3 _ o102.sees l1 l2 l3).mono ?_
    rintro e w3 ⟨he, hb3⟩
    rw [HV.out] at he
    subst he
    have sz3 : w2.heap.size + 1 ≤ w3.heap.size := Nat.le_trans (by first | exact Nat.le_refl _ | (simp; done) | (simp; omega)) (hb3.size)
    have hB104 := hB99.trans (hb3.mono hB99.size)
    have x105 := x100.below hb3 x100.lt
    have r106 := r101.below hb3 r101.lt
    have o107 := o102.below hb3
    have t108 := t103.below hb3 t103.lt
    clear hB99 x100 r101 o102 t103
    clear p0 p1 p2 p3 pl pf q0 q1 q2 q3 ql qf
    obtain ⟨p0, p1, p2, p3, pl, pf⟩ := (⟨x105.cell 0, x105.cell 1, x105.cell 2, x105.cell 3, x105.lt, x105.frozen⟩ : _ ∧ _ ∧ _ ∧ _ ∧ _ ∧ _)
    obtain ⟨q0, q1, q2, q3, ql, qf⟩ := (⟨r106.cell 0, r106.cell 1, r106.cell 2, r106.cell 3, r106.lt, r106.frozen⟩ : _ ∧ _ ∧ _ ∧ _ ∧ _ ∧ _)
    obtain ⟨t0, t1, t2, t3, tl, tf⟩ := (⟨t108.cell 0, t108.cell 1, t108.cell 2, t108.cell 3, t108.lt, t108.frozen⟩ : _ ∧ _ ∧ _ ∧ _ ∧ _ ∧ _)
    have ne_pq : ¬ w.heap.size = w.heap.size + 1 := by omega
    have ne_qp : ¬ w.heap.size + 1 = w.heap.size := by omega
    have ne_pt : ¬ w.heap.size = w2.heap.size := by omega
    have ne_tp : ¬ w2.heap.size = w.heap.size := by omega
    have ne_qt : ¬ w.heap.size + 1 = w2.heap.size := by omega
    have ne_tq : ¬ w2.heap.size = w.heap.size + 1 := by omega
    have hB109 := below_put hB104 (grown_set w3 (w.heap.size + 1) 0 (.int .i64 R.mx)) (by omega) (by have := hB104.size; omega)
    have x110 := x105.past (grown_set w3 (w.heap.size + 1) 0 (.int .i64 R.mx)) (by omega)
    have o111 := o107.past r106 (grown_set w3 (w.heap.size + 1) 0 (.int .i64 R.mx))
    have t112 := t108.past (grown_set w3 (w.heap.size + 1) 0 (.int .i64 R.mx)) (by omega)
    have r113 : At (w3.setCell ⟨w.heap.size + 1, 0, none⟩ (.int .i64 R.mx)) (w.heap.size + 1) 30 #[.int .i64 R.mx, .slice none 0 0, .slice none 0 0, .slice none 0 0] := by simpa using r106.set 0 (.int .i64 R.mx)
    clear hB104 x105 o107 t108 r106
    have hB114 := below_put hB109 (grown_set (w3.setCell ⟨w.heap.size + 1, 0, none⟩ (.int .i64 R.mx)) (w.heap.size + 1) 1 (.slice B1 R.idle.length d1)) (by omega) (by have := hB109.size; omega)
    have x115 := x110.past (grown_set (w3.setCell ⟨w.heap.size + 1, 0, none⟩ (.int .i64 R.mx)) (w.heap.size + 1) 1 (.slice B1 R.idle.length d1)) (by omega)
    have o116 := o111.past r113 (grown_set (w3.setCell ⟨w.heap.size + 1, 0, none⟩ (.int .i64 R.mx)) (w.heap.size + 1) 1 (.slice B1 R.idle.length d1))
    have t117 := t112.past (grown_set (w3.setCell ⟨w.heap.size + 1, 0, none⟩ (.int .i64 R.mx)) (w.heap.size + 1) 1 (.slice B1 R.idle.length d1)) (by omega)
    have r118 : At ((w3.setCell ⟨w.heap.size + 1, 0, none⟩ (.int .i64 R.mx)).setCell ⟨w.heap.size + 1, 1, none⟩ (.slice B1 R.idle.length d1)) (w.heap.size + 1) 30 #[.int .i64 R.mx, .slice B1 R.idle.length d1, .slice none 0 0, .slice none 0 0] := by simpa using r113.set 1 (.slice B1 R.idle.length d1)
    clear hB109 x110 o111 t112 r113
    have hB119 := below_put hB114 (grown_set ((w3.setCell ⟨w.heap.size + 1, 0, none⟩ (.int .i64 R.mx)).setCell ⟨w.heap.size + 1, 1, none⟩ (.slice B1 R.idle.length d1)) (w.heap.size + 1) 2 (.slice B2 R.held.length d2)) (by omega) (by have := hB114.size; omega)
    have x120 := x115.past (grown_set ((w3.setCell ⟨w.heap.size + 1, 0, none⟩ (.int .i64 R.mx)).setCell ⟨w.heap.size + 1, 1, none⟩ (.slice B1 R.idle.length d1)) (w.heap.size + 1) 2 (.slice B2 R.held.length d2)) (by omega)
    have o121 := o116.past r118 (grown_set ((w3.setCell ⟨w.heap.size + 1, 0, none⟩ (.int .i64 R.mx)).setCell ⟨w.heap.size + 1, 1, none⟩ (.slice B1 R.idle.length d1)) (w.heap.size + 1) 2 (.slice B2 R.held.length d2))
    have t122 := t117.past (grown_set ((w3.setCell ⟨w.heap.size + 1, 0, none⟩ (.int .i64 R.mx)).setCell ⟨w.heap.size + 1, 1, none⟩ (.slice B1 R.idle.length d1)) (w.heap.size + 1) 2 (.slice B2 R.held.length d2)) (by omega)
    have r123 : At (((w3.setCell ⟨w.heap.size + 1, 0, none⟩ (.int .i64 R.mx)).setCell ⟨w.heap.size + 1, 1, none⟩ (.slice B1 R.idle.length d1)).setCell ⟨w.heap.size + 1, 2, none⟩ (.slice B2 R.held.length d2)) (w.heap.size + 1) 30 #[.int .i64 R.mx, .slice B1 R.idle.length d1, .slice B2 R.held.length d2, .slice none 0 0] := by simpa using r118.set 2 (.slice B2 R.held.length d2)
    clear hB114 x115 o116 t117 r118
    have hB124 := below_put hB119 (grown_set (((w3.setCell ⟨w.heap.size + 1, 0, none⟩ (.int .i64 R.mx)).setCell ⟨w.heap.size + 1, 1, none⟩ (.slice B1 R.idle.length d1)).setCell ⟨w.heap.size + 1, 2, none⟩ (.slice B2 R.held.length d2)) (w.heap.size + 1) 3 (.slice B3 R.wait.length d3)) (by omega) (by have := hB119.size; omega)
    have x125 := x120.past (grown_set (((w3.setCell ⟨w.heap.size + 1, 0, none⟩ (.int .i64 R.mx)).setCell ⟨w.heap.size + 1, 1, none⟩ (.slice B1 R.idle.length d1)).setCell ⟨w.heap.size + 1, 2, none⟩ (.slice B2 R.held.length d2)) (w.heap.size + 1) 3 (.slice B3 R.wait.length d3)) (by omega)
    have o126 := o121.past r123 (grown_set (((w3.setCell ⟨w.heap.size + 1, 0, none⟩ (.int .i64 R.mx)).setCell ⟨w.heap.size + 1, 1, none⟩ (.slice B1 R.idle.length d1)).setCell ⟨w.heap.size + 1, 2, none⟩ (.slice B2 R.held.length d2)) (w.heap.size + 1) 3 (.slice B3 R.wait.length d3))
    have t127 := t122.past (grown_set (((w3.setCell ⟨w.heap.size + 1, 0, none⟩ (.int .i64 R.mx)).setCell ⟨w.heap.size + 1, 1, none⟩ (.slice B1 R.idle.length d1)).setCell ⟨w.heap.size + 1, 2, none⟩ (.slice B2 R.held.length d2)) (w.heap.size + 1) 3 (.slice B3 R.wait.length d3)) (by omega)
    have r128 : At ((((w3.setCell ⟨w.heap.size + 1, 0, none⟩ (.int .i64 R.mx)).setCell ⟨w.heap.size + 1, 1, none⟩ (.slice B1 R.idle.length d1)).setCell ⟨w.heap.size + 1, 2, none⟩ (.slice B2 R.held.length d2)).setCell ⟨w.heap.size + 1, 3, none⟩ (.slice B3 R.wait.length d3)) (w.heap.size + 1) 30 #[.int .i64 R.mx, .slice B1 R.idle.length d1, .slice B2 R.held.length d2, .slice B3 R.wait.length d3] := by simpa using r123.set 3 (.slice B3 R.wait.length d3)
    clear hB119 x120 o121 t122 r123
    go_wp2
    refine bodyPost_ret (v := .tuple #[.agg #[.int .i64 R.mx, .slice B1 R.idle.length d1, .slice B2 R.held.length d2, .slice B3 R.wait.length d3], .int .i64 C, .bool true]) (by simp [results, Try.results86, go_sem, r128.cell]) rfl ?_
    rw [E1.out, E2.out, EB.out, HN.out, HRR.out]
    exact ⟨_, _, _, _, _, _, rfl, o126.mono (show w.heap.size ≤ w.heap.size + 2 by omega), hB124⟩

set_option maxRecDepth 16384 in
set_option maxHeartbeats 4000000 in
theorem sCloseIdle_any (p : Pl) (A1 A2 A3 : Option Addr) (c1 c2 c3 : Nat) (o : Int) (w : World) (h : SeesP w w.heap.size A1 A2 A3 p) (hcap : p.idle.length ≤ c1) (h1 : p.idle.length ≤ 2097152) (h2 : p.held.length ≤ 2097152) (h3 : p.wait.length ≤ 2097152) :
    Calls Try.prog 88 #[.agg #[.int .i64 p.mx, .slice A1 p.idle.length c1, .slice A2 p.held.length c2, .slice A3 p.wait.length c3], .int .i64 o] w (PAns2 (clsR p o) (clsN p o) w) := by
  obtain ⟨i0, hi0, hz0, hz1, hz2⟩ := info_parts intInfo
  obtain ⟨ih0, hih0, hzh0, hzh1, hzh2⟩ := info_parts holdInfo
  have H1 := hid h1
  have H2 := hid h2
  have H3 := hid h3
  clear h1 h2 h3
  rcases hk : okB p with _ | _
  · skip
    have hk2 : ¬ Ok p := fun e => by rw [okB_iff.2 e] at hk; cases hk
    have EB := hid (show clsB p o = false from Bool.eq_false_iff.2 fun e => by have := clsB_iff.1 e; exact hk2 this.1)
    have HK := hid hk
    clear hk
    have hB1 := Below.refl w.heap.size w
    have hB2 := hB1.alloc hB1.size (.cells #[.int .i64 p.mx, .slice A1 p.idle.length c1, .slice A2 p.held.length c2, .slice A3 p.wait.length c3] 30)
    clear hB1
    have x3 : At (w.alloc (.cells #[.int .i64 p.mx, .slice A1 p.idle.length c1, .slice A2 p.held.length c2, .slice A3 p.wait.length c3] 30)) (w.heap.size) 30 #[.int .i64 p.mx, .slice A1 p.idle.length c1, .slice A2 p.held.length c2, .slice A3 p.wait.length c3] := At.newAt _ _ (by first | rfl | (simp; done) | (simp; omega))
    have hB4 := hB2.alloc hB2.size (.cells #[.int .i64 0, .slice none 0 0, .slice none 0 0, .slice none 0 0] 30)
    have x5 := x3.alloc (.cells #[.int .i64 0, .slice none 0 0, .slice none 0 0, .slice none 0 0] 30)
    clear hB2 x3
    have r6 : At ((w.alloc (.cells #[.int .i64 p.mx, .slice A1 p.idle.length c1, .slice A2 p.held.length c2, .slice A3 p.wait.length c3] 30)).alloc (.cells #[.int .i64 0, .slice none 0 0, .slice none 0 0, .slice none 0 0] 30)) (w.heap.size + 1) 30 #[.int .i64 0, .slice none 0 0, .slice none 0 0, .slice none 0 0] := At.newAt _ _ (by first | rfl | (simp; done) | (simp; omega))
    go_enter Try.func88, Try.ntmps88
    obtain ⟨p0, p1, p2, p3, pl, pf⟩ := (⟨x5.cell 0, x5.cell 1, x5.cell 2, x5.cell 3, x5.lt, x5.frozen⟩ : _ ∧ _ ∧ _ ∧ _ ∧ _ ∧ _)
    obtain ⟨q0, q1, q2, q3, ql, qf⟩ := (⟨r6.cell 0, r6.cell 1, r6.cell 2, r6.cell 3, r6.lt, r6.frozen⟩ : _ ∧ _ ∧ _ ∧ _ ∧ _ ∧ _)
    go_wp2_with fail
    with_reducible refine (svalidPool_any p A1 A2 A3 c1 c2 c3 _ (h.on hB4) H1.out H2.out (Nat.le_trans H3.out (by decide))).mono ?_
    rintro e w1 ⟨he, hb1⟩
    rw [HK.out] at he
    subst he
    have sz1 : w.heap.size + 2 ≤ w1.heap.size := Nat.le_trans (by first | exact Nat.le_refl _ | (simp; done) | (simp; omega)) (hb1.size)
    have hB7 := hB4.trans (hb1.mono hB4.size)
    have x8 := x5.below hb1 x5.lt
    have r9 := r6.below hb1 r6.lt
    clear hB4 x5 r6
    clear p0 p1 p2 p3 pl pf q0 q1 q2 q3 ql qf
    obtain ⟨p0, p1, p2, p3, pl, pf⟩ := (⟨x8.cell 0, x8.cell 1, x8.cell 2, x8.cell 3, x8.lt, x8.frozen⟩ : _ ∧ _ ∧ _ ∧ _ ∧ _ ∧ _)
    obtain ⟨q0, q1, q2, q3, ql, qf⟩ := (⟨r9.cell 0, r9.cell 1, r9.cell 2, r9.cell 3, r9.lt, r9.frozen⟩ : _ ∧ _ ∧ _ ∧ _ ∧ _ ∧ _)
    have hB10 := below_put hB7 (grown_set w1 (w.heap.size + 1) 0 (.int .i64 0)) (by omega) (by have := hB7.size; omega)
    have x11 := x8.past (grown_set w1 (w.heap.size + 1) 0 (.int .i64 0)) (by omega)
    have r12 : At (w1.setCell ⟨w.heap.size + 1, 0, none⟩ (.int .i64 0)) (w.heap.size + 1) 30 #[.int .i64 0, .slice none 0 0, .slice none 0 0, .slice none 0 0] := by simpa using r9.set 0 (.int .i64 0)
    clear hB7 x8 r9
    have hB13 := below_put hB10 (grown_set (w1.setCell ⟨w.heap.size + 1, 0, none⟩ (.int .i64 0)) (w.heap.size + 1) 1 (.slice none 0 0)) (by omega) (by have := hB10.size; omega)
    have x14 := x11.past (grown_set (w1.setCell ⟨w.heap.size + 1, 0, none⟩ (.int .i64 0)) (w.heap.size + 1) 1 (.slice none 0 0)) (by omega)
    have r15 : At ((w1.setCell ⟨w.heap.size + 1, 0, none⟩ (.int .i64 0)).setCell ⟨w.heap.size + 1, 1, none⟩ (.slice none 0 0)) (w.heap.size + 1) 30 #[.int .i64 0, .slice none 0 0, .slice none 0 0, .slice none 0 0] := by simpa using r12.set 1 (.slice none 0 0)
    clear hB10 x11 r12
    have hB16 := below_put hB13 (grown_set ((w1.setCell ⟨w.heap.size + 1, 0, none⟩ (.int .i64 0)).setCell ⟨w.heap.size + 1, 1, none⟩ (.slice none 0 0)) (w.heap.size + 1) 2 (.slice none 0 0)) (by omega) (by have := hB13.size; omega)
    have x17 := x14.past (grown_set ((w1.setCell ⟨w.heap.size + 1, 0, none⟩ (.int .i64 0)).setCell ⟨w.heap.size + 1, 1, none⟩ (.slice none 0 0)) (w.heap.size + 1) 2 (.slice none 0 0)) (by omega)
    have r18 : At (((w1.setCell ⟨w.heap.size + 1, 0, none⟩ (.int .i64 0)).setCell ⟨w.heap.size + 1, 1, none⟩ (.slice none 0 0)).setCell ⟨w.heap.size + 1, 2, none⟩ (.slice none 0 0)) (w.heap.size + 1) 30 #[.int .i64 0, .slice none 0 0, .slice none 0 0, .slice none 0 0] := by simpa using r15.set 2 (.slice none 0 0)
    clear hB13 x14 r15
    have hB19 := below_put hB16 (grown_set (((w1.setCell ⟨w.heap.size + 1, 0, none⟩ (.int .i64 0)).setCell ⟨w.heap.size + 1, 1, none⟩ (.slice none 0 0)).setCell ⟨w.heap.size + 1, 2, none⟩ (.slice none 0 0)) (w.heap.size + 1) 3 (.slice none 0 0)) (by omega) (by have := hB16.size; omega)
    have x20 := x17.past (grown_set (((w1.setCell ⟨w.heap.size + 1, 0, none⟩ (.int .i64 0)).setCell ⟨w.heap.size + 1, 1, none⟩ (.slice none 0 0)).setCell ⟨w.heap.size + 1, 2, none⟩ (.slice none 0 0)) (w.heap.size + 1) 3 (.slice none 0 0)) (by omega)
    have r21 : At ((((w1.setCell ⟨w.heap.size + 1, 0, none⟩ (.int .i64 0)).setCell ⟨w.heap.size + 1, 1, none⟩ (.slice none 0 0)).setCell ⟨w.heap.size + 1, 2, none⟩ (.slice none 0 0)).setCell ⟨w.heap.size + 1, 3, none⟩ (.slice none 0 0)) (w.heap.size + 1) 30 #[.int .i64 0, .slice none 0 0, .slice none 0 0, .slice none 0 0] := by simpa using r18.set 3 (.slice none 0 0)
    clear hB16 x17 r18
    go_wp2
    refine bodyPost_ret (v := .tuple #[.agg #[.int .i64 0, .slice none 0 0, .slice none 0 0, .slice none 0 0], .int .i64 (-1)]) (by simp [results, Try.results88, go_sem, r21.cell]) rfl ?_
    exact (by rw [(cls_no EB.out).1, (cls_no EB.out).2]; exact pans2_zero hB19)
  by_cases x1 : o < 0
  · skip
    have EB := hid (show clsB p o = false from Bool.eq_false_iff.2 fun e => by have := clsB_iff.1 e; omega)
    have HK := hid hk
    clear hk
    have hB22 := Below.refl w.heap.size w
    have hB23 := hB22.alloc hB22.size (.cells #[.int .i64 p.mx, .slice A1 p.idle.length c1, .slice A2 p.held.length c2, .slice A3 p.wait.length c3] 30)
    clear hB22
    have x24 : At (w.alloc (.cells #[.int .i64 p.mx, .slice A1 p.idle.length c1, .slice A2 p.held.length c2, .slice A3 p.wait.length c3] 30)) (w.heap.size) 30 #[.int .i64 p.mx, .slice A1 p.idle.length c1, .slice A2 p.held.length c2, .slice A3 p.wait.length c3] := At.newAt _ _ (by first | rfl | (simp; done) | (simp; omega))
    have hB25 := hB23.alloc hB23.size (.cells #[.int .i64 0, .slice none 0 0, .slice none 0 0, .slice none 0 0] 30)
    have x26 := x24.alloc (.cells #[.int .i64 0, .slice none 0 0, .slice none 0 0, .slice none 0 0] 30)
    clear hB23 x24
    have r27 : At ((w.alloc (.cells #[.int .i64 p.mx, .slice A1 p.idle.length c1, .slice A2 p.held.length c2, .slice A3 p.wait.length c3] 30)).alloc (.cells #[.int .i64 0, .slice none 0 0, .slice none 0 0, .slice none 0 0] 30)) (w.heap.size + 1) 30 #[.int .i64 0, .slice none 0 0, .slice none 0 0, .slice none 0 0] := At.newAt _ _ (by first | rfl | (simp; done) | (simp; omega))
    go_enter Try.func88, Try.ntmps88
    obtain ⟨p0, p1, p2, p3, pl, pf⟩ := (⟨x26.cell 0, x26.cell 1, x26.cell 2, x26.cell 3, x26.lt, x26.frozen⟩ : _ ∧ _ ∧ _ ∧ _ ∧ _ ∧ _)
    obtain ⟨q0, q1, q2, q3, ql, qf⟩ := (⟨r27.cell 0, r27.cell 1, r27.cell 2, r27.cell 3, r27.lt, r27.frozen⟩ : _ ∧ _ ∧ _ ∧ _ ∧ _ ∧ _)
    go_wp2_with fail
    with_reducible refine (svalidPool_any p A1 A2 A3 c1 c2 c3 _ (h.on hB25) H1.out H2.out (Nat.le_trans H3.out (by decide))).mono ?_
    rintro e w1 ⟨he, hb1⟩
    rw [HK.out] at he
    subst he
    have sz1 : w.heap.size + 2 ≤ w1.heap.size := Nat.le_trans (by first | exact Nat.le_refl _ | (simp; done) | (simp; omega)) (hb1.size)
    have hB28 := hB25.trans (hb1.mono hB25.size)
    have x29 := x26.below hb1 x26.lt
    have r30 := r27.below hb1 r27.lt
    clear hB25 x26 r27
    clear p0 p1 p2 p3 pl pf q0 q1 q2 q3 ql qf
    obtain ⟨p0, p1, p2, p3, pl, pf⟩ := (⟨x29.cell 0, x29.cell 1, x29.cell 2, x29.cell 3, x29.lt, x29.frozen⟩ : _ ∧ _ ∧ _ ∧ _ ∧ _ ∧ _)
    obtain ⟨q0, q1, q2, q3, ql, qf⟩ := (⟨r30.cell 0, r30.cell 1, r30.cell 2, r30.cell 3, r30.lt, r30.frozen⟩ : _ ∧ _ ∧ _ ∧ _ ∧ _ ∧ _)
    have hB31 := below_put hB28 (grown_set w1 (w.heap.size + 1) 0 (.int .i64 0)) (by omega) (by have := hB28.size; omega)
    have x32 := x29.past (grown_set w1 (w.heap.size + 1) 0 (.int .i64 0)) (by omega)
    have r33 : At (w1.setCell ⟨w.heap.size + 1, 0, none⟩ (.int .i64 0)) (w.heap.size + 1) 30 #[.int .i64 0, .slice none 0 0, .slice none 0 0, .slice none 0 0] := by simpa using r30.set 0 (.int .i64 0)
    clear hB28 x29 r30
    have hB34 := below_put hB31 (grown_set (w1.setCell ⟨w.heap.size + 1, 0, none⟩ (.int .i64 0)) (w.heap.size + 1) 1 (.slice none 0 0)) (by omega) (by have := hB31.size; omega)
    have x35 := x32.past (grown_set (w1.setCell ⟨w.heap.size + 1, 0, none⟩ (.int .i64 0)) (w.heap.size + 1) 1 (.slice none 0 0)) (by omega)
    have r36 : At ((w1.setCell ⟨w.heap.size + 1, 0, none⟩ (.int .i64 0)).setCell ⟨w.heap.size + 1, 1, none⟩ (.slice none 0 0)) (w.heap.size + 1) 30 #[.int .i64 0, .slice none 0 0, .slice none 0 0, .slice none 0 0] := by simpa using r33.set 1 (.slice none 0 0)
    clear hB31 x32 r33
    have hB37 := below_put hB34 (grown_set ((w1.setCell ⟨w.heap.size + 1, 0, none⟩ (.int .i64 0)).setCell ⟨w.heap.size + 1, 1, none⟩ (.slice none 0 0)) (w.heap.size + 1) 2 (.slice none 0 0)) (by omega) (by have := hB34.size; omega)
    have x38 := x35.past (grown_set ((w1.setCell ⟨w.heap.size + 1, 0, none⟩ (.int .i64 0)).setCell ⟨w.heap.size + 1, 1, none⟩ (.slice none 0 0)) (w.heap.size + 1) 2 (.slice none 0 0)) (by omega)
    have r39 : At (((w1.setCell ⟨w.heap.size + 1, 0, none⟩ (.int .i64 0)).setCell ⟨w.heap.size + 1, 1, none⟩ (.slice none 0 0)).setCell ⟨w.heap.size + 1, 2, none⟩ (.slice none 0 0)) (w.heap.size + 1) 30 #[.int .i64 0, .slice none 0 0, .slice none 0 0, .slice none 0 0] := by simpa using r36.set 2 (.slice none 0 0)
    clear hB34 x35 r36
    have hB40 := below_put hB37 (grown_set (((w1.setCell ⟨w.heap.size + 1, 0, none⟩ (.int .i64 0)).setCell ⟨w.heap.size + 1, 1, none⟩ (.slice none 0 0)).setCell ⟨w.heap.size + 1, 2, none⟩ (.slice none 0 0)) (w.heap.size + 1) 3 (.slice none 0 0)) (by omega) (by have := hB37.size; omega)
    have x41 := x38.past (grown_set (((w1.setCell ⟨w.heap.size + 1, 0, none⟩ (.int .i64 0)).setCell ⟨w.heap.size + 1, 1, none⟩ (.slice none 0 0)).setCell ⟨w.heap.size + 1, 2, none⟩ (.slice none 0 0)) (w.heap.size + 1) 3 (.slice none 0 0)) (by omega)
    have r42 : At ((((w1.setCell ⟨w.heap.size + 1, 0, none⟩ (.int .i64 0)).setCell ⟨w.heap.size + 1, 1, none⟩ (.slice none 0 0)).setCell ⟨w.heap.size + 1, 2, none⟩ (.slice none 0 0)).setCell ⟨w.heap.size + 1, 3, none⟩ (.slice none 0 0)) (w.heap.size + 1) 30 #[.int .i64 0, .slice none 0 0, .slice none 0 0, .slice none 0 0] := by simpa using r39.set 3 (.slice none 0 0)
    clear hB37 x38 r39
    go_wp2
    refine bodyPost_ret (v := .tuple #[.agg #[.int .i64 0, .slice none 0 0, .slice none 0 0, .slice none 0 0], .int .i64 (-1)]) (by simp [results, Try.results88, go_sem, r42.cell]) rfl ?_
    exact (by rw [(cls_no EB.out).1, (cls_no EB.out).2]; exact pans2_zero hB40)
  have hb : clsB p o = true := clsB_iff.2 ⟨okB_iff.1 hk, by omega⟩
  obtain ⟨k, k1, k2, k3, k4⟩ := cls_nat hb
  have HK := hid hk
  have E2 := hid k2
  have E4 := hid k4
  clear hk hb k2 k4
  have hk0 : (0 : Int) ≤ (k : Int) := by omega
  have hkl : (k : Int) ≤ (p.idle.length : Int) := by omega
  have hlc : (p.idle.length : Int) ≤ (c1 : Int) := by omega
  have hk13 : k ≤ 2097152 := by have := H1.out; omega
  have K1 := hid k1
  have K3 := hid k3
  have HL := hid (show (p.idle.drop k).length = p.idle.length - k from List.length_drop)
  by_cases x2 : o > (p.idle.length : Int)
  · skip
    obtain rfl : k = p.idle.length := by omega
    clear k1 k3 hk0 hkl hlc hk13 K1 K3 HL
    have HD := hid (show p.idle.drop p.idle.length = [] by simp)
    by_cases hck : c1 = p.idle.length
    · skip
      subst hck
      have hk13 : p.idle.length ≤ 2097152 := H1.out
      have hB43 := Below.refl w.heap.size w
      have hB44 := hB43.alloc hB43.size (.cells #[.int .i64 p.mx, .slice A1 p.idle.length p.idle.length, .slice A2 p.held.length c2, .slice A3 p.wait.length c3] 30)
      clear hB43
      have x45 : At (w.alloc (.cells #[.int .i64 p.mx, .slice A1 p.idle.length p.idle.length, .slice A2 p.held.length c2, .slice A3 p.wait.length c3] 30)) (w.heap.size) 30 #[.int .i64 p.mx, .slice A1 p.idle.length p.idle.length, .slice A2 p.held.length c2, .slice A3 p.wait.length c3] := At.newAt _ _ (by first | rfl | (simp; done) | (simp; omega))
      have hB46 := hB44.alloc hB44.size (.cells #[.int .i64 0, .slice none 0 0, .slice none 0 0, .slice none 0 0] 30)
      have x47 := x45.alloc (.cells #[.int .i64 0, .slice none 0 0, .slice none 0 0, .slice none 0 0] 30)
      clear hB44 x45
      have r48 : At ((w.alloc (.cells #[.int .i64 p.mx, .slice A1 p.idle.length p.idle.length, .slice A2 p.held.length c2, .slice A3 p.wait.length c3] 30)).alloc (.cells #[.int .i64 0, .slice none 0 0, .slice none 0 0, .slice none 0 0] 30)) (w.heap.size + 1) 30 #[.int .i64 0, .slice none 0 0, .slice none 0 0, .slice none 0 0] := At.newAt _ _ (by first | rfl | (simp; done) | (simp; omega))
      go_enter Try.func88, Try.ntmps88
      obtain ⟨p0, p1, p2, p3, pl, pf⟩ := (⟨x47.cell 0, x47.cell 1, x47.cell 2, x47.cell 3, x47.lt, x47.frozen⟩ : _ ∧ _ ∧ _ ∧ _ ∧ _ ∧ _)
      obtain ⟨q0, q1, q2, q3, ql, qf⟩ := (⟨r48.cell 0, r48.cell 1, r48.cell 2, r48.cell 3, r48.lt, r48.frozen⟩ : _ ∧ _ ∧ _ ∧ _ ∧ _ ∧ _)
      go_wp2_with fail
      with_reducible refine (svalidPool_any p A1 A2 A3 p.idle.length c2 c3 _ (h.on hB46) H1.out H2.out (Nat.le_trans H3.out (by decide))).mono ?_
      rintro e w1 ⟨he, hb1⟩
      rw [HK.out] at he
      subst he
      have sz1 : w.heap.size + 2 ≤ w1.heap.size := Nat.le_trans (by first | exact Nat.le_refl _ | (simp; done) | (simp; omega)) (hb1.size)
      have hB49 := hB46.trans (hb1.mono hB46.size)
      have x50 := x47.below hb1 x47.lt
      have r51 := r48.below hb1 r48.lt
      clear hB46 x47 r48
      clear p0 p1 p2 p3 pl pf q0 q1 q2 q3 ql qf
      obtain ⟨p0, p1, p2, p3, pl, pf⟩ := (⟨x50.cell 0, x50.cell 1, x50.cell 2, x50.cell 3, x50.lt, x50.frozen⟩ : _ ∧ _ ∧ _ ∧ _ ∧ _ ∧ _)
      obtain ⟨q0, q1, q2, q3, ql, qf⟩ := (⟨r51.cell 0, r51.cell 1, r51.cell 2, r51.cell 3, r51.lt, r51.frozen⟩ : _ ∧ _ ∧ _ ∧ _ ∧ _ ∧ _)
      go_wp2_with fail
      with_reducible refine (scopyPool_any p A1 A2 A3 p.idle.length c2 c3 _ (h.on hB49) (Nat.le_trans H1.out (by decide)) (Nat.le_trans H2.out (by decide)) (Nat.le_trans H3.out (by decide))).mono ?_
      rintro e w2 ⟨B1, B2, B3, d1, d2, d3, rfl, ho, hb2⟩
      have sz2 : w1.heap.size ≤ w2.heap.size := Nat.le_trans (by first | exact Nat.le_refl _ | (simp; done) | (simp; omega)) (hb2.size)
      have hB52 := hB49.trans (hb2.mono hB49.size)
      have x53 := x50.below hb2 x50.lt
      have r54 := r51.below hb2 r51.lt
      clear hB49 x50 r51
      clear p0 p1 p2 p3 pl pf q0 q1 q2 q3 ql qf
      have o55 := ho.mono (show w.heap.size + 2 ≤ _ by omega)
      clear ho
      obtain ⟨p0, p1, p2, p3, pl, pf⟩ := (⟨x53.cell 0, x53.cell 1, x53.cell 2, x53.cell 3, x53.lt, x53.frozen⟩ : _ ∧ _ ∧ _ ∧ _ ∧ _ ∧ _)
      obtain ⟨q0, q1, q2, q3, ql, qf⟩ := (⟨r54.cell 0, r54.cell 1, r54.cell 2, r54.cell 3, r54.lt, r54.frozen⟩ : _ ∧ _ ∧ _ ∧ _ ∧ _ ∧ _)
      have hB56 := hB52.alloc hB52.size (.cells #[.int .i64 p.mx, .slice B1 p.idle.length d1, .slice B2 p.held.length d2, .slice B3 p.wait.length d3] 30)
      have x57 := x53.alloc (.cells #[.int .i64 p.mx, .slice B1 p.idle.length d1, .slice B2 p.held.length d2, .slice B3 p.wait.length d3] 30)
      have r58 := r54.alloc (.cells #[.int .i64 p.mx, .slice B1 p.idle.length d1, .slice B2 p.held.length d2, .slice B3 p.wait.length d3] 30)
      have o59 := o55.alloc (.cells #[.int .i64 p.mx, .slice B1 p.idle.length d1, .slice B2 p.held.length d2, .slice B3 p.wait.length d3] 30)
      clear hB52 x53 r54 o55
      have t60 : At (w2.alloc (.cells #[.int .i64 p.mx, .slice B1 p.idle.length d1, .slice B2 p.held.length d2, .slice B3 p.wait.length d3] 30)) (w2.heap.size) 30 #[.int .i64 p.mx, .slice B1 p.idle.length d1, .slice B2 p.held.length d2, .slice B3 p.wait.length d3] := At.newAt _ _ (by first | rfl | (simp; done) | (simp; omega))
      go_wp2_with fail
      with_reducible refine (copyInts_len (n := 0) (l := []) rfl Sees.nil (by simp)).mono ?_
      rintro e w3 ⟨v3, rfl, hn3, hb3⟩
      obtain ⟨An3, cn3, rfl, _⟩ := hn3.form
      have sz3 : w2.heap.size + 1 ≤ w3.heap.size := Nat.le_trans (by first | exact Nat.le_refl _ | (simp; done) | (simp; omega)) (hb3.size)
      have o61 := o59.newIdle (by first | omega | (simp; omega) | (simp; done)) hn3 hb3
      have hB62 := hB56.trans (hb3.mono hB56.size)
      have x63 := x57.below hb3 x57.lt
      have r64 := r58.below hb3 r58.lt
      have t65 := t60.below hb3 t60.lt
      clear hB56 x57 r58 t60
      clear p0 p1 p2 p3 pl pf q0 q1 q2 q3 ql qf
      clear o59 hn3
      obtain ⟨p0, p1, p2, p3, pl, pf⟩ := (⟨x63.cell 0, x63.cell 1, x63.cell 2, x63.cell 3, x63.lt, x63.frozen⟩ : _ ∧ _ ∧ _ ∧ _ ∧ _ ∧ _)
      obtain ⟨q0, q1, q2, q3, ql, qf⟩ := (⟨r64.cell 0, r64.cell 1, r64.cell 2, r64.cell 3, r64.lt, r64.frozen⟩ : _ ∧ _ ∧ _ ∧ _ ∧ _ ∧ _)
      obtain ⟨t0, t1, t2, t3, tl, tf⟩ := (⟨t65.cell 0, t65.cell 1, t65.cell 2, t65.cell 3, t65.lt, t65.frozen⟩ : _ ∧ _ ∧ _ ∧ _ ∧ _ ∧ _)
      have ne_pq : ¬ w.heap.size = w.heap.size + 1 := by omega
      have ne_qp : ¬ w.heap.size + 1 = w.heap.size := by omega
      have ne_pt : ¬ w.heap.size = w2.heap.size := by omega
      have ne_tp : ¬ w2.heap.size = w.heap.size := by omega
      have ne_qt : ¬ w.heap.size + 1 = w2.heap.size := by omega
      have ne_tq : ¬ w2.heap.size = w.heap.size + 1 := by omega
      have hB66 := below_put hB62 (grown_set w3 (w2.heap.size) 1 (.slice An3 0 cn3)) (by omega) (by have := hB62.size; omega)
      have x67 := x63.past (grown_set w3 (w2.heap.size) 1 (.slice An3 0 cn3)) (by omega)
      have r68 := r64.past (grown_set w3 (w2.heap.size) 1 (.slice An3 0 cn3)) (by omega)
      have o69 := o61.past t65 (grown_set w3 (w2.heap.size) 1 (.slice An3 0 cn3))
      have t70 : At (w3.setCell ⟨w2.heap.size, 1, none⟩ (.slice An3 0 cn3)) (w2.heap.size) 30 #[.int .i64 p.mx, .slice An3 0 cn3, .slice B2 p.held.length d2, .slice B3 p.wait.length d3] := by simpa using t65.set 1 (.slice An3 0 cn3)
      clear hB62 x63 r64 o61 t65
      have hB71 := below_put hB66 (grown_set (w3.setCell ⟨w2.heap.size, 1, none⟩ (.slice An3 0 cn3)) (w.heap.size + 1) 0 (.int .i64 p.mx)) (by omega) (by have := hB66.size; omega)
      have x72 := x67.past (grown_set (w3.setCell ⟨w2.heap.size, 1, none⟩ (.slice An3 0 cn3)) (w.heap.size + 1) 0 (.int .i64 p.mx)) (by omega)
      have t73 := t70.past (grown_set (w3.setCell ⟨w2.heap.size, 1, none⟩ (.slice An3 0 cn3)) (w.heap.size + 1) 0 (.int .i64 p.mx)) (by omega)
      have o74 := o69.past r68 (grown_set (w3.setCell ⟨w2.heap.size, 1, none⟩ (.slice An3 0 cn3)) (w.heap.size + 1) 0 (.int .i64 p.mx))
      have r75 : At ((w3.setCell ⟨w2.heap.size, 1, none⟩ (.slice An3 0 cn3)).setCell ⟨w.heap.size + 1, 0, none⟩ (.int .i64 p.mx)) (w.heap.size + 1) 30 #[.int .i64 p.mx, .slice none 0 0, .slice none 0 0, .slice none 0 0] := by simpa using r68.set 0 (.int .i64 p.mx)
      clear hB66 x67 t70 o69 r68
      have hB76 := below_put hB71 (grown_set ((w3.setCell ⟨w2.heap.size, 1, none⟩ (.slice An3 0 cn3)).setCell ⟨w.heap.size + 1, 0, none⟩ (.int .i64 p.mx)) (w.heap.size + 1) 1 (.slice An3 0 cn3)) (by omega) (by have := hB71.size; omega)
      have x77 := x72.past (grown_set ((w3.setCell ⟨w2.heap.size, 1, none⟩ (.slice An3 0 cn3)).setCell ⟨w.heap.size + 1, 0, none⟩ (.int .i64 p.mx)) (w.heap.size + 1) 1 (.slice An3 0 cn3)) (by omega)
      have t78 := t73.past (grown_set ((w3.setCell ⟨w2.heap.size, 1, none⟩ (.slice An3 0 cn3)).setCell ⟨w.heap.size + 1, 0, none⟩ (.int .i64 p.mx)) (w.heap.size + 1) 1 (.slice An3 0 cn3)) (by omega)
      have o79 := o74.past r75 (grown_set ((w3.setCell ⟨w2.heap.size, 1, none⟩ (.slice An3 0 cn3)).setCell ⟨w.heap.size + 1, 0, none⟩ (.int .i64 p.mx)) (w.heap.size + 1) 1 (.slice An3 0 cn3))
      have r80 : At (((w3.setCell ⟨w2.heap.size, 1, none⟩ (.slice An3 0 cn3)).setCell ⟨w.heap.size + 1, 0, none⟩ (.int .i64 p.mx)).setCell ⟨w.heap.size + 1, 1, none⟩ (.slice An3 0 cn3)) (w.heap.size + 1) 30 #[.int .i64 p.mx, .slice An3 0 cn3, .slice none 0 0, .slice none 0 0] := by simpa using r75.set 1 (.slice An3 0 cn3)
      clear hB71 x72 t73 o74 r75
      have hB81 := below_put hB76 (grown_set (((w3.setCell ⟨w2.heap.size, 1, none⟩ (.slice An3 0 cn3)).setCell ⟨w.heap.size + 1, 0, none⟩ (.int .i64 p.mx)).setCell ⟨w.heap.size + 1, 1, none⟩ (.slice An3 0 cn3)) (w.heap.size + 1) 2 (.slice B2 p.held.length d2)) (by omega) (by have := hB76.size; omega)
      have x82 := x77.past (grown_set (((w3.setCell ⟨w2.heap.size, 1, none⟩ (.slice An3 0 cn3)).setCell ⟨w.heap.size + 1, 0, none⟩ (.int .i64 p.mx)).setCell ⟨w.heap.size + 1, 1, none⟩ (.slice An3 0 cn3)) (w.heap.size + 1) 2 (.slice B2 p.held.length d2)) (by omega)
      have t83 := t78.past (grown_set (((w3.setCell ⟨w2.heap.size, 1, none⟩ (.slice An3 0 cn3)).setCell ⟨w.heap.size + 1, 0, none⟩ (.int .i64 p.mx)).setCell ⟨w.heap.size + 1, 1, none⟩ (.slice An3 0 cn3)) (w.heap.size + 1) 2 (.slice B2 p.held.length d2)) (by omega)
      have o84 := o79.past r80 (grown_set (((w3.setCell ⟨w2.heap.size, 1, none⟩ (.slice An3 0 cn3)).setCell ⟨w.heap.size + 1, 0, none⟩ (.int .i64 p.mx)).setCell ⟨w.heap.size + 1, 1, none⟩ (.slice An3 0 cn3)) (w.heap.size + 1) 2 (.slice B2 p.held.length d2))
      have r85 : At ((((w3.setCell ⟨w2.heap.size, 1, none⟩ (.slice An3 0 cn3)).setCell ⟨w.heap.size + 1, 0, none⟩ (.int .i64 p.mx)).setCell ⟨w.heap.size + 1, 1, none⟩ (.slice An3 0 cn3)).setCell ⟨w.heap.size + 1, 2, none⟩ (.slice B2 p.held.length d2)) (w.heap.size + 1) 30 #[.int .i64 p.mx, .slice An3 0 cn3, .slice B2 p.held.length d2, .slice none 0 0] := by simpa using r80.set 2 (.slice B2 p.held.length d2)
      clear hB76 x77 t78 o79 r80
      have hB86 := below_put hB81 (grown_set ((((w3.setCell ⟨w2.heap.size, 1, none⟩ (.slice An3 0 cn3)).setCell ⟨w.heap.size + 1, 0, none⟩ (.int .i64 p.mx)).setCell ⟨w.heap.size + 1, 1, none⟩ (.slice An3 0 cn3)).setCell ⟨w.heap.size + 1, 2, none⟩ (.slice B2 p.held.length d2)) (w.heap.size + 1) 3 (.slice B3 p.wait.length d3)) (by omega) (by have := hB81.size; omega)
      have x87 := x82.past (grown_set ((((w3.setCell ⟨w2.heap.size, 1, none⟩ (.slice An3 0 cn3)).setCell ⟨w.heap.size + 1, 0, none⟩ (.int .i64 p.mx)).setCell ⟨w.heap.size + 1, 1, none⟩ (.slice An3 0 cn3)).setCell ⟨w.heap.size + 1, 2, none⟩ (.slice B2 p.held.length d2)) (w.heap.size + 1) 3 (.slice B3 p.wait.length d3)) (by omega)
      have t88 := t83.past (grown_set ((((w3.setCell ⟨w2.heap.size, 1, none⟩ (.slice An3 0 cn3)).setCell ⟨w.heap.size + 1, 0, none⟩ (.int .i64 p.mx)).setCell ⟨w.heap.size + 1, 1, none⟩ (.slice An3 0 cn3)).setCell ⟨w.heap.size + 1, 2, none⟩ (.slice B2 p.held.length d2)) (w.heap.size + 1) 3 (.slice B3 p.wait.length d3)) (by omega)
      have o89 := o84.past r85 (grown_set ((((w3.setCell ⟨w2.heap.size, 1, none⟩ (.slice An3 0 cn3)).setCell ⟨w.heap.size + 1, 0, none⟩ (.int .i64 p.mx)).setCell ⟨w.heap.size + 1, 1, none⟩ (.slice An3 0 cn3)).setCell ⟨w.heap.size + 1, 2, none⟩ (.slice B2 p.held.length d2)) (w.heap.size + 1) 3 (.slice B3 p.wait.length d3))
      have r90 : At (((((w3.setCell ⟨w2.heap.size, 1, none⟩ (.slice An3 0 cn3)).setCell ⟨w.heap.size + 1, 0, none⟩ (.int .i64 p.mx)).setCell ⟨w.heap.size + 1, 1, none⟩ (.slice An3 0 cn3)).setCell ⟨w.heap.size + 1, 2, none⟩ (.slice B2 p.held.length d2)).setCell ⟨w.heap.size + 1, 3, none⟩ (.slice B3 p.wait.length d3)) (w.heap.size + 1) 30 #[.int .i64 p.mx, .slice An3 0 cn3, .slice B2 p.held.length d2, .slice B3 p.wait.length d3] := by simpa using r85.set 3 (.slice B3 p.wait.length d3)
      clear hB81 x82 t83 o84 r85
      go_wp2
      refine bodyPost_ret (v := .tuple #[.agg #[.int .i64 p.mx, .slice An3 0 cn3, .slice B2 p.held.length d2, .slice B3 p.wait.length d3], .int .i64 p.idle.length]) (by simp [results, Try.results88, go_sem, r90.cell]) rfl ?_
      rw [E2.out, E4.out, HD.out]
      exact ⟨An3, B2, B3, cn3, d2, d3, rfl, o89.mono (show w.heap.size ≤ w.heap.size + 2 by omega), hB86⟩
    · skip
      have hck2 : ¬ p.idle.length = c1 := fun e => hck e.symm
      have hlc : (p.idle.length : Int) ≤ (c1 : Int) := by omega
      have hk13 : p.idle.length ≤ 2097152 := H1.out
      have hB91 := Below.refl w.heap.size w
      have hB92 := hB91.alloc hB91.size (.cells #[.int .i64 p.mx, .slice A1 p.idle.length c1, .slice A2 p.held.length c2, .slice A3 p.wait.length c3] 30)
      clear hB91
      have x93 : At (w.alloc (.cells #[.int .i64 p.mx, .slice A1 p.idle.length c1, .slice A2 p.held.length c2, .slice A3 p.wait.length c3] 30)) (w.heap.size) 30 #[.int .i64 p.mx, .slice A1 p.idle.length c1, .slice A2 p.held.length c2, .slice A3 p.wait.length c3] := At.newAt _ _ (by first | rfl | (simp; done) | (simp; omega))
      have hB94 := hB92.alloc hB92.size (.cells #[.int .i64 0, .slice none 0 0, .slice none 0 0, .slice none 0 0] 30)
      have x95 := x93.alloc (.cells #[.int .i64 0, .slice none 0 0, .slice none 0 0, .slice none 0 0] 30)
      clear hB92 x93
      have r96 : At ((w.alloc (.cells #[.int .i64 p.mx, .slice A1 p.idle.length c1, .slice A2 p.held.length c2, .slice A3 p.wait.length c3] 30)).alloc (.cells #[.int .i64 0, .slice none 0 0, .slice none 0 0, .slice none 0 0] 30)) (w.heap.size + 1) 30 #[.int .i64 0, .slice none 0 0, .slice none 0 0, .slice none 0 0] := At.newAt _ _ (by first | rfl | (simp; done) | (simp; omega))
      go_enter Try.func88, Try.ntmps88
      obtain ⟨p0, p1, p2, p3, pl, pf⟩ := (⟨x95.cell 0, x95.cell 1, x95.cell 2, x95.cell 3, x95.lt, x95.frozen⟩ : _ ∧ _ ∧ _ ∧ _ ∧ _ ∧ _)
      obtain ⟨q0, q1, q2, q3, ql, qf⟩ := (⟨r96.cell 0, r96.cell 1, r96.cell 2, r96.cell 3, r96.lt, r96.frozen⟩ : _ ∧ _ ∧ _ ∧ _ ∧ _ ∧ _)
      go_wp2_with fail
      with_reducible refine (svalidPool_any p A1 A2 A3 c1 c2 c3 _ (h.on hB94) H1.out H2.out (Nat.le_trans H3.out (by decide))).mono ?_
      rintro e w1 ⟨he, hb1⟩
      rw [HK.out] at he
      subst he
      have sz1 : w.heap.size + 2 ≤ w1.heap.size := Nat.le_trans (by first | exact Nat.le_refl _ | (simp; done) | (simp; omega)) (hb1.size)
      have hB97 := hB94.trans (hb1.mono hB94.size)
      have x98 := x95.below hb1 x95.lt
      have r99 := r96.below hb1 r96.lt
      clear hB94 x95 r96
      clear p0 p1 p2 p3 pl pf q0 q1 q2 q3 ql qf
      obtain ⟨p0, p1, p2, p3, pl, pf⟩ := (⟨x98.cell 0, x98.cell 1, x98.cell 2, x98.cell 3, x98.lt, x98.frozen⟩ : _ ∧ _ ∧ _ ∧ _ ∧ _ ∧ _)
      obtain ⟨q0, q1, q2, q3, ql, qf⟩ := (⟨r99.cell 0, r99.cell 1, r99.cell 2, r99.cell 3, r99.lt, r99.frozen⟩ : _ ∧ _ ∧ _ ∧ _ ∧ _ ∧ _)
      go_wp2_with fail
      with_reducible refine (scopyPool_any p A1 A2 A3 c1 c2 c3 _ (h.on hB97) (Nat.le_trans H1.out (by decide)) (Nat.le_trans H2.out (by decide)) (Nat.le_trans H3.out (by decide))).mono ?_
      rintro e w2 ⟨B1, B2, B3, d1, d2, d3, rfl, ho, hb2⟩
      have sz2 : w1.heap.size ≤ w2.heap.size := Nat.le_trans (by first | exact Nat.le_refl _ | (simp; done) | (simp; omega)) (hb2.size)
      have hB100 := hB97.trans (hb2.mono hB97.size)
      have x101 := x98.below hb2 x98.lt
      have r102 := r99.below hb2 r99.lt
      clear hB97 x98 r99
      clear p0 p1 p2 p3 pl pf q0 q1 q2 q3 ql qf
      have o103 := ho.mono (show w.heap.size + 2 ≤ _ by omega)
      clear ho
      obtain ⟨p0, p1, p2, p3, pl, pf⟩ := (⟨x101.cell 0, x101.cell 1, x101.cell 2, x101.cell 3, x101.lt, x101.frozen⟩ : _ ∧ _ ∧ _ ∧ _ ∧ _ ∧ _)
      obtain ⟨q0, q1, q2, q3, ql, qf⟩ := (⟨r102.cell 0, r102.cell 1, r102.cell 2, r102.cell 3, r102.lt, r102.frozen⟩ : _ ∧ _ ∧ _ ∧ _ ∧ _ ∧ _)
      have hB104 := hB100.alloc hB100.size (.cells #[.int .i64 p.mx, .slice B1 p.idle.length d1, .slice B2 p.held.length d2, .slice B3 p.wait.length d3] 30)
      have x105 := x101.alloc (.cells #[.int .i64 p.mx, .slice B1 p.idle.length d1, .slice B2 p.held.length d2, .slice B3 p.wait.length d3] 30)
      have r106 := r102.alloc (.cells #[.int .i64 p.mx, .slice B1 p.idle.length d1, .slice B2 p.held.length d2, .slice B3 p.wait.length d3] 30)
      have o107 := o103.alloc (.cells #[.int .i64 p.mx, .slice B1 p.idle.length d1, .slice B2 p.held.length d2, .slice B3 p.wait.length d3] 30)
      clear hB100 x101 r102 o103
      have t108 : At (w2.alloc (.cells #[.int .i64 p.mx, .slice B1 p.idle.length d1, .slice B2 p.held.length d2, .slice B3 p.wait.length d3] 30)) (w2.heap.size) 30 #[.int .i64 p.mx, .slice B1 p.idle.length d1, .slice B2 p.held.length d2, .slice B3 p.wait.length d3] := At.newAt _ _ (by first | rfl | (simp; done) | (simp; omega))
      go_wp2_with fail
      with_reducible refine (copyInts_len (n := 0) (l := []) rfl Sees.nil (by simp)).mono ?_
      rintro e w3 ⟨v3, rfl, hn3, hb3⟩
      obtain ⟨An3, cn3, rfl, _⟩ := hn3.form
      have sz3 : w2.heap.size + 1 ≤ w3.heap.size := Nat.le_trans (by first | exact Nat.le_refl _ | (simp; done) | (simp; omega)) (hb3.size)
      have o109 := o107.newIdle (by first | omega | (simp; omega) | (simp; done)) hn3 hb3
      have hB110 := hB104.trans (hb3.mono hB104.size)
      have x111 := x105.below hb3 x105.lt
      have r112 := r106.below hb3 r106.lt
      have t113 := t108.below hb3 t108.lt
      clear hB104 x105 r106 t108
      clear p0 p1 p2 p3 pl pf q0 q1 q2 q3 ql qf
      clear o107 hn3
      obtain ⟨p0, p1, p2, p3, pl, pf⟩ := (⟨x111.cell 0, x111.cell 1, x111.cell 2, x111.cell 3, x111.lt, x111.frozen⟩ : _ ∧ _ ∧ _ ∧ _ ∧ _ ∧ _)
      obtain ⟨q0, q1, q2, q3, ql, qf⟩ := (⟨r112.cell 0, r112.cell 1, r112.cell 2, r112.cell 3, r112.lt, r112.frozen⟩ : _ ∧ _ ∧ _ ∧ _ ∧ _ ∧ _)
      obtain ⟨t0, t1, t2, t3, tl, tf⟩ := (⟨t113.cell 0, t113.cell 1, t113.cell 2, t113.cell 3, t113.lt, t113.frozen⟩ : _ ∧ _ ∧ _ ∧ _ ∧ _ ∧ _)
      have ne_pq : ¬ w.heap.size = w.heap.size + 1 := by omega
      have ne_qp : ¬ w.heap.size + 1 = w.heap.size := by omega
      have ne_pt : ¬ w.heap.size = w2.heap.size := by omega
      have ne_tp : ¬ w2.heap.size = w.heap.size := by omega
      have ne_qt : ¬ w.heap.size + 1 = w2.heap.size := by omega
      have ne_tq : ¬ w2.heap.size = w.heap.size + 1 := by omega
      have hB114 := below_put hB110 (grown_set w3 (w2.heap.size) 1 (.slice An3 0 cn3)) (by omega) (by have := hB110.size; omega)
      have x115 := x111.past (grown_set w3 (w2.heap.size) 1 (.slice An3 0 cn3)) (by omega)
      have r116 := r112.past (grown_set w3 (w2.heap.size) 1 (.slice An3 0 cn3)) (by omega)
      have o117 := o109.past t113 (grown_set w3 (w2.heap.size) 1 (.slice An3 0 cn3))
      have t118 : At (w3.setCell ⟨w2.heap.size, 1, none⟩ (.slice An3 0 cn3)) (w2.heap.size) 30 #[.int .i64 p.mx, .slice An3 0 cn3, .slice B2 p.held.length d2, .slice B3 p.wait.length d3] := by simpa using t113.set 1 (.slice An3 0 cn3)
      clear hB110 x111 r112 o109 t113
      have hB119 := below_put hB114 (grown_set (w3.setCell ⟨w2.heap.size, 1, none⟩ (.slice An3 0 cn3)) (w.heap.size + 1) 0 (.int .i64 p.mx)) (by omega) (by have := hB114.size; omega)
      have x120 := x115.past (grown_set (w3.setCell ⟨w2.heap.size, 1, none⟩ (.slice An3 0 cn3)) (w.heap.size + 1) 0 (.int .i64 p.mx)) (by omega)
      have t121 := t118.past (grown_set (w3.setCell ⟨w2.heap.size, 1, none⟩ (.slice An3 0 cn3)) (w.heap.size + 1) 0 (.int .i64 p.mx)) (by omega)
      have o122 := o117.past r116 (grown_set (w3.setCell ⟨w2.heap.size, 1, none⟩ (.slice An3 0 cn3)) (w.heap.size + 1) 0 (.int .i64 p.mx))
      have r123 : At ((w3.setCell ⟨w2.heap.size, 1, none⟩ (.slice An3 0 cn3)).setCell ⟨w.heap.size + 1, 0, none⟩ (.int .i64 p.mx)) (w.heap.size + 1) 30 #[.int .i64 p.mx, .slice none 0 0, .slice none 0 0, .slice none 0 0] := by simpa using r116.set 0 (.int .i64 p.mx)
      clear hB114 x115 t118 o117 r116
      have hB124 := below_put hB119 (grown_set ((w3.setCell ⟨w2.heap.size, 1, none⟩ (.slice An3 0 cn3)).setCell ⟨w.heap.size + 1, 0, none⟩ (.int .i64 p.mx)) (w.heap.size + 1) 1 (.slice An3 0 cn3)) (by omega) (by have := hB119.size; omega)
      have x125 := x120.past (grown_set ((w3.setCell ⟨w2.heap.size, 1, none⟩ (.slice An3 0 cn3)).setCell ⟨w.heap.size + 1, 0, none⟩ (.int .i64 p.mx)) (w.heap.size + 1) 1 (.slice An3 0 cn3)) (by omega)
      have t126 := t121.past (grown_set ((w3.setCell ⟨w2.heap.size, 1, none⟩ (.slice An3 0 cn3)).setCell ⟨w.heap.size + 1, 0, none⟩ (.int .i64 p.mx)) (w.heap.size + 1) 1 (.slice An3 0 cn3)) (by omega)
      have o127 := o122.past r123 (grown_set ((w3.setCell ⟨w2.heap.size, 1, none⟩ (.slice An3 0 cn3)).setCell ⟨w.heap.size + 1, 0, none⟩ (.int .i64 p.mx)) (w.heap.size + 1) 1 (.slice An3 0 cn3))
      have r128 : At (((w3.setCell ⟨w2.heap.size, 1, none⟩ (.slice An3 0 cn3)).setCell ⟨w.heap.size + 1, 0, none⟩ (.int .i64 p.mx)).setCell ⟨w.heap.size + 1, 1, none⟩ (.slice An3 0 cn3)) (w.heap.size + 1) 30 #[.int .i64 p.mx, .slice An3 0 cn3, .slice none 0 0, .slice none 0 0] := by simpa using r123.set 1 (.slice An3 0 cn3)
      clear hB119 x120 t121 o122 r123
      have hB129 := below_put hB124 (grown_set (((w3.setCell ⟨w2.heap.size, 1, none⟩ (.slice An3 0 cn3)).setCell ⟨w.heap.size + 1, 0, none⟩ (.int .i64 p.mx)).setCell ⟨w.heap.size + 1, 1, none⟩ (.slice An3 0 cn3)) (w.heap.size + 1) 2 (.slice B2 p.held.length d2)) (by omega) (by have := hB124.size; omega)
      have x130 := x125.past (grown_set (((w3.setCell ⟨w2.heap.size, 1, none⟩ (.slice An3 0 cn3)).setCell ⟨w.heap.size + 1, 0, none⟩ (.int .i64 p.mx)).setCell ⟨w.heap.size + 1, 1, none⟩ (.slice An3 0 cn3)) (w.heap.size + 1) 2 (.slice B2 p.held.length d2)) (by omega)
      have t131 := t126.past (grown_set (((w3.setCell ⟨w2.heap.size, 1, none⟩ (.slice An3 0 cn3)).setCell ⟨w.heap.size + 1, 0, none⟩ (.int .i64 p.mx)).setCell ⟨w.heap.size + 1, 1, none⟩ (.slice An3 0 cn3)) (w.heap.size + 1) 2 (.slice B2 p.held.length d2)) (by omega)
      have o132 := o127.past r128 (grown_set (((w3.setCell ⟨w2.heap.size, 1, none⟩ (.slice An3 0 cn3)).setCell ⟨w.heap.size + 1, 0, none⟩ (.int .i64 p.mx)).setCell ⟨w.heap.size + 1, 1, none⟩ (.slice An3 0 cn3)) (w.heap.size + 1) 2 (.slice B2 p.held.length d2))
      have r133 : At ((((w3.setCell ⟨w2.heap.size, 1, none⟩ (.slice An3 0 cn3)).setCell ⟨w.heap.size + 1, 0, none⟩ (.int .i64 p.mx)).setCell ⟨w.heap.size + 1, 1, none⟩ (.slice An3 0 cn3)).setCell ⟨w.heap.size + 1, 2, none⟩ (.slice B2 p.held.length d2)) (w.heap.size + 1) 30 #[.int .i64 p.mx, .slice An3 0 cn3, .slice B2 p.held.length d2, .slice none 0 0] := by simpa using r128.set 2 (.slice B2 p.held.length d2)
      clear hB124 x125 t126 o127 r128
      have hB134 := below_put hB129 (grown_set ((((w3.setCell ⟨w2.heap.size, 1, none⟩ (.slice An3 0 cn3)).setCell ⟨w.heap.size + 1, 0, none⟩ (.int .i64 p.mx)).setCell ⟨w.heap.size + 1, 1, none⟩ (.slice An3 0 cn3)).setCell ⟨w.heap.size + 1, 2, none⟩ (.slice B2 p.held.length d2)) (w.heap.size + 1) 3 (.slice B3 p.wait.length d3)) (by omega) (by have := hB129.size; omega)
      have x135 := x130.past (grown_set ((((w3.setCell ⟨w2.heap.size, 1, none⟩ (.slice An3 0 cn3)).setCell ⟨w.heap.size + 1, 0, none⟩ (.int .i64 p.mx)).setCell ⟨w.heap.size + 1, 1, none⟩ (.slice An3 0 cn3)).setCell ⟨w.heap.size + 1, 2, none⟩ (.slice B2 p.held.length d2)) (w.heap.size + 1) 3 (.slice B3 p.wait.length d3)) (by omega)
      have t136 := t131.past (grown_set ((((w3.setCell ⟨w2.heap.size, 1, none⟩ (.slice An3 0 cn3)).setCell ⟨w.heap.size + 1, 0, none⟩ (.int .i64 p.mx)).setCell ⟨w.heap.size + 1, 1, none⟩ (.slice An3 0 cn3)).setCell ⟨w.heap.size + 1, 2, none⟩ (.slice B2 p.held.length d2)) (w.heap.size + 1) 3 (.slice B3 p.wait.length d3)) (by omega)
      have o137 := o132.past r133 (grown_set ((((w3.setCell ⟨w2.heap.size, 1, none⟩ (.slice An3 0 cn3)).setCell ⟨w.heap.size + 1, 0, none⟩ (.int .i64 p.mx)).setCell ⟨w.heap.size + 1, 1, none⟩ (.slice An3 0 cn3)).setCell ⟨w.heap.size + 1, 2, none⟩ (.slice B2 p.held.length d2)) (w.heap.size + 1) 3 (.slice B3 p.wait.length d3))
      have r138 : At (((((w3.setCell ⟨w2.heap.size, 1, none⟩ (.slice An3 0 cn3)).setCell ⟨w.heap.size + 1, 0, none⟩ (.int .i64 p.mx)).setCell ⟨w.heap.size + 1, 1, none⟩ (.slice An3 0 cn3)).setCell ⟨w.heap.size + 1, 2, none⟩ (.slice B2 p.held.length d2)).setCell ⟨w.heap.size + 1, 3, none⟩ (.slice B3 p.wait.length d3)) (w.heap.size + 1) 30 #[.int .i64 p.mx, .slice An3 0 cn3, .slice B2 p.held.length d2, .slice B3 p.wait.length d3] := by simpa using r133.set 3 (.slice B3 p.wait.length d3)
      clear hB129 x130 t131 o132 r133
      go_wp2
      refine bodyPost_ret (v := .tuple #[.agg #[.int .i64 p.mx, .slice An3 0 cn3, .slice B2 p.held.length d2, .slice B3 p.wait.length d3], .int .i64 p.idle.length]) (by simp [results, Try.results88, go_sem, r138.cell]) rfl ?_
      rw [E2.out, E4.out, HD.out]
      exact ⟨An3, B2, B3, cn3, d2, d3, rfl, o137.mono (show w.heap.size ≤ w.heap.size + 2 by omega), hB134⟩
  by_cases x3 : o = (p.idle.length : Int)
  · skip
    subst x3
    obtain rfl : k = p.idle.length := by omega
    clear k1 k3 hk0 hkl hlc hk13 K1 K3 HL
    have HD := hid (show p.idle.drop p.idle.length = [] by simp)
    by_cases hck : c1 = p.idle.length
    · skip
      subst hck
      have hk13 : p.idle.length ≤ 2097152 := H1.out
      have hB139 := Below.refl w.heap.size w
      have hB140 := hB139.alloc hB139.size (.cells #[.int .i64 p.mx, .slice A1 p.idle.length p.idle.length, .slice A2 p.held.length c2, .slice A3 p.wait.length c3] 30)
      clear hB139
      have x141 : At (w.alloc (.cells #[.int .i64 p.mx, .slice A1 p.idle.length p.idle.length, .slice A2 p.held.length c2, .slice A3 p.wait.length c3] 30)) (w.heap.size) 30 #[.int .i64 p.mx, .slice A1 p.idle.length p.idle.length, .slice A2 p.held.length c2, .slice A3 p.wait.length c3] := At.newAt _ _ (by first | rfl | (simp; done) | (simp; omega))
      have hB142 := hB140.alloc hB140.size (.cells #[.int .i64 0, .slice none 0 0, .slice none 0 0, .slice none 0 0] 30)
      have x143 := x141.alloc (.cells #[.int .i64 0, .slice none 0 0, .slice none 0 0, .slice none 0 0] 30)
      clear hB140 x141
      have r144 : At ((w.alloc (.cells #[.int .i64 p.mx, .slice A1 p.idle.length p.idle.length, .slice A2 p.held.length c2, .slice A3 p.wait.length c3] 30)).alloc (.cells #[.int .i64 0, .slice none 0 0, .slice none 0 0, .slice none 0 0] 30)) (w.heap.size + 1) 30 #[.int .i64 0, .slice none 0 0, .slice none 0 0, .slice none 0 0] := At.newAt _ _ (by first | rfl | (simp; done) | (simp; omega))
      go_enter Try.func88, Try.ntmps88
      obtain ⟨p0, p1, p2, p3, pl, pf⟩ := (⟨x143.cell 0, x143.cell 1, x143.cell 2, x143.cell 3, x143.lt, x143.frozen⟩ : _ ∧ _ ∧ _ ∧ _ ∧ _ ∧ _)
      obtain ⟨q0, q1, q2, q3, ql, qf⟩ := (⟨r144.cell 0, r144.cell 1, r144.cell 2, r144.cell 3, r144.lt, r144.frozen⟩ : _ ∧ _ ∧ _ ∧ _ ∧ _ ∧ _)
      go_wp2_with fail
      with_reducible refine (svalidPool_any p A1 A2 A3 p.idle.length c2 c3 _ (h.on hB142) H1.out H2.out (Nat.le_trans H3.out (by decide))).mono ?_
      rintro e w1 ⟨he, hb1⟩
      rw [HK.out] at he
      subst he
      have sz1 : w.heap.size + 2 ≤ w1.heap.size := Nat.le_trans (by first | exact Nat.le_refl _ | (simp; done) | (simp; omega)) (hb1.size)
      have hB145 := hB142.trans (hb1.mono hB142.size)
      have x146 := x143.below hb1 x143.lt
      have r147 := r144.below hb1 r144.lt
      clear hB142 x143 r144
      clear p0 p1 p2 p3 pl pf q0 q1 q2 q3 ql qf
      obtain ⟨p0, p1, p2, p3, pl, pf⟩ := (⟨x146.cell 0, x146.cell 1, x146.cell 2, x146.cell 3, x146.lt, x146.frozen⟩ : _ ∧ _ ∧ _ ∧ _ ∧ _ ∧ _)
      obtain ⟨q0, q1, q2, q3, ql, qf⟩ := (⟨r147.cell 0, r147.cell 1, r147.cell 2, r147.cell 3, r147.lt, r147.frozen⟩ : _ ∧ _ ∧ _ ∧ _ ∧ _ ∧ _)
      go_wp2_with fail
      with_reducible refine (scopyPool_any p A1 A2 A3 p.idle.length c2 c3 _ (h.on hB145) (Nat.le_trans H1.out (by decide)) (Nat.le_trans H2.out (by decide)) (Nat.le_trans H3.out (by decide))).mono ?_
      rintro e w2 ⟨B1, B2, B3, d1, d2, d3, rfl, ho, hb2⟩
      have sz2 : w1.heap.size ≤ w2.heap.size := Nat.le_trans (by first | exact Nat.le_refl _ | (simp; done) | (simp; omega)) (hb2.size)
      have hB148 := hB145.trans (hb2.mono hB145.size)
      have x149 := x146.below hb2 x146.lt
      have r150 := r147.below hb2 r147.lt
      clear hB145 x146 r147
      clear p0 p1 p2 p3 pl pf q0 q1 q2 q3 ql qf
      have o151 := ho.mono (show w.heap.size + 2 ≤ _ by omega)
      clear ho
      obtain ⟨p0, p1, p2, p3, pl, pf⟩ := (⟨x149.cell 0, x149.cell 1, x149.cell 2, x149.cell 3, x149.lt, x149.frozen⟩ : _ ∧ _ ∧ _ ∧ _ ∧ _ ∧ _)
      obtain ⟨q0, q1, q2, q3, ql, qf⟩ := (⟨r150.cell 0, r150.cell 1, r150.cell 2, r150.cell 3, r150.lt, r150.frozen⟩ : _ ∧ _ ∧ _ ∧ _ ∧ _ ∧ _)
      have hB152 := hB148.alloc hB148.size (.cells #[.int .i64 p.mx, .slice B1 p.idle.length d1, .slice B2 p.held.length d2, .slice B3 p.wait.length d3] 30)
      have x153 := x149.alloc (.cells #[.int .i64 p.mx, .slice B1 p.idle.length d1, .slice B2 p.held.length d2, .slice B3 p.wait.length d3] 30)
      have r154 := r150.alloc (.cells #[.int .i64 p.mx, .slice B1 p.idle.length d1, .slice B2 p.held.length d2, .slice B3 p.wait.length d3] 30)
      have o155 := o151.alloc (.cells #[.int .i64 p.mx, .slice B1 p.idle.length d1, .slice B2 p.held.length d2, .slice B3 p.wait.length d3] 30)
      clear hB148 x149 r150 o151
      have t156 : At (w2.alloc (.cells #[.int .i64 p.mx, .slice B1 p.idle.length d1, .slice B2 p.held.length d2, .slice B3 p.wait.length d3] 30)) (w2.heap.size) 30 #[.int .i64 p.mx, .slice B1 p.idle.length d1, .slice B2 p.held.length d2, .slice B3 p.wait.length d3] := At.newAt _ _ (by first | rfl | (simp; done) | (simp; omega))
      go_wp2_with fail
      with_reducible refine (copyInts_len (n := 0) (l := []) rfl Sees.nil (by simp)).mono ?_
      rintro e w3 ⟨v3, rfl, hn3, hb3⟩
      obtain ⟨An3, cn3, rfl, _⟩ := hn3.form
      have sz3 : w2.heap.size + 1 ≤ w3.heap.size := Nat.le_trans (by first | exact Nat.le_refl _ | (simp; done) | (simp; omega)) (hb3.size)
      have o157 := o155.newIdle (by first | omega | (simp; omega) | (simp; done)) hn3 hb3
      have hB158 := hB152.trans (hb3.mono hB152.size)
      have x159 := x153.below hb3 x153.lt
      have r160 := r154.below hb3 r154.lt
      have t161 := t156.below hb3 t156.lt
      clear hB152 x153 r154 t156
      clear p0 p1 p2 p3 pl pf q0 q1 q2 q3 ql qf
      clear o155 hn3
      obtain ⟨p0, p1, p2, p3, pl, pf⟩ := (⟨x159.cell 0, x159.cell 1, x159.cell 2, x159.cell 3, x159.lt, x159.frozen⟩ : _ ∧ _ ∧ _ ∧ _ ∧ _ ∧ _)
      obtain ⟨q0, q1, q2, q3, ql, qf⟩ := (⟨r160.cell 0, r160.cell 1, r160.cell 2, r160.cell 3, r160.lt, r160.frozen⟩ : _ ∧ _ ∧ _ ∧ _ ∧ _ ∧ _)
      obtain ⟨t0, t1, t2, t3, tl, tf⟩ := (⟨t161.cell 0, t161.cell 1, t161.cell 2, t161.cell 3, t161.lt, t161.frozen⟩ : _ ∧ _ ∧ _ ∧ _ ∧ _ ∧ _)
      have ne_pq : ¬ w.heap.size = w.heap.size + 1 := by omega
      have ne_qp : ¬ w.heap.size + 1 = w.heap.size := by omega
      have ne_pt : ¬ w.heap.size = w2.heap.size := by omega
      have ne_tp : ¬ w2.heap.size = w.heap.size := by omega
      have ne_qt : ¬ w.heap.size + 1 = w2.heap.size := by omega
      have ne_tq : ¬ w2.heap.size = w.heap.size + 1 := by omega
      have hB162 := below_put hB158 (grown_set w3 (w2.heap.size) 1 (.slice An3 0 cn3)) (by omega) (by have := hB158.size; omega)
      have x163 := x159.past (grown_set w3 (w2.heap.size) 1 (.slice An3 0 cn3)) (by omega)
      have r164 := r160.past (grown_set w3 (w2.heap.size) 1 (.slice An3 0 cn3)) (by omega)
      have o165 := o157.past t161 (grown_set w3 (w2.heap.size) 1 (.slice An3 0 cn3))
      have t166 : At (w3.setCell ⟨w2.heap.size, 1, none⟩ (.slice An3 0 cn3)) (w2.heap.size) 30 #[.int .i64 p.mx, .slice An3 0 cn3, .slice B2 p.held.length d2, .slice B3 p.wait.length d3] := by simpa using t161.set 1 (.slice An3 0 cn3)
      clear hB158 x159 r160 o157 t161
      have hB167 := below_put hB162 (grown_set (w3.setCell ⟨w2.heap.size, 1, none⟩ (.slice An3 0 cn3)) (w.heap.size + 1) 0 (.int .i64 p.mx)) (by omega) (by have := hB162.size; omega)
      have x168 := x163.past (grown_set (w3.setCell ⟨w2.heap.size, 1, none⟩ (.slice An3 0 cn3)) (w.heap.size + 1) 0 (.int .i64 p.mx)) (by omega)
      have t169 := t166.past (grown_set (w3.setCell ⟨w2.heap.size, 1, none⟩ (.slice An3 0 cn3)) (w.heap.size + 1) 0 (.int .i64 p.mx)) (by omega)
      have o170 := o165.past r164 (grown_set (w3.setCell ⟨w2.heap.size, 1, none⟩ (.slice An3 0 cn3)) (w.heap.size + 1) 0 (.int .i64 p.mx))
      have r171 : At ((w3.setCell ⟨w2.heap.size, 1, none⟩ (.slice An3 0 cn3)).setCell ⟨w.heap.size + 1, 0, none⟩ (.int .i64 p.mx)) (w.heap.size + 1) 30 #[.int .i64 p.mx, .slice none 0 0, .slice none 0 0, .slice none 0 0] := by simpa using r164.set 0 (.int .i64 p.mx)
      clear hB162 x163 t166 o165 r164
      have hB172 := below_put hB167 (grown_set ((w3.setCell ⟨w2.heap.size, 1, none⟩ (.slice An3 0 cn3)).setCell ⟨w.heap.size + 1, 0, none⟩ (.int .i64 p.mx)) (w.heap.size + 1) 1 (.slice An3 0 cn3)) (by omega) (by have := hB167.size; omega)
      have x173 := x168.past (grown_set ((w3.setCell ⟨w2.heap.size, 1, none⟩ (.slice An3 0 cn3)).setCell ⟨w.heap.size + 1, 0, none⟩ (.int .i64 p.mx)) (w.heap.size + 1) 1 (.slice An3 0 cn3)) (by omega)
      have t174 := t169.past (grown_set ((w3.setCell ⟨w2.heap.size, 1, none⟩ (.slice An3 0 cn3)).setCell ⟨w.heap.size + 1, 0, none⟩ (.int .i64 p.mx)) (w.heap.size + 1) 1 (.slice An3 0 cn3)) (by omega)
      have o175 := o170.past r171 (grown_set ((w3.setCell ⟨w2.heap.size, 1, none⟩ (.slice An3 0 cn3)).setCell ⟨w.heap.size + 1, 0, none⟩ (.int .i64 p.mx)) (w.heap.size + 1) 1 (.slice An3 0 cn3))
      have r176 : At (((w3.setCell ⟨w2.heap.size, 1, none⟩ (.slice An3 0 cn3)).setCell ⟨w.heap.size + 1, 0, none⟩ (.int .i64 p.mx)).setCell ⟨w.heap.size + 1, 1, none⟩ (.slice An3 0 cn3)) (w.heap.size + 1) 30 #[.int .i64 p.mx, .slice An3 0 cn3, .slice none 0 0, .slice none 0 0] := by simpa using r171.set 1 (.slice An3 0 cn3)
      clear hB167 x168 t169 o170 r171
      have hB177 := below_put hB172 (grown_set (((w3.setCell ⟨w2.heap.size, 1, none⟩ (.slice An3 0 cn3)).setCell ⟨w.heap.size + 1, 0, none⟩ (.int .i64 p.mx)).setCell ⟨w.heap.size + 1, 1, none⟩ (.slice An3 0 cn3)) (w.heap.size + 1) 2 (.slice B2 p.held.length d2)) (by omega) (by have := hB172.size; omega)
      have x178 := x173.past (grown_set (((w3.setCell ⟨w2.heap.size, 1, none⟩ (.slice An3 0 cn3)).setCell ⟨w.heap.size + 1, 0, none⟩ (.int .i64 p.mx)).setCell ⟨w.heap.size + 1, 1, none⟩ (.slice An3 0 cn3)) (w.heap.size + 1) 2 (.slice B2 p.held.length d2)) (by omega)
      have t179 := t174.past (grown_set (((w3.setCell ⟨w2.heap.size, 1, none⟩ (.slice An3 0 cn3)).setCell ⟨w.heap.size + 1, 0, none⟩ (.int .i64 p.mx)).setCell ⟨w.heap.size + 1, 1, none⟩ (.slice An3 0 cn3)) (w.heap.size + 1) 2 (.slice B2 p.held.length d2)) (by omega)
      have o180 := o175.past r176 (grown_set (((w3.setCell ⟨w2.heap.size, 1, none⟩ (.slice An3 0 cn3)).setCell ⟨w.heap.size + 1, 0, none⟩ (.int .i64 p.mx)).setCell ⟨w.heap.size + 1, 1, none⟩ (.slice An3 0 cn3)) (w.heap.size + 1) 2 (.slice B2 p.held.length d2))
      have r181 : At ((((w3.setCell ⟨w2.heap.size, 1, none⟩ (.slice An3 0 cn3)).setCell ⟨w.heap.size + 1, 0, none⟩ (.int .i64 p.mx)).setCell ⟨w.heap.size + 1, 1, none⟩ (.slice An3 0 cn3)).setCell ⟨w.heap.size + 1, 2, none⟩ (.slice B2 p.held.length d2)) (w.heap.size + 1) 30 #[.int .i64 p.mx, .slice An3 0 cn3, .slice B2 p.held.length d2, .slice none 0 0] := by simpa using r176.set 2 (.slice B2 p.held.length d2)
      clear hB172 x173 t174 o175 r176
      have hB182 := below_put hB177 (grown_set ((((w3.setCell ⟨w2.heap.size, 1, none⟩ (.slice An3 0 cn3)).setCell ⟨w.heap.size + 1, 0, none⟩ (.int .i64 p.mx)).setCell ⟨w.heap.size + 1, 1, none⟩ (.slice An3 0 cn3)).setCell ⟨w.heap.size + 1, 2, none⟩ (.slice B2 p.held.length d2)) (w.heap.size + 1) 3 (.slice B3 p.wait.length d3)) (by omega) (by have := hB177.size; omega)
      have x183 := x178.past (grown_set ((((w3.setCell ⟨w2.heap.size, 1, none⟩ (.slice An3 0 cn3)).setCell ⟨w.heap.size + 1, 0, none⟩ (.int .i64 p.mx)).setCell ⟨w.heap.size + 1, 1, none⟩ (.slice An3 0 cn3)).setCell ⟨w.heap.size + 1, 2, none⟩ (.slice B2 p.held.length d2)) (w.heap.size + 1) 3 (.slice B3 p.wait.length d3)) (by omega)
      have t184 := t179.past (grown_set ((((w3.setCell ⟨w2.heap.size, 1, none⟩ (.slice An3 0 cn3)).setCell ⟨w.heap.size + 1, 0, none⟩ (.int .i64 p.mx)).setCell ⟨w.heap.size + 1, 1, none⟩ (.slice An3 0 cn3)).setCell ⟨w.heap.size + 1, 2, none⟩ (.slice B2 p.held.length d2)) (w.heap.size + 1) 3 (.slice B3 p.wait.length d3)) (by omega)
      have o185 := o180.past r181 (grown_set ((((w3.setCell ⟨w2.heap.size, 1, none⟩ (.slice An3 0 cn3)).setCell ⟨w.heap.size + 1, 0, none⟩ (.int .i64 p.mx)).setCell ⟨w.heap.size + 1, 1, none⟩ (.slice An3 0 cn3)).setCell ⟨w.heap.size + 1, 2, none⟩ (.slice B2 p.held.length d2)) (w.heap.size + 1) 3 (.slice B3 p.wait.length d3))
      have r186 : At (((((w3.setCell ⟨w2.heap.size, 1, none⟩ (.slice An3 0 cn3)).setCell ⟨w.heap.size + 1, 0, none⟩ (.int .i64 p.mx)).setCell ⟨w.heap.size + 1, 1, none⟩ (.slice An3 0 cn3)).setCell ⟨w.heap.size + 1, 2, none⟩ (.slice B2 p.held.length d2)).setCell ⟨w.heap.size + 1, 3, none⟩ (.slice B3 p.wait.length d3)) (w.heap.size + 1) 30 #[.int .i64 p.mx, .slice An3 0 cn3, .slice B2 p.held.length d2, .slice B3 p.wait.length d3] := by simpa using r181.set 3 (.slice B3 p.wait.length d3)
      clear hB177 x178 t179 o180 r181
      go_wp2
      refine bodyPost_ret (v := .tuple #[.agg #[.int .i64 p.mx, .slice An3 0 cn3, .slice B2 p.held.length d2, .slice B3 p.wait.length d3], .int .i64 p.idle.length]) (by simp [results, Try.results88, go_sem, r186.cell]) rfl ?_
      rw [E2.out, E4.out, HD.out]
      exact ⟨An3, B2, B3, cn3, d2, d3, rfl, o185.mono (show w.heap.size ≤ w.heap.size + 2 by omega), hB182⟩
    · skip
      have hck2 : ¬ p.idle.length = c1 := fun e => hck e.symm
      have hlc : (p.idle.length : Int) ≤ (c1 : Int) := by omega
      have hk13 : p.idle.length ≤ 2097152 := H1.out
      have hB187 := Below.refl w.heap.size w
      have hB188 := hB187.alloc hB187.size (.cells #[.int .i64 p.mx, .slice A1 p.idle.length c1, .slice A2 p.held.length c2, .slice A3 p.wait.length c3] 30)
      clear hB187
      have x189 : At (w.alloc (.cells #[.int .i64 p.mx, .slice A1 p.idle.length c1, .slice A2 p.held.length c2, .slice A3 p.wait.length c3] 30)) (w.heap.size) 30 #[.int .i64 p.mx, .slice A1 p.idle.length c1, .slice A2 p.held.length c2, .slice A3 p.wait.length c3] := At.newAt _ _ (by first | rfl | (simp; done) | (simp; omega))
      have hB190 := hB188.alloc hB188.size (.cells #[.int .i64 0, .slice none 0 0, .slice none 0 0, .slice none 0 0] 30)
      have x191 := x189.alloc (.cells #[.int .i64 0, .slice none 0 0, .slice none 0 0, .slice none 0 0] 30)
      clear hB188 x189
      have r192 : At ((w.alloc (.cells #[.int .i64 p.mx, .slice A1 p.idle.length c1, .slice A2 p.held.length c2, .slice A3 p.wait.length c3] 30)).alloc (.cells #[.int .i64 0, .slice none 0 0, .slice none 0 0, .slice none 0 0] 30)) (w.heap.size + 1) 30 #[.int .i64 0, .slice none 0 0, .slice none 0 0, .slice none 0 0] := At.newAt _ _ (by first | rfl | (simp; done) | (simp; omega))
      go_enter Try.func88, Try.ntmps88
      obtain ⟨p0, p1, p2, p3, pl, pf⟩ := (⟨x191.cell 0, x191.cell 1, x191.cell 2, x191.cell 3, x191.lt, x191.frozen⟩ : _ ∧ _ ∧ _ ∧ _ ∧ _ ∧ _)
      obtain ⟨q0, q1, q2, q3, ql, qf⟩ := (⟨r192.cell 0, r192.cell 1, r192.cell 2, r192.cell 3, r192.lt, r192.frozen⟩ : _ ∧ _ ∧ _ ∧ _ ∧ _ ∧ _)
      go_wp2_with fail
      with_reducible refine (svalidPool_any p A1 A2 A3 c1 c2 c3 _ (h.on hB190) H1.out H2.out (Nat.le_trans H3.out (by decide))).mono ?_
      rintro e w1 ⟨he, hb1⟩
      rw [HK.out] at he
      subst he
      have sz1 : w.heap.size + 2 ≤ w1.heap.size := Nat.le_trans (by first | exact Nat.le_refl _ | (simp; done) | (simp; omega)) (hb1.size)
      have hB193 := hB190.trans (hb1.mono hB190.size)
      have x194 := x191.below hb1 x191.lt
      have r195 := r192.below hb1 r192.lt
      clear hB190 x191 r192
      clear p0 p1 p2 p3 pl pf q0 q1 q2 q3 ql qf
      obtain ⟨p0, p1, p2, p3, pl, pf⟩ := (⟨x194.cell 0, x194.cell 1, x194.cell 2, x194.cell 3, x194.lt, x194.frozen⟩ : _ ∧ _ ∧ _ ∧ _ ∧ _ ∧ _)
      obtain ⟨q0, q1, q2, q3, ql, qf⟩ := (⟨r195.cell 0, r195.cell 1, r195.cell 2, r195.cell 3, r195.lt, r195.frozen⟩ : _ ∧ _ ∧ _ ∧ _ ∧ _ ∧ _)
      go_wp2_with fail
      with_reducible refine (scopyPool_any p A1 A2 A3 c1 c2 c3 _ (h.on hB193) (Nat.le_trans H1.out (by decide)) (Nat.le_trans H2.out (by decide)) (Nat.le_trans H3.out (by decide))).mono ?_
      rintro e w2 ⟨B1, B2, B3, d1, d2, d3, rfl, ho, hb2⟩
      have sz2 : w1.heap.size ≤ w2.heap.size := Nat.le_trans (by first | exact Nat.le_refl _ | (simp; done) | (simp; omega)) (hb2.size)
      have hB196 := hB193.trans (hb2.mono hB193.size)
      have x197 := x194.below hb2 x194.lt
      have r198 := r195.below hb2 r195.lt
      clear hB193 x194 r195
      clear p0 p1 p2 p3 pl pf q0 q1 q2 q3 ql qf
      have o199 := ho.mono (show w.heap.size + 2 ≤ _ by omega)
      clear ho
      obtain ⟨p0, p1, p2, p3, pl, pf⟩ := (⟨x197.cell 0, x197.cell 1, x197.cell 2, x197.cell 3, x197.lt, x197.frozen⟩ : _ ∧ _ ∧ _ ∧ _ ∧ _ ∧ _)
      obtain ⟨q0, q1, q2, q3, ql, qf⟩ := (⟨r198.cell 0, r198.cell 1, r198.cell 2, r198.cell 3, r198.lt, r198.frozen⟩ : _ ∧ _ ∧ _ ∧ _ ∧ _ ∧ _)
      have hB200 := hB196.alloc hB196.size (.cells #[.int .i64 p.mx, .slice B1 p.idle.length d1, .slice B2 p.held.length d2, .slice B3 p.wait.length d3] 30)
      have x201 := x197.alloc (.cells #[.int .i64 p.mx, .slice B1 p.idle.length d1, .slice B2 p.held.length d2, .slice B3 p.wait.length d3] 30)
      have r202 := r198.alloc (.cells #[.int .i64 p.mx, .slice B1 p.idle.length d1, .slice B2 p.held.length d2, .slice B3 p.wait.length d3] 30)
      have o203 := o199.alloc (.cells #[.int .i64 p.mx, .slice B1 p.idle.length d1, .slice B2 p.held.length d2, .slice B3 p.wait.length d3] 30)
      clear hB196 x197 r198 o199
      have t204 : At (w2.alloc (.cells #[.int .i64 p.mx, .slice B1 p.idle.length d1, .slice B2 p.held.length d2, .slice B3 p.wait.length d3] 30)) (w2.heap.size) 30 #[.int .i64 p.mx, .slice B1 p.idle.length d1, .slice B2 p.held.length d2, .slice B3 p.wait.length d3] := At.newAt _ _ (by first | rfl | (simp; done) | (simp; omega))
      go_wp2_with fail
      with_reducible refine (copyInts_len (n := 0) (l := []) rfl Sees.nil (by simp)).mono ?_
      rintro e w3 ⟨v3, rfl, hn3, hb3⟩
      obtain ⟨An3, cn3, rfl, _⟩ := hn3.form
      have sz3 : w2.heap.size + 1 ≤ w3.heap.size := Nat.le_trans (by first | exact Nat.le_refl _ | (simp; done) | (simp; omega)) (hb3.size)
      have o205 := o203.newIdle (by first | omega | (simp; omega) | (simp; done)) hn3 hb3
      have hB206 := hB200.trans (hb3.mono hB200.size)
      have x207 := x201.below hb3 x201.lt
      have r208 := r202.below hb3 r202.lt
      have t209 := t204.below hb3 t204.lt
      clear hB200 x201 r202 t204
      clear p0 p1 p2 p3 pl pf q0 q1 q2 q3 ql qf
      clear o203 hn3
      obtain ⟨p0, p1, p2, p3, pl, pf⟩ := (⟨x207.cell 0, x207.cell 1, x207.cell 2, x207.cell 3, x207.lt, x207.frozen⟩ : _ ∧ _ ∧ _ ∧ _ ∧ _ ∧ _)
      obtain ⟨q0, q1, q2, q3, ql, qf⟩ := (⟨r208.cell 0, r208.cell 1, r208.cell 2, r208.cell 3, r208.lt, r208.frozen⟩ : _ ∧ _ ∧ _ ∧ _ ∧ _ ∧ _)
      obtain ⟨t0, t1, t2, t3, tl, tf⟩ := (⟨t209.cell 0, t209.cell 1, t209.cell 2, t209.cell 3, t209.lt, t209.frozen⟩ : _ ∧ _ ∧ _ ∧ _ ∧ _ ∧ _)
      have ne_pq : ¬ w.heap.size = w.heap.size + 1 := by omega
      have ne_qp : ¬ w.heap.size + 1 = w.heap.size := by omega
      have ne_pt : ¬ w.heap.size = w2.heap.size := by omega
      have ne_tp : ¬ w2.heap.size = w.heap.size := by omega
      have ne_qt : ¬ w.heap.size + 1 = w2.heap.size := by omega
      have ne_tq : ¬ w2.heap.size = w.heap.size + 1 := by omega
      have hB210 := below_put hB206 (grown_set w3 (w2.heap.size) 1 (.slice An3 0 cn3)) (by omega) (by have := hB206.size; omega)
      have x211 := x207.past (grown_set w3 (w2.heap.size) 1 (.slice An3 0 cn3)) (by omega)
      have r212 := r208.past (grown_set w3 (w2.heap.size) 1 (.slice An3 0 cn3)) (by omega)
      have o213 := o205.past t209 (grown_set w3 (w2.heap.size) 1 (.slice An3 0 cn3))
      have t214 : At (w3.setCell ⟨w2.heap.size, 1, none⟩ (.slice An3 0 cn3)) (w2.heap.size) 30 #[.int .i64 p.mx, .slice An3 0 cn3, .slice B2 p.held.length d2, .slice B3 p.wait.length d3] := by simpa using t209.set 1 (.slice An3 0 cn3)
      clear hB206 x207 r208 o205 t209
      have hB215 := below_put hB210 (grown_set (w3.setCell ⟨w2.heap.size, 1, none⟩ (.slice An3 0 cn3)) (w.heap.size + 1) 0 (.int .i64 p.mx)) (by omega) (by have := hB210.size; omega)
      have x216 := x211.past (grown_set (w3.setCell ⟨w2.heap.size, 1, none⟩ (.slice An3 0 cn3)) (w.heap.size + 1) 0 (.int .i64 p.mx)) (by omega)
      have t217 := t214.past (grown_set (w3.setCell ⟨w2.heap.size, 1, none⟩ (.slice An3 0 cn3)) (w.heap.size + 1) 0 (.int .i64 p.mx)) (by omega)
      have o218 := o213.past r212 (grown_set (w3.setCell ⟨w2.heap.size, 1, none⟩ (.slice An3 0 cn3)) (w.heap.size + 1) 0 (.int .i64 p.mx))
      have r219 : At ((w3.setCell ⟨w2.heap.size, 1, none⟩ (.slice An3 0 cn3)).setCell ⟨w.heap.size + 1, 0, none⟩ (.int .i64 p.mx)) (w.heap.size + 1) 30 #[.int .i64 p.mx, .slice none 0 0, .slice none 0 0, .slice none 0 0] := by simpa using r212.set 0 (.int .i64 p.mx)
      clear hB210 x211 t214 o213 r212
      have hB220 := below_put hB215 (grown_set ((w3.setCell ⟨w2.heap.size, 1, none⟩ (.slice An3 0 cn3)).setCell ⟨w.heap.size + 1, 0, none⟩ (.int .i64 p.mx)) (w.heap.size + 1) 1 (.slice An3 0 cn3)) (by omega) (by have := hB215.size; omega)
      have x221 := x216.past (grown_set ((w3.setCell ⟨w2.heap.size, 1, none⟩ (.slice An3 0 cn3)).setCell ⟨w.heap.size + 1, 0, none⟩ (.int .i64 p.mx)) (w.heap.size + 1) 1 (.slice An3 0 cn3)) (by omega)
      have t222 := t217.past (grown_set ((w3.setCell ⟨w2.heap.size, 1, none⟩ (.slice An3 0 cn3)).setCell ⟨w.heap.size + 1, 0, none⟩ (.int .i64 p.mx)) (w.heap.size + 1) 1 (.slice An3 0 cn3)) (by omega)
      have o223 := o218.past r219 (grown_set ((w3.setCell ⟨w2.heap.size, 1, none⟩ (.slice An3 0 cn3)).setCell ⟨w.heap.size + 1, 0, none⟩ (.int .i64 p.mx)) (w.heap.size + 1) 1 (.slice An3 0 cn3))
      have r224 : At (((w3.setCell ⟨w2.heap.size, 1, none⟩ (.slice An3 0 cn3)).setCell ⟨w.heap.size + 1, 0, none⟩ (.int .i64 p.mx)).setCell ⟨w.heap.size + 1, 1, none⟩ (.slice An3 0 cn3)) (w.heap.size + 1) 30 #[.int .i64 p.mx, .slice An3 0 cn3, .slice none 0 0, .slice none 0 0] := by simpa using r219.set 1 (.slice An3 0 cn3)
      clear hB215 x216 t217 o218 r219
      have hB225 := below_put hB220 (grown_set (((w3.setCell ⟨w2.heap.size, 1, none⟩ (.slice An3 0 cn3)).setCell ⟨w.heap.size + 1, 0, none⟩ (.int .i64 p.mx)).setCell ⟨w.heap.size + 1, 1, none⟩ (.slice An3 0 cn3)) (w.heap.size + 1) 2 (.slice B2 p.held.length d2)) (by omega) (by have := hB220.size; omega)
      have x226 := x221.past (grown_set (((w3.setCell ⟨w2.heap.size, 1, none⟩ (.slice An3 0 cn3)).setCell ⟨w.heap.size + 1, 0, none⟩ (.int .i64 p.mx)).setCell ⟨w.heap.size + 1, 1, none⟩ (.slice An3 0 cn3)) (w.heap.size + 1) 2 (.slice B2 p.held.length d2)) (by omega)
      have t227 := t222.past (grown_set (((w3.setCell ⟨w2.heap.size, 1, none⟩ (.slice An3 0 cn3)).setCell ⟨w.heap.size + 1, 0, none⟩ (.int .i64 p.mx)).setCell ⟨w.heap.size + 1, 1, none⟩ (.slice An3 0 cn3)) (w.heap.size + 1) 2 (.slice B2 p.held.length d2)) (by omega)
      have o228 := o223.past r224 (grown_set (((w3.setCell ⟨w2.heap.size, 1, none⟩ (.slice An3 0 cn3)).setCell ⟨w.heap.size + 1, 0, none⟩ (.int .i64 p.mx)).setCell ⟨w.heap.size + 1, 1, none⟩ (.slice An3 0 cn3)) (w.heap.size + 1) 2 (.slice B2 p.held.length d2))
      have r229 : At ((((w3.setCell ⟨w2.heap.size, 1, none⟩ (.slice An3 0 cn3)).setCell ⟨w.heap.size + 1, 0, none⟩ (.int .i64 p.mx)).setCell ⟨w.heap.size + 1, 1, none⟩ (.slice An3 0 cn3)).setCell ⟨w.heap.size + 1, 2, none⟩ (.slice B2 p.held.length d2)) (w.heap.size + 1) 30 #[.int .i64 p.mx, .slice An3 0 cn3, .slice B2 p.held.length d2, .slice none 0 0] := by simpa using r224.set 2 (.slice B2 p.held.length d2)
      clear hB220 x221 t222 o223 r224
      have hB230 := below_put hB225 (grown_set ((((w3.setCell ⟨w2.heap.size, 1, none⟩ (.slice An3 0 cn3)).setCell ⟨w.heap.size + 1, 0, none⟩ (.int .i64 p.mx)).setCell ⟨w.heap.size + 1, 1, none⟩ (.slice An3 0 cn3)).setCell ⟨w.heap.size + 1, 2, none⟩ (.slice B2 p.held.length d2)) (w.heap.size + 1) 3 (.slice B3 p.wait.length d3)) (by omega) (by have := hB225.size; omega)
      have x231 := x226.past (grown_set ((((w3.setCell ⟨w2.heap.size, 1, none⟩ (.slice An3 0 cn3)).setCell ⟨w.heap.size + 1, 0, none⟩ (.int .i64 p.mx)).setCell ⟨w.heap.size + 1, 1, none⟩ (.slice An3 0 cn3)).setCell ⟨w.heap.size + 1, 2, none⟩ (.slice B2 p.held.length d2)) (w.heap.size + 1) 3 (.slice B3 p.wait.length d3)) (by omega)
      have t232 := t227.past (grown_set ((((w3.setCell ⟨w2.heap.size, 1, none⟩ (.slice An3 0 cn3)).setCell ⟨w.heap.size + 1, 0, none⟩ (.int .i64 p.mx)).setCell ⟨w.heap.size + 1, 1, none⟩ (.slice An3 0 cn3)).setCell ⟨w.heap.size + 1, 2, none⟩ (.slice B2 p.held.length d2)) (w.heap.size + 1) 3 (.slice B3 p.wait.length d3)) (by omega)
      have o233 := o228.past r229 (grown_set ((((w3.setCell ⟨w2.heap.size, 1, none⟩ (.slice An3 0 cn3)).setCell ⟨w.heap.size + 1, 0, none⟩ (.int .i64 p.mx)).setCell ⟨w.heap.size + 1, 1, none⟩ (.slice An3 0 cn3)).setCell ⟨w.heap.size + 1, 2, none⟩ (.slice B2 p.held.length d2)) (w.heap.size + 1) 3 (.slice B3 p.wait.length d3))
      have r234 : At (((((w3.setCell ⟨w2.heap.size, 1, none⟩ (.slice An3 0 cn3)).setCell ⟨w.heap.size + 1, 0, none⟩ (.int .i64 p.mx)).setCell ⟨w.heap.size + 1, 1, none⟩ (.slice An3 0 cn3)).setCell ⟨w.heap.size + 1, 2, none⟩ (.slice B2 p.held.length d2)).setCell ⟨w.heap.size + 1, 3, none⟩ (.slice B3 p.wait.length d3)) (w.heap.size + 1) 30 #[.int .i64 p.mx, .slice An3 0 cn3, .slice B2 p.held.length d2, .slice B3 p.wait.length d3] := by simpa using r229.set 3 (.slice B3 p.wait.length d3)
      clear hB225 x226 t227 o228 r229
      go_wp2
      refine bodyPost_ret (v := .tuple #[.agg #[.int .i64 p.mx, .slice An3 0 cn3, .slice B2 p.held.length d2, .slice B3 p.wait.length d3], .int .i64 p.idle.length]) (by simp [results, Try.results88, go_sem, r234.cell]) rfl ?_
      rw [E2.out, E4.out, HD.out]
      exact ⟨An3, B2, B3, cn3, d2, d3, rfl, o233.mono (show w.heap.size ≤ w.heap.size + 2 by omega), hB230⟩
  · skip
    obtain rfl : o = (k : Int) := by omega
    clear k1 k3
    obtain ⟨L, hL⟩ : ∃ L, L = p.idle.drop k := ⟨_, rfl⟩
    rw [← hL] at HL E4
    have HLn := hid (show L.length ≤ 4194304 by rw [HL.out]; have := H1.out; omega)
    by_cases hck : c1 = k
    · skip
      exfalso
      omega
    · skip
      have hck2 : ¬ k = c1 := fun e => hck e.symm
      have HS := hid (fun (w1 : World) (hs : Sees w1 w1.heap.size A1 (ints p.idle)) => (show Sees w1 w1.heap.size (Option.map (fun x => x.add k) A1) (ints L) by rw [hL]; exact hs.slide k))
      clear hL
      have hB235 := Below.refl w.heap.size w
      have hB236 := hB235.alloc hB235.size (.cells #[.int .i64 p.mx, .slice A1 p.idle.length c1, .slice A2 p.held.length c2, .slice A3 p.wait.length c3] 30)
      clear hB235
      have x237 : At (w.alloc (.cells #[.int .i64 p.mx, .slice A1 p.idle.length c1, .slice A2 p.held.length c2, .slice A3 p.wait.length c3] 30)) (w.heap.size) 30 #[.int .i64 p.mx, .slice A1 p.idle.length c1, .slice A2 p.held.length c2, .slice A3 p.wait.length c3] := At.newAt _ _ (by first | rfl | (simp; done) | (simp; omega))
      have hB238 := hB236.alloc hB236.size (.cells #[.int .i64 0, .slice none 0 0, .slice none 0 0, .slice none 0 0] 30)
      have x239 := x237.alloc (.cells #[.int .i64 0, .slice none 0 0, .slice none 0 0, .slice none 0 0] 30)
      clear hB236 x237
      have r240 : At ((w.alloc (.cells #[.int .i64 p.mx, .slice A1 p.idle.length c1, .slice A2 p.held.length c2, .slice A3 p.wait.length c3] 30)).alloc (.cells #[.int .i64 0, .slice none 0 0, .slice none 0 0, .slice none 0 0] 30)) (w.heap.size + 1) 30 #[.int .i64 0, .slice none 0 0, .slice none 0 0, .slice none 0 0] := At.newAt _ _ (by first | rfl | (simp; done) | (simp; omega))
      go_enter Try.func88, Try.ntmps88
      obtain ⟨p0, p1, p2, p3, pl, pf⟩ := (⟨x239.cell 0, x239.cell 1, x239.cell 2, x239.cell 3, x239.lt, x239.frozen⟩ : _ ∧ _ ∧ _ ∧ _ ∧ _ ∧ _)
      obtain ⟨q0, q1, q2, q3, ql, qf⟩ := (⟨r240.cell 0, r240.cell 1, r240.cell 2, r240.cell 3, r240.lt, r240.frozen⟩ : _ ∧ _ ∧ _ ∧ _ ∧ _ ∧ _)
      go_wp2_with fail
      with_reducible refine (svalidPool_any p A1 A2 A3 c1 c2 c3 _ (h.on hB238) H1.out H2.out (Nat.le_trans H3.out (by decide))).mono ?_
      rintro e w1 ⟨he, hb1⟩
      rw [HK.out] at he
      subst he
      have sz1 : w.heap.size + 2 ≤ w1.heap.size := Nat.le_trans (by first | exact Nat.le_refl _ | (simp; done) | (simp; omega)) (hb1.size)
      have hB241 := hB238.trans (hb1.mono hB238.size)
      have x242 := x239.below hb1 x239.lt
      have r243 := r240.below hb1 r240.lt
      clear hB238 x239 r240
      clear p0 p1 p2 p3 pl pf q0 q1 q2 q3 ql qf
      obtain ⟨p0, p1, p2, p3, pl, pf⟩ := (⟨x242.cell 0, x242.cell 1, x242.cell 2, x242.cell 3, x242.lt, x242.frozen⟩ : _ ∧ _ ∧ _ ∧ _ ∧ _ ∧ _)
      obtain ⟨q0, q1, q2, q3, ql, qf⟩ := (⟨r243.cell 0, r243.cell 1, r243.cell 2, r243.cell 3, r243.lt, r243.frozen⟩ : _ ∧ _ ∧ _ ∧ _ ∧ _ ∧ _)
      go_wp2_with fail
      with_reducible refine (scopyPool_any p A1 A2 A3 c1 c2 c3 _ (h.on hB241) (Nat.le_trans H1.out (by decide)) (Nat.le_trans H2.out (by decide)) (Nat.le_trans H3.out (by decide))).mono ?_
      rintro e w2 ⟨B1, B2, B3, d1, d2, d3, rfl, ho, hb2⟩
      have sz2 : w1.heap.size ≤ w2.heap.size := Nat.le_trans (by first | exact Nat.le_refl _ | (simp; done) | (simp; omega)) (hb2.size)
      have hB244 := hB241.trans (hb2.mono hB241.size)
      have x245 := x242.below hb2 x242.lt
      have r246 := r243.below hb2 r243.lt
      clear hB241 x242 r243
      clear p0 p1 p2 p3 pl pf q0 q1 q2 q3 ql qf
      have o247 := ho.mono (show w.heap.size + 2 ≤ _ by omega)
      clear ho
      obtain ⟨p0, p1, p2, p3, pl, pf⟩ := (⟨x245.cell 0, x245.cell 1, x245.cell 2, x245.cell 3, x245.lt, x245.frozen⟩ : _ ∧ _ ∧ _ ∧ _ ∧ _ ∧ _)
      obtain ⟨q0, q1, q2, q3, ql, qf⟩ := (⟨r246.cell 0, r246.cell 1, r246.cell 2, r246.cell 3, r246.lt, r246.frozen⟩ : _ ∧ _ ∧ _ ∧ _ ∧ _ ∧ _)
      have hB248 := hB244.alloc hB244.size (.cells #[.int .i64 p.mx, .slice B1 p.idle.length d1, .slice B2 p.held.length d2, .slice B3 p.wait.length d3] 30)
      have x249 := x245.alloc (.cells #[.int .i64 p.mx, .slice B1 p.idle.length d1, .slice B2 p.held.length d2, .slice B3 p.wait.length d3] 30)
      have r250 := r246.alloc (.cells #[.int .i64 p.mx, .slice B1 p.idle.length d1, .slice B2 p.held.length d2, .slice B3 p.wait.length d3] 30)
      have o251 := o247.alloc (.cells #[.int .i64 p.mx, .slice B1 p.idle.length d1, .slice B2 p.held.length d2, .slice B3 p.wait.length d3] 30)
      clear hB244 x245 r246 o247
      have t252 : At (w2.alloc (.cells #[.int .i64 p.mx, .slice B1 p.idle.length d1, .slice B2 p.held.length d2, .slice B3 p.wait.length d3] 30)) (w2.heap.size) 30 #[.int .i64 p.mx, .slice B1 p.idle.length d1, .slice B2 p.held.length d2, .slice B3 p.wait.length d3] := At.newAt _ _ (by first | rfl | (simp; done) | (simp; omega))
      go_wp2_with fail
      with_reducible refine (copyInts_len HL.out (HS.out _ (h.on hB248).idle) HLn.out).mono ?_
      rintro e w3 ⟨v3, rfl, hn3, hb3⟩
      obtain ⟨An3, cn3, rfl, _⟩ := hn3.form
      have sz3 : w2.heap.size + 1 ≤ w3.heap.size := Nat.le_trans (by first | exact Nat.le_refl _ | (simp; done) | (simp; omega)) (hb3.size)
      have o253 := o251.newIdle (by first | omega | (simp; omega) | (simp; done)) hn3 hb3
      have hB254 := hB248.trans (hb3.mono hB248.size)
      have x255 := x249.below hb3 x249.lt
      have r256 := r250.below hb3 r250.lt
      have t257 := t252.below hb3 t252.lt
      clear hB248 x249 r250 t252
      clear p0 p1 p2 p3 pl pf q0 q1 q2 q3 ql qf
      clear o251 hn3
      obtain ⟨p0, p1, p2, p3, pl, pf⟩ := (⟨x255.cell 0, x255.cell 1, x255.cell 2, x255.cell 3, x255.lt, x255.frozen⟩ : _ ∧ _ ∧ _ ∧ _ ∧ _ ∧ _)
      obtain ⟨q0, q1, q2, q3, ql, qf⟩ := (⟨r256.cell 0, r256.cell 1, r256.cell 2, r256.cell 3, r256.lt, r256.frozen⟩ : _ ∧ _ ∧ _ ∧ _ ∧ _ ∧ _)
      obtain ⟨t0, t1, t2, t3, tl, tf⟩ := (⟨t257.cell 0, t257.cell 1, t257.cell 2, t257.cell 3, t257.lt, t257.frozen⟩ : _ ∧ _ ∧ _ ∧ _ ∧ _ ∧ _)
      have ne_pq : ¬ w.heap.size = w.heap.size + 1 := by omega
      have ne_qp : ¬ w.heap.size + 1 = w.heap.size := by omega
      have ne_pt : ¬ w.heap.size = w2.heap.size := by omega
      have ne_tp : ¬ w2.heap.size = w.heap.size := by omega
      have ne_qt : ¬ w.heap.size + 1 = w2.heap.size := by omega
      have ne_tq : ¬ w2.heap.size = w.heap.size + 1 := by omega
      have hB258 := below_put hB254 (grown_set w3 (w2.heap.size) 1 (.slice An3 L.length cn3)) (by omega) (by have := hB254.size; omega)
      have x259 := x255.past (grown_set w3 (w2.heap.size) 1 (.slice An3 L.length cn3)) (by omega)
      have r260 := r256.past (grown_set w3 (w2.heap.size) 1 (.slice An3 L.length cn3)) (by omega)
      have o261 := o253.past t257 (grown_set w3 (w2.heap.size) 1 (.slice An3 L.length cn3))
      have t262 : At (w3.setCell ⟨w2.heap.size, 1, none⟩ (.slice An3 L.length cn3)) (w2.heap.size) 30 #[.int .i64 p.mx, .slice An3 L.length cn3, .slice B2 p.held.length d2, .slice B3 p.wait.length d3] := by simpa using t257.set 1 (.slice An3 L.length cn3)
      clear hB254 x255 r256 o253 t257
      have hB263 := below_put hB258 (grown_set (w3.setCell ⟨w2.heap.size, 1, none⟩ (.slice An3 L.length cn3)) (w.heap.size + 1) 0 (.int .i64 p.mx)) (by omega) (by have := hB258.size; omega)
      have x264 := x259.past (grown_set (w3.setCell ⟨w2.heap.size, 1, none⟩ (.slice An3 L.length cn3)) (w.heap.size + 1) 0 (.int .i64 p.mx)) (by omega)
      have t265 := t262.past (grown_set (w3.setCell ⟨w2.heap.size, 1, none⟩ (.slice An3 L.length cn3)) (w.heap.size + 1) 0 (.int .i64 p.mx)) (by omega)
      have o266 := o261.past r260 (grown_set (w3.setCell ⟨w2.heap.size, 1, none⟩ (.slice An3 L.length cn3)) (w.heap.size + 1) 0 (.int .i64 p.mx))
      have r267 : At ((w3.setCell ⟨w2.heap.size, 1, none⟩ (.slice An3 L.length cn3)).setCell ⟨w.heap.size + 1, 0, none⟩ (.int .i64 p.mx)) (w.heap.size + 1) 30 #[.int .i64 p.mx, .slice none 0 0, .slice none 0 0, .slice none 0 0] := by simpa using r260.set 0 (.int .i64 p.mx)
      clear hB258 x259 t262 o261 r260
      have hB268 := below_put hB263 (grown_set ((w3.setCell ⟨w2.heap.size, 1, none⟩ (.slice An3 L.length cn3)).setCell ⟨w.heap.size + 1, 0, none⟩ (.int .i64 p.mx)) (w.heap.size + 1) 1 (.slice An3 L.length cn3)) (by omega) (by have := hB263.size; omega)
      have x269 := x264.past (grown_set ((w3.setCell ⟨w2.heap.size, 1, none⟩ (.slice An3 L.length cn3)).setCell ⟨w.heap.size + 1, 0, none⟩ (.int .i64 p.mx)) (w.heap.size + 1) 1 (.slice An3 L.length cn3)) (by omega)
      have t270 := t265.past (grown_set ((w3.setCell ⟨w2.heap.size, 1, none⟩ (.slice An3 L.length cn3)).setCell ⟨w.heap.size + 1, 0, none⟩ (.int .i64 p.mx)) (w.heap.size + 1) 1 (.slice An3 L.length cn3)) (by omega)
      have o271 := o266.past r267 (grown_set ((w3.setCell ⟨w2.heap.size, 1, none⟩ (.slice An3 L.length cn3)).setCell ⟨w.heap.size + 1, 0, none⟩ (.int .i64 p.mx)) (w.heap.size + 1) 1 (.slice An3 L.length cn3))
      have r272 : At (((w3.setCell ⟨w2.heap.size, 1, none⟩ (.slice An3 L.length cn3)).setCell ⟨w.heap.size + 1, 0, none⟩ (.int .i64 p.mx)).setCell ⟨w.heap.size + 1, 1, none⟩ (.slice An3 L.length cn3)) (w.heap.size + 1) 30 #[.int .i64 p.mx, .slice An3 L.length cn3, .slice none 0 0, .slice none 0 0] := by simpa using r267.set 1 (.slice An3 L.length cn3)
      clear hB263 x264 t265 o266 r267
      have hB273 := below_put hB268 (grown_set (((w3.setCell ⟨w2.heap.size, 1, none⟩ (.slice An3 L.length cn3)).setCell ⟨w.heap.size + 1, 0, none⟩ (.int .i64 p.mx)).setCell ⟨w.heap.size + 1, 1, none⟩ (.slice An3 L.length cn3)) (w.heap.size + 1) 2 (.slice B2 p.held.length d2)) (by omega) (by have := hB268.size; omega)
      have x274 := x269.past (grown_set (((w3.setCell ⟨w2.heap.size, 1, none⟩ (.slice An3 L.length cn3)).setCell ⟨w.heap.size + 1, 0, none⟩ (.int .i64 p.mx)).setCell ⟨w.heap.size + 1, 1, none⟩ (.slice An3 L.length cn3)) (w.heap.size + 1) 2 (.slice B2 p.held.length d2)) (by omega)
      have t275 := t270.past (grown_set (((w3.setCell ⟨w2.heap.size, 1, none⟩ (.slice An3 L.length cn3)).setCell ⟨w.heap.size + 1, 0, none⟩ (.int .i64 p.mx)).setCell ⟨w.heap.size + 1, 1, none⟩ (.slice An3 L.length cn3)) (w.heap.size + 1) 2 (.slice B2 p.held.length d2)) (by omega)
      have o276 := o271.past r272 (grown_set (((w3.setCell ⟨w2.heap.size, 1, none⟩ (.slice An3 L.length cn3)).setCell ⟨w.heap.size + 1, 0, none⟩ (.int .i64 p.mx)).setCell ⟨w.heap.size + 1, 1, none⟩ (.slice An3 L.length cn3)) (w.heap.size + 1) 2 (.slice B2 p.held.length d2))
      have r277 : At ((((w3.setCell ⟨w2.heap.size, 1, none⟩ (.slice An3 L.length cn3)).setCell ⟨w.heap.size + 1, 0, none⟩ (.int .i64 p.mx)).setCell ⟨w.heap.size + 1, 1, none⟩ (.slice An3 L.length cn3)).setCell ⟨w.heap.size + 1, 2, none⟩ (.slice B2 p.held.length d2)) (w.heap.size + 1) 30 #[.int .i64 p.mx, .slice An3 L.length cn3, .slice B2 p.held.length d2, .slice none 0 0] := by simpa using r272.set 2 (.slice B2 p.held.length d2)
      clear hB268 x269 t270 o271 r272
      have hB278 := below_put hB273 (grown_set ((((w3.setCell ⟨w2.heap.size, 1, none⟩ (.slice An3 L.length cn3)).setCell ⟨w.heap.size + 1, 0, none⟩ (.int .i64 p.mx)).setCell ⟨w.heap.size + 1, 1, none⟩ (.slice An3 L.length cn3)).setCell ⟨w.heap.size + 1, 2, none⟩ (.slice B2 p.held.length d2)) (w.heap.size + 1) 3 (.slice B3 p.wait.length d3)) (by omega) (by have := hB273.size; omega)
      have x279 := x274.past (grown_set ((((w3.setCell ⟨w2.heap.size, 1, none⟩ (.slice An3 L.length cn3)).setCell ⟨w.heap.size + 1, 0, none⟩ (.int .i64 p.mx)).setCell ⟨w.heap.size + 1, 1, none⟩ (.slice An3 L.length cn3)).setCell ⟨w.heap.size + 1, 2, none⟩ (.slice B2 p.held.length d2)) (w.heap.size + 1) 3 (.slice B3 p.wait.length d3)) (by omega)
      have t280 := t275.past (grown_set ((((w3.setCell ⟨w2.heap.size, 1, none⟩ (.slice An3 L.length cn3)).setCell ⟨w.heap.size + 1, 0, none⟩ (.int .i64 p.mx)).setCell ⟨w.heap.size + 1, 1, none⟩ (.slice An3 L.length cn3)).setCell ⟨w.heap.size + 1, 2, none⟩ (.slice B2 p.held.length d2)) (w.heap.size + 1) 3 (.slice B3 p.wait.length d3)) (by omega)
      have o281 := o276.past r277 (grown_set ((((w3.setCell ⟨w2.heap.size, 1, none⟩ (.slice An3 L.length cn3)).setCell ⟨w.heap.size + 1, 0, none⟩ (.int .i64 p.mx)).setCell ⟨w.heap.size + 1, 1, none⟩ (.slice An3 L.length cn3)).setCell ⟨w.heap.size + 1, 2, none⟩ (.slice B2 p.held.length d2)) (w.heap.size + 1) 3 (.slice B3 p.wait.length d3))
      have r282 : At (((((w3.setCell ⟨w2.heap.size, 1, none⟩ (.slice An3 L.length cn3)).setCell ⟨w.heap.size + 1, 0, none⟩ (.int .i64 p.mx)).setCell ⟨w.heap.size + 1, 1, none⟩ (.slice An3 L.length cn3)).setCell ⟨w.heap.size + 1, 2, none⟩ (.slice B2 p.held.length d2)).setCell ⟨w.heap.size + 1, 3, none⟩ (.slice B3 p.wait.length d3)) (w.heap.size + 1) 30 #[.int .i64 p.mx, .slice An3 L.length cn3, .slice B2 p.held.length d2, .slice B3 p.wait.length d3] := by simpa using r277.set 3 (.slice B3 p.wait.length d3)
      clear hB273 x274 t275 o276 r277
      go_wp2
      refine bodyPost_ret (v := .tuple #[.agg #[.int .i64 p.mx, .slice An3 L.length cn3, .slice B2 p.held.length d2, .slice B3 p.wait.length d3], .int .i64 k]) (by simp [results, Try.results88, go_sem, r282.cell]) rfl ?_
      rw [E2.out, E4.out]
      exact ⟨An3, B2, B3, cn3, d2, d3, rfl, o281.mono (show w.heap.size ≤ w.heap.size + 2 by omega), hB278⟩

end Go.Proofs.Ytehdbllpiokbnaa

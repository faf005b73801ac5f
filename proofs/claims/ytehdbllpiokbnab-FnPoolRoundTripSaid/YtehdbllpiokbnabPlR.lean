/-
  What the model's AcquireConn and CloseIdle answer. Condition: the lists lie in memory.
-/
import Derived.Test.YtehdbllpiokbnabPlQ
import Derived.Test.YtehdbllpiokbnabPlS0

namespace Go.Proofs.Ytehdbllpiokbnab
open Go.RowKit Pol

theorem acqP_len (p : Pl) (o : Int) : (acqP p o).idle.length ≤ p.idle.length ∧ (acqP p o).held.length ≤ p.held.length + 1 ∧ (acqP p o).wait.length ≤ p.wait.length + 1 := by
  unfold acqP
  split <;> simp
set_option maxHeartbeats 4000000 in
theorem sAcquireConn_any (p : Pl) (A1 A2 A3 : Option Addr) (c1 c2 c3 : Nat) (o : Int) (w : World) (h : SeesP w w.heap.size A1 A2 A3 p) (hcap : p.idle.length ≤ c1) (h1 : p.idle.length ≤ 2097152) (h2 : p.held.length ≤ 2097152) (h3 : p.wait.length ≤ 2097152) :
    Calls Try.prog 59 #[.agg #[.int .i64 p.mx, .slice A1 p.idle.length c1, .slice A2 p.held.length c2, .slice A3 p.wait.length c3], .int .i64 o] w (PAns3 (acqR p o) (acqN p o) (acqB p o) w) := by
  obtain ⟨i0, hi0, hz0, hz1, hz2⟩ := info_parts intInfo
  obtain ⟨ih0, hih0, hzh0, hzh1, hzh2⟩ := info_parts holdInfo
  have H1 := hid h1
  have H2 := hid h2
  have H3 := hid h3
  clear h1 h2 h3
  rcases hk : okB p with _ | _
  · skip
    have EB := hid (show acqB p o = false from Bool.eq_false_iff.2 fun e => by have := okB_iff.2 (acqB_iff.1 e).1; rw [this] at hk; cases hk)
    have HK := hid hk
    clear hk
    have hB1 := Below.refl w.heap.size w
    have hB2 := hB1.alloc hB1.size (.cells #[.int .i64 p.mx, .slice A1 p.idle.length c1, .slice A2 p.held.length c2, .slice A3 p.wait.length c3] 26)
    clear hB1
    have x3 : At (w.alloc (.cells #[.int .i64 p.mx, .slice A1 p.idle.length c1, .slice A2 p.held.length c2, .slice A3 p.wait.length c3] 26)) (w.heap.size) 26 #[.int .i64 p.mx, .slice A1 p.idle.length c1, .slice A2 p.held.length c2, .slice A3 p.wait.length c3] := At.newAt _ _ (by first | rfl | (simp; done) | (simp; omega))
    have hB4 := hB2.alloc hB2.size (.cells #[.int .i64 0, .slice none 0 0, .slice none 0 0, .slice none 0 0] 26)
    have x5 := x3.alloc (.cells #[.int .i64 0, .slice none 0 0, .slice none 0 0, .slice none 0 0] 26)
    clear hB2 x3
    have r6 : At ((w.alloc (.cells #[.int .i64 p.mx, .slice A1 p.idle.length c1, .slice A2 p.held.length c2, .slice A3 p.wait.length c3] 26)).alloc (.cells #[.int .i64 0, .slice none 0 0, .slice none 0 0, .slice none 0 0] 26)) (w.heap.size + 1) 26 #[.int .i64 0, .slice none 0 0, .slice none 0 0, .slice none 0 0] := At.newAt _ _ (by first | rfl | (simp; done) | (simp; omega))
    go_enter Try.func59, Try.ntmps59
    obtain ⟨p0, p1, p2, p3, pl, pf⟩ := (⟨x5.cell 0, x5.cell 1, x5.cell 2, x5.cell 3, x5.lt, x5.frozen⟩ : _ ∧ _ ∧ _ ∧ _ ∧ _ ∧ _)
    obtain ⟨q0, q1, q2, q3, ql, qf⟩ := (⟨r6.cell 0, r6.cell 1, r6.cell 2, r6.cell 3, r6.lt, r6.frozen⟩ : _ ∧ _ ∧ _ ∧ _ ∧ _ ∧ _)
    go_wp2_with fail
    with_reducible refine (svalidPool_any p A1 A2 A3 c1 c2 c3 _ (h.on hB4) H1.out H2.out (Nat.le_trans H3.out (by decide))).mono ?_
    rintro e w1 ⟨he, hb1⟩
    rw [HK.out] at he
    subst he
    have sz1 : w.heap.size + 2 ≤ w1.heap.size := Nat.le_trans (by first | exact Nat.le_refl _ | (simp; done) | (simp; omega)) (hb1.size)
    have hB7 := hB4.trans (hb1.mono hB4.size)
    have x8 := x5.below hb1 x5.lt
    have r9 := r6.below hb1 r6.lt
    clear hB4 x5 r6
    clear p0 p1 p2 p3 pl pf q0 q1 q2 q3 ql qf
    obtain ⟨p0, p1, p2, p3, pl, pf⟩ := (⟨x8.cell 0, x8.cell 1, x8.cell 2, x8.cell 3, x8.lt, x8.frozen⟩ : _ ∧ _ ∧ _ ∧ _ ∧ _ ∧ _)
    obtain ⟨q0, q1, q2, q3, ql, qf⟩ := (⟨r9.cell 0, r9.cell 1, r9.cell 2, r9.cell 3, r9.lt, r9.frozen⟩ : _ ∧ _ ∧ _ ∧ _ ∧ _ ∧ _)
    have hB10 := below_put hB7 (grown_set w1 (w.heap.size + 1) 0 (.int .i64 0)) (by omega) (by have := hB7.size; omega)
    have x11 := x8.past (grown_set w1 (w.heap.size + 1) 0 (.int .i64 0)) (by omega)
    have r12 : At (w1.setCell ⟨w.heap.size + 1, 0, none⟩ (.int .i64 0)) (w.heap.size + 1) 26 #[.int .i64 0, .slice none 0 0, .slice none 0 0, .slice none 0 0] := by simpa using r9.set 0 (.int .i64 0)
    clear hB7 x8 r9
    have hB13 := below_put hB10 (grown_set (w1.setCell ⟨w.heap.size + 1, 0, none⟩ (.int .i64 0)) (w.heap.size + 1) 1 (.slice none 0 0)) (by omega) (by have := hB10.size; omega)
    have x14 := x11.past (grown_set (w1.setCell ⟨w.heap.size + 1, 0, none⟩ (.int .i64 0)) (w.heap.size + 1) 1 (.slice none 0 0)) (by omega)
    have r15 : At ((w1.setCell ⟨w.heap.size + 1, 0, none⟩ (.int .i64 0)).setCell ⟨w.heap.size + 1, 1, none⟩ (.slice none 0 0)) (w.heap.size + 1) 26 #[.int .i64 0, .slice none 0 0, .slice none 0 0, .slice none 0 0] := by simpa using r12.set 1 (.slice none 0 0)
    clear hB10 x11 r12
    have hB16 := below_put hB13 (grown_set ((w1.setCell ⟨w.heap.size + 1, 0, none⟩ (.int .i64 0)).setCell ⟨w.heap.size + 1, 1, none⟩ (.slice none 0 0)) (w.heap.size + 1) 2 (.slice none 0 0)) (by omega) (by have := hB13.size; omega)
    have x17 := x14.past (grown_set ((w1.setCell ⟨w.heap.size + 1, 0, none⟩ (.int .i64 0)).setCell ⟨w.heap.size + 1, 1, none⟩ (.slice none 0 0)) (w.heap.size + 1) 2 (.slice none 0 0)) (by omega)
    have r18 : At (((w1.setCell ⟨w.heap.size + 1, 0, none⟩ (.int .i64 0)).setCell ⟨w.heap.size + 1, 1, none⟩ (.slice none 0 0)).setCell ⟨w.heap.size + 1, 2, none⟩ (.slice none 0 0)) (w.heap.size + 1) 26 #[.int .i64 0, .slice none 0 0, .slice none 0 0, .slice none 0 0] := by simpa using r15.set 2 (.slice none 0 0)
    clear hB13 x14 r15
    have hB19 := below_put hB16 (grown_set (((w1.setCell ⟨w.heap.size + 1, 0, none⟩ (.int .i64 0)).setCell ⟨w.heap.size + 1, 1, none⟩ (.slice none 0 0)).setCell ⟨w.heap.size + 1, 2, none⟩ (.slice none 0 0)) (w.heap.size + 1) 3 (.slice none 0 0)) (by omega) (by have := hB16.size; omega)
    have x20 := x17.past (grown_set (((w1.setCell ⟨w.heap.size + 1, 0, none⟩ (.int .i64 0)).setCell ⟨w.heap.size + 1, 1, none⟩ (.slice none 0 0)).setCell ⟨w.heap.size + 1, 2, none⟩ (.slice none 0 0)) (w.heap.size + 1) 3 (.slice none 0 0)) (by omega)
    have r21 : At ((((w1.setCell ⟨w.heap.size + 1, 0, none⟩ (.int .i64 0)).setCell ⟨w.heap.size + 1, 1, none⟩ (.slice none 0 0)).setCell ⟨w.heap.size + 1, 2, none⟩ (.slice none 0 0)).setCell ⟨w.heap.size + 1, 3, none⟩ (.slice none 0 0)) (w.heap.size + 1) 26 #[.int .i64 0, .slice none 0 0, .slice none 0 0, .slice none 0 0] := by simpa using r18.set 3 (.slice none 0 0)
    clear hB16 x17 r18
    go_wp2
    refine bodyPost_ret (v := .tuple #[.agg #[.int .i64 0, .slice none 0 0, .slice none 0 0, .slice none 0 0], .int .i64 (-1), .bool false]) (by simp [results, Try.results59, go_sem, r21.cell]) rfl ?_
    exact (by rw [(acq_no EB.out).1, (acq_no EB.out).2, EB.out]; exact pans3_zero hB19)
  have hok := okB_iff.1 hk
  have HK := hid hk
  clear hk
  rcases hr : inB o 0 4 with _ | _
  · skip
    have EB := hid (show acqB p o = false from Bool.eq_false_iff.2 fun e => by have := (acqB_iff.1 e).2.1; rw [inB_iff.2 ⟨this.1, by omega⟩] at hr; cases hr)
    have HR := hid hr
    clear hr hok
    have hB22 := Below.refl w.heap.size w
    have hB23 := hB22.alloc hB22.size (.cells #[.int .i64 p.mx, .slice A1 p.idle.length c1, .slice A2 p.held.length c2, .slice A3 p.wait.length c3] 26)
    clear hB22
    have x24 : At (w.alloc (.cells #[.int .i64 p.mx, .slice A1 p.idle.length c1, .slice A2 p.held.length c2, .slice A3 p.wait.length c3] 26)) (w.heap.size) 26 #[.int .i64 p.mx, .slice A1 p.idle.length c1, .slice A2 p.held.length c2, .slice A3 p.wait.length c3] := At.newAt _ _ (by first | rfl | (simp; done) | (simp; omega))
    have hB25 := hB23.alloc hB23.size (.cells #[.int .i64 0, .slice none 0 0, .slice none 0 0, .slice none 0 0] 26)
    have x26 := x24.alloc (.cells #[.int .i64 0, .slice none 0 0, .slice none 0 0, .slice none 0 0] 26)
    clear hB23 x24
    have r27 : At ((w.alloc (.cells #[.int .i64 p.mx, .slice A1 p.idle.length c1, .slice A2 p.held.length c2, .slice A3 p.wait.length c3] 26)).alloc (.cells #[.int .i64 0, .slice none 0 0, .slice none 0 0, .slice none 0 0] 26)) (w.heap.size + 1) 26 #[.int .i64 0, .slice none 0 0, .slice none 0 0, .slice none 0 0] := At.newAt _ _ (by first | rfl | (simp; done) | (simp; omega))
    go_enter Try.func59, Try.ntmps59
    obtain ⟨p0, p1, p2, p3, pl, pf⟩ := (⟨x26.cell 0, x26.cell 1, x26.cell 2, x26.cell 3, x26.lt, x26.frozen⟩ : _ ∧ _ ∧ _ ∧ _ ∧ _ ∧ _)
    obtain ⟨q0, q1, q2, q3, ql, qf⟩ := (⟨r27.cell 0, r27.cell 1, r27.cell 2, r27.cell 3, r27.lt, r27.frozen⟩ : _ ∧ _ ∧ _ ∧ _ ∧ _ ∧ _)
    go_wp2_with fail
    with_reducible refine (svalidPool_any p A1 A2 A3 c1 c2 c3 _ (h.on hB25) H1.out H2.out (Nat.le_trans H3.out (by decide))).mono ?_
    rintro e w1 ⟨he, hb1⟩
    rw [HK.out] at he
    subst he
    have sz1 : w.heap.size + 2 ≤ w1.heap.size := Nat.le_trans (by first | exact Nat.le_refl _ | (simp; done) | (simp; omega)) (hb1.size)
    have hB28 := hB25.trans (hb1.mono hB25.size)
    have x29 := x26.below hb1 x26.lt
    have r30 := r27.below hb1 r27.lt
    clear hB25 x26 r27
    clear p0 p1 p2 p3 pl pf q0 q1 q2 q3 ql qf
    obtain ⟨p0, p1, p2, p3, pl, pf⟩ := (⟨x29.cell 0, x29.cell 1, x29.cell 2, x29.cell 3, x29.lt, x29.frozen⟩ : _ ∧ _ ∧ _ ∧ _ ∧ _ ∧ _)
    obtain ⟨q0, q1, q2, q3, ql, qf⟩ := (⟨r30.cell 0, r30.cell 1, r30.cell 2, r30.cell 3, r30.lt, r30.frozen⟩ : _ ∧ _ ∧ _ ∧ _ ∧ _ ∧ _)
    go_wp2_with fail
    with_reducible refine (inRange_any o 0 4 _).mono ?_
    rintro e w' ⟨he, rfl⟩
    rw [HR.out] at he
    subst he
    clear p0 p1 p2 p3 pl pf q0 q1 q2 q3 ql qf
    obtain ⟨p0, p1, p2, p3, pl, pf⟩ := (⟨x29.cell 0, x29.cell 1, x29.cell 2, x29.cell 3, x29.lt, x29.frozen⟩ : _ ∧ _ ∧ _ ∧ _ ∧ _ ∧ _)
    obtain ⟨q0, q1, q2, q3, ql, qf⟩ := (⟨r30.cell 0, r30.cell 1, r30.cell 2, r30.cell 3, r30.lt, r30.frozen⟩ : _ ∧ _ ∧ _ ∧ _ ∧ _ ∧ _)
    have hB31 := below_put hB28 (grown_set w1 (w.heap.size + 1) 0 (.int .i64 0)) (by omega) (by have := hB28.size; omega)
    have x32 := x29.past (grown_set w1 (w.heap.size + 1) 0 (.int .i64 0)) (by omega)
    have r33 : At (w1.setCell ⟨w.heap.size + 1, 0, none⟩ (.int .i64 0)) (w.heap.size + 1) 26 #[.int .i64 0, .slice none 0 0, .slice none 0 0, .slice none 0 0] := by simpa using r30.set 0 (.int .i64 0)
    clear hB28 x29 r30
    have hB34 := below_put hB31 (grown_set (w1.setCell ⟨w.heap.size + 1, 0, none⟩ (.int .i64 0)) (w.heap.size + 1) 1 (.slice none 0 0)) (by omega) (by have := hB31.size; omega)
    have x35 := x32.past (grown_set (w1.setCell ⟨w.heap.size + 1, 0, none⟩ (.int .i64 0)) (w.heap.size + 1) 1 (.slice none 0 0)) (by omega)
    have r36 : At ((w1.setCell ⟨w.heap.size + 1, 0, none⟩ (.int .i64 0)).setCell ⟨w.heap.size + 1, 1, none⟩ (.slice none 0 0)) (w.heap.size + 1) 26 #[.int .i64 0, .slice none 0 0, .slice none 0 0, .slice none 0 0] := by simpa using r33.set 1 (.slice none 0 0)
    clear hB31 x32 r33
    have hB37 := below_put hB34 (grown_set ((w1.setCell ⟨w.heap.size + 1, 0, none⟩ (.int .i64 0)).setCell ⟨w.heap.size + 1, 1, none⟩ (.slice none 0 0)) (w.heap.size + 1) 2 (.slice none 0 0)) (by omega) (by have := hB34.size; omega)
    have x38 := x35.past (grown_set ((w1.setCell ⟨w.heap.size + 1, 0, none⟩ (.int .i64 0)).setCell ⟨w.heap.size + 1, 1, none⟩ (.slice none 0 0)) (w.heap.size + 1) 2 (.slice none 0 0)) (by omega)
    have r39 : At (((w1.setCell ⟨w.heap.size + 1, 0, none⟩ (.int .i64 0)).setCell ⟨w.heap.size + 1, 1, none⟩ (.slice none 0 0)).setCell ⟨w.heap.size + 1, 2, none⟩ (.slice none 0 0)) (w.heap.size + 1) 26 #[.int .i64 0, .slice none 0 0, .slice none 0 0, .slice none 0 0] := by simpa using r36.set 2 (.slice none 0 0)
    clear hB34 x35 r36
    have hB40 := below_put hB37 (grown_set (((w1.setCell ⟨w.heap.size + 1, 0, none⟩ (.int .i64 0)).setCell ⟨w.heap.size + 1, 1, none⟩ (.slice none 0 0)).setCell ⟨w.heap.size + 1, 2, none⟩ (.slice none 0 0)) (w.heap.size + 1) 3 (.slice none 0 0)) (by omega) (by have := hB37.size; omega)
    have x41 := x38.past (grown_set (((w1.setCell ⟨w.heap.size + 1, 0, none⟩ (.int .i64 0)).setCell ⟨w.heap.size + 1, 1, none⟩ (.slice none 0 0)).setCell ⟨w.heap.size + 1, 2, none⟩ (.slice none 0 0)) (w.heap.size + 1) 3 (.slice none 0 0)) (by omega)
    have r42 : At ((((w1.setCell ⟨w.heap.size + 1, 0, none⟩ (.int .i64 0)).setCell ⟨w.heap.size + 1, 1, none⟩ (.slice none 0 0)).setCell ⟨w.heap.size + 1, 2, none⟩ (.slice none 0 0)).setCell ⟨w.heap.size + 1, 3, none⟩ (.slice none 0 0)) (w.heap.size + 1) 26 #[.int .i64 0, .slice none 0 0, .slice none 0 0, .slice none 0 0] := by simpa using r39.set 3 (.slice none 0 0)
    clear hB37 x38 r39
    go_wp2
    refine bodyPost_ret (v := .tuple #[.agg #[.int .i64 0, .slice none 0 0, .slice none 0 0, .slice none 0 0], .int .i64 (-1), .bool false]) (by simp [results, Try.results59, go_sem, r42.cell]) rfl ?_
    exact (by rw [(acq_no EB.out).1, (acq_no EB.out).2, EB.out]; exact pans3_zero hB40)
  have hin := inB_iff.1 hr
  have HR := hid hr
  clear hr
  have hacq := acq_ok (o := o) hok hin.1 (by omega)
  obtain ⟨l1, l2, l3⟩ := acqP_len p o
  rcases hv : okB (acqP p o) with _ | _
  · skip
    have EB := hid (show acqB p o = false from Bool.eq_false_iff.2 fun e => by have := okB_iff.2 (hacq.2 (acqB_iff.1 e).2.2); rw [this] at hv; cases hv)
    clear hacq
    obtain ⟨R, hR⟩ : ∃ R, R = acqP p o := ⟨_, rfl⟩
    rw [← hR] at hv l1 l2 l3
    have HRR := hid hR.symm
    clear hR
    obtain ⟨C, hC⟩ : ∃ C, C = acqC p := ⟨_, rfl⟩
    have HN := hid hC.symm
    clear hC
    have HV := hid hv
    clear hv
    replace l1 : R.idle.length ≤ 2097152 := Nat.le_trans l1 H1.out
    have hsm := hok.small
    replace l2 : R.held.length ≤ 2097152 := by omega
    replace l3 : R.wait.length ≤ 4194304 := by omega
    clear hsm
    have hB43 := Below.refl w.heap.size w
    have hB44 := hB43.alloc hB43.size (.cells #[.int .i64 p.mx, .slice A1 p.idle.length c1, .slice A2 p.held.length c2, .slice A3 p.wait.length c3] 26)
    clear hB43
    have x45 : At (w.alloc (.cells #[.int .i64 p.mx, .slice A1 p.idle.length c1, .slice A2 p.held.length c2, .slice A3 p.wait.length c3] 26)) (w.heap.size) 26 #[.int .i64 p.mx, .slice A1 p.idle.length c1, .slice A2 p.held.length c2, .slice A3 p.wait.length c3] := At.newAt _ _ (by first | rfl | (simp; done) | (simp; omega))
    have hB46 := hB44.alloc hB44.size (.cells #[.int .i64 0, .slice none 0 0, .slice none 0 0, .slice none 0 0] 26)
    have x47 := x45.alloc (.cells #[.int .i64 0, .slice none 0 0, .slice none 0 0, .slice none 0 0] 26)
    clear hB44 x45
    have r48 : At ((w.alloc (.cells #[.int .i64 p.mx, .slice A1 p.idle.length c1, .slice A2 p.held.length c2, .slice A3 p.wait.length c3] 26)).alloc (.cells #[.int .i64 0, .slice none 0 0, .slice none 0 0, .slice none 0 0] 26)) (w.heap.size + 1) 26 #[.int .i64 0, .slice none 0 0, .slice none 0 0, .slice none 0 0] := At.newAt _ _ (by first | rfl | (simp; done) | (simp; omega))
    go_enter Try.func59, Try.ntmps59
    obtain ⟨p0, p1, p2, p3, pl, pf⟩ := (⟨x47.cell 0, x47.cell 1, x47.cell 2, x47.cell 3, x47.lt, x47.frozen⟩ : _ ∧ _ ∧ _ ∧ _ ∧ _ ∧ _)
    obtain ⟨q0, q1, q2, q3, ql, qf⟩ := (⟨r48.cell 0, r48.cell 1, r48.cell 2, r48.cell 3, r48.lt, r48.frozen⟩ : _ ∧ _ ∧ _ ∧ _ ∧ _ ∧ _)
    go_wp2_with fail
    with_reducible refine (svalidPool_any p A1 A2 A3 c1 c2 c3 _ (h.on hB46) H1.out H2.out (Nat.le_trans H3.out (by decide))).mono ?_
    rintro e w1 ⟨he, hb1⟩
    rw [HK.out] at he
    subst he
    have sz1 : w.heap.size + 2 ≤ w1.heap.size := Nat.le_trans (by first | exact Nat.le_refl _ | (simp; done) | (simp; omega)) (hb1.size)
    have hB49 := hB46.trans (hb1.mono hB46.size)
    have x50 := x47.below hb1 x47.lt
    have r51 := r48.below hb1 r48.lt
    clear hB46 x47 r48
    clear p0 p1 p2 p3 pl pf q0 q1 q2 q3 ql qf
    obtain ⟨p0, p1, p2, p3, pl, pf⟩ := (⟨x50.cell 0, x50.cell 1, x50.cell 2, x50.cell 3, x50.lt, x50.frozen⟩ : _ ∧ _ ∧ _ ∧ _ ∧ _ ∧ _)
    obtain ⟨q0, q1, q2, q3, ql, qf⟩ := (⟨r51.cell 0, r51.cell 1, r51.cell 2, r51.cell 3, r51.lt, r51.frozen⟩ : _ ∧ _ ∧ _ ∧ _ ∧ _ ∧ _)
    go_wp2_with fail
    with_reducible refine (inRange_any o 0 4 _).mono ?_
    rintro e w' ⟨he, rfl⟩
    rw [HR.out] at he
    subst he
    clear p0 p1 p2 p3 pl pf q0 q1 q2 q3 ql qf
    obtain ⟨p0, p1, p2, p3, pl, pf⟩ := (⟨x50.cell 0, x50.cell 1, x50.cell 2, x50.cell 3, x50.lt, x50.frozen⟩ : _ ∧ _ ∧ _ ∧ _ ∧ _ ∧ _)
    obtain ⟨q0, q1, q2, q3, ql, qf⟩ := (⟨r51.cell 0, r51.cell 1, r51.cell 2, r51.cell 3, r51.lt, r51.frozen⟩ : _ ∧ _ ∧ _ ∧ _ ∧ _ ∧ _)
    go_wp2_with fail
    with_reducible refine (sacquire_any p A1 A2 A3 c1 c2 c3 o _ (h.on hB49) hok hcap H1.out H2.out H3.out).mono ?_
    rintro e w2 ⟨B1, B2, B3, d1, d2, d3, he, ho, hb2⟩
    rw [HN.out] at he
    rw [HRR.out] at he ho
    subst he
    have sz2 : w1.heap.size ≤ w2.heap.size := Nat.le_trans (by first | exact Nat.le_refl _ | (simp; done) | (simp; omega)) (hb2.size)
    have hB52 := hB49.trans (hb2.mono hB49.size)
    have x53 := x50.below hb2 x50.lt
    have r54 := r51.below hb2 r51.lt
    clear hB49 x50 r51
    clear p0 p1 p2 p3 pl pf q0 q1 q2 q3 ql qf
    have o55 := ho.mono (show w.heap.size + 2 ≤ _ by omega)
    clear ho
    obtain ⟨p0, p1, p2, p3, pl, pf⟩ := (⟨x53.cell 0, x53.cell 1, x53.cell 2, x53.cell 3, x53.lt, x53.frozen⟩ : _ ∧ _ ∧ _ ∧ _ ∧ _ ∧ _)
    obtain ⟨q0, q1, q2, q3, ql, qf⟩ := (⟨r54.cell 0, r54.cell 1, r54.cell 2, r54.cell 3, r54.lt, r54.frozen⟩ : _ ∧ _ ∧ _ ∧ _ ∧ _ ∧ _)
    have hB56 := hB52.alloc hB52.size (.cells #[.int .i64 R.mx, .slice B1 R.idle.length d1, .slice B2 R.held.length d2, .slice B3 R.wait.length d3] 26)
    have x57 := x53.alloc (.cells #[.int .i64 R.mx, .slice B1 R.idle.length d1, .slice B2 R.held.length d2, .slice B3 R.wait.length d3] 26)
    have r58 := r54.alloc (.cells #[.int .i64 R.mx, .slice B1 R.idle.length d1, .slice B2 R.held.length d2, .slice B3 R.wait.length d3] 26)
    have o59 := o55.alloc (.cells #[.int .i64 R.mx, .slice B1 R.idle.length d1, .slice B2 R.held.length d2, .slice B3 R.wait.length d3] 26)
    clear hB52 x53 r54 o55
    have t60 : At (w2.alloc (.cells #[.int .i64 R.mx, .slice B1 R.idle.length d1, .slice B2 R.held.length d2, .slice B3 R.wait.length d3] 26)) (w2.heap.size) 26 #[.int .i64 R.mx, .slice B1 R.idle.length d1, .slice B2 R.held.length d2, .slice B3 R.wait.length d3] := At.newAt _ _ (by first | rfl | (simp; done) | (simp; omega))
    go_wp2_with fail
    with_reducible refine (svalidPool_any R B1 B2 B3 d1 d2 d3 _ o59.sees l1 l2 l3).mono ?_
    rintro e w3 ⟨he, hb3⟩
    rw [HV.out] at he
    subst he
    have sz3 : w2.heap.size + 1 ≤ w3.heap.size := Nat.le_trans (by first | exact Nat.le_refl _ | (simp; done) | (simp; omega)) (hb3.size)
    have hB61 := hB56.trans (hb3.mono hB56.size)
    have x62 := x57.below hb3 x57.lt
    have r63 := r58.below hb3 r58.lt
    have o64 := o59.below hb3
    have t65 := t60.below hb3 t60.lt
    clear hB56 x57 r58 o59 t60
    clear p0 p1 p2 p3 pl pf q0 q1 q2 q3 ql qf
    obtain ⟨p0, p1, p2, p3, pl, pf⟩ := (⟨x62.cell 0, x62.cell 1, x62.cell 2, x62.cell 3, x62.lt, x62.frozen⟩ : _ ∧ _ ∧ _ ∧ _ ∧ _ ∧ _)
    obtain ⟨q0, q1, q2, q3, ql, qf⟩ := (⟨r63.cell 0, r63.cell 1, r63.cell 2, r63.cell 3, r63.lt, r63.frozen⟩ : _ ∧ _ ∧ _ ∧ _ ∧ _ ∧ _)
    obtain ⟨t0, t1, t2, t3, tl, tf⟩ := (⟨t65.cell 0, t65.cell 1, t65.cell 2, t65.cell 3, t65.lt, t65.frozen⟩ : _ ∧ _ ∧ _ ∧ _ ∧ _ ∧ _)
    have ne_pq : ¬ w.heap.size = w.heap.size + 1 := by omega
    have ne_qp : ¬ w.heap.size + 1 = w.heap.size := by omega
    have ne_pt : ¬ w.heap.size = w2.heap.size := by omega
    have ne_tp : ¬ w2.heap.size = w.heap.size := by omega
    have ne_qt : ¬ w.heap.size + 1 = w2.heap.size := by omega
    have ne_tq : ¬ w2.heap.size = w.heap.size + 1 := by omega
    have hB66 := below_put hB61 (grown_set w3 (w.heap.size + 1) 0 (.int .i64 0)) (by omega) (by have := hB61.size; omega)
    have x67 := x62.past (grown_set w3 (w.heap.size + 1) 0 (.int .i64 0)) (by omega)
    have o68 := o64.past r63 (grown_set w3 (w.heap.size + 1) 0 (.int .i64 0))
    have t69 := t65.past (grown_set w3 (w.heap.size + 1) 0 (.int .i64 0)) (by omega)
    have r70 : At (w3.setCell ⟨w.heap.size + 1, 0, none⟩ (.int .i64 0)) (w.heap.size + 1) 26 #[.int .i64 0, .slice none 0 0, .slice none 0 0, .slice none 0 0] := by simpa using r63.set 0 (.int .i64 0)
    clear hB61 x62 o64 t65 r63
    have hB71 := below_put hB66 (grown_set (w3.setCell ⟨w.heap.size + 1, 0, none⟩ (.int .i64 0)) (w.heap.size + 1) 1 (.slice none 0 0)) (by omega) (by have := hB66.size; omega)
    have x72 := x67.past (grown_set (w3.setCell ⟨w.heap.size + 1, 0, none⟩ (.int .i64 0)) (w.heap.size + 1) 1 (.slice none 0 0)) (by omega)
    have o73 := o68.past r70 (grown_set (w3.setCell ⟨w.heap.size + 1, 0, none⟩ (.int .i64 0)) (w.heap.size + 1) 1 (.slice none 0 0))
    have t74 := t69.past (grown_set (w3.setCell ⟨w.heap.size + 1, 0, none⟩ (.int .i64 0)) (w.heap.size + 1) 1 (.slice none 0 0)) (by omega)
    have r75 : At ((w3.setCell ⟨w.heap.size + 1, 0, none⟩ (.int .i64 0)).setCell ⟨w.heap.size + 1, 1, none⟩ (.slice none 0 0)) (w.heap.size + 1) 26 #[.int .i64 0, .slice none 0 0, .slice none 0 0, .slice none 0 0] := by simpa using r70.set 1 (.slice none 0 0)
    clear hB66 x67 o68 t69 r70
    have hB76 := below_put hB71 (grown_set ((w3.setCell ⟨w.heap.size + 1, 0, none⟩ (.int .i64 0)).setCell ⟨w.heap.size + 1, 1, none⟩ (.slice none 0 0)) (w.heap.size + 1) 2 (.slice none 0 0)) (by omega) (by have := hB71.size; omega)
    have x77 := x72.past (grown_set ((w3.setCell ⟨w.heap.size + 1, 0, none⟩ (.int .i64 0)).setCell ⟨w.heap.size + 1, 1, none⟩ (.slice none 0 0)) (w.heap.size + 1) 2 (.slice none 0 0)) (by omega)
    have o78 := o73.past r75 (grown_set ((w3.setCell ⟨w.heap.size + 1, 0, none⟩ (.int .i64 0)).setCell ⟨w.heap.size + 1, 1, none⟩ (.slice none 0 0)) (w.heap.size + 1) 2 (.slice none 0 0))
    have t79 := t74.past (grown_set ((w3.setCell ⟨w.heap.size + 1, 0, none⟩ (.int .i64 0)).setCell ⟨w.heap.size + 1, 1, none⟩ (.slice none 0 0)) (w.heap.size + 1) 2 (.slice none 0 0)) (by omega)
    have r80 : At (((w3.setCell ⟨w.heap.size + 1, 0, none⟩ (.int .i64 0)).setCell ⟨w.heap.size + 1, 1, none⟩ (.slice none 0 0)).setCell ⟨w.heap.size + 1, 2, none⟩ (.slice none 0 0)) (w.heap.size + 1) 26 #[.int .i64 0, .slice none 0 0, .slice none 0 0, .slice none 0 0] := by simpa using r75.set 2 (.slice none 0 0)
    clear hB71 x72 o73 t74 r75
    have hB81 := below_put hB76 (grown_set (((w3.setCell ⟨w.heap.size + 1, 0, none⟩ (.int .i64 0)).setCell ⟨w.heap.size + 1, 1, none⟩ (.slice none 0 0)).setCell ⟨w.heap.size + 1, 2, none⟩ (.slice none 0 0)) (w.heap.size + 1) 3 (.slice none 0 0)) (by omega) (by have := hB76.size; omega)
    have x82 := x77.past (grown_set (((w3.setCell ⟨w.heap.size + 1, 0, none⟩ (.int .i64 0)).setCell ⟨w.heap.size + 1, 1, none⟩ (.slice none 0 0)).setCell ⟨w.heap.size + 1, 2, none⟩ (.slice none 0 0)) (w.heap.size + 1) 3 (.slice none 0 0)) (by omega)
    have o83 := o78.past r80 (grown_set (((w3.setCell ⟨w.heap.size + 1, 0, none⟩ (.int .i64 0)).setCell ⟨w.heap.size + 1, 1, none⟩ (.slice none 0 0)).setCell ⟨w.heap.size + 1, 2, none⟩ (.slice none 0 0)) (w.heap.size + 1) 3 (.slice none 0 0))
    have t84 := t79.past (grown_set (((w3.setCell ⟨w.heap.size + 1, 0, none⟩ (.int .i64 0)).setCell ⟨w.heap.size + 1, 1, none⟩ (.slice none 0 0)).setCell ⟨w.heap.size + 1, 2, none⟩ (.slice none 0 0)) (w.heap.size + 1) 3 (.slice none 0 0)) (by omega)
    have r85 : At ((((w3.setCell ⟨w.heap.size + 1, 0, none⟩ (.int .i64 0)).setCell ⟨w.heap.size + 1, 1, none⟩ (.slice none 0 0)).setCell ⟨w.heap.size + 1, 2, none⟩ (.slice none 0 0)).setCell ⟨w.heap.size + 1, 3, none⟩ (.slice none 0 0)) (w.heap.size + 1) 26 #[.int .i64 0, .slice none 0 0, .slice none 0 0, .slice none 0 0] := by simpa using r80.set 3 (.slice none 0 0)
    clear hB76 x77 o78 t79 r80
    go_wp2
    refine bodyPost_ret (v := .tuple #[.agg #[.int .i64 0, .slice none 0 0, .slice none 0 0, .slice none 0 0], .int .i64 (-1), .bool false]) (by simp [results, Try.results59, go_sem, r85.cell]) rfl ?_
    exact (by rw [(acq_no EB.out).1, (acq_no EB.out).2, EB.out]; exact pans3_zero hB81)
  · skip
    have hb : acqB p o = true := acqB_iff.2 ⟨hok, ⟨hin.1, by omega⟩, hacq.1 (okB_iff.1 hv)⟩
    obtain ⟨e1, e2⟩ := acq_yes hb
    have EB := hid hb
    have E1 := hid e1
    have E2 := hid e2
    clear hacq e1 e2 hb
    obtain ⟨R, hR⟩ : ∃ R, R = acqP p o := ⟨_, rfl⟩
    rw [← hR] at hv l1 l2 l3
    have HRR := hid hR.symm
    clear hR
    obtain ⟨C, hC⟩ : ∃ C, C = acqC p := ⟨_, rfl⟩
    have HN := hid hC.symm
    clear hC
    have HV := hid hv
    clear hv
    replace l1 : R.idle.length ≤ 2097152 := Nat.le_trans l1 H1.out
    have hsm := hok.small
    replace l2 : R.held.length ≤ 2097152 := by omega
    replace l3 : R.wait.length ≤ 4194304 := by omega
    clear hsm
    have hB86 := Below.refl w.heap.size w
    have hB87 := hB86.alloc hB86.size (.cells #[.int .i64 p.mx, .slice A1 p.idle.length c1, .slice A2 p.held.length c2, .slice A3 p.wait.length c3] 26)
    clear hB86
    have x88 : At (w.alloc (.cells #[.int .i64 p.mx, .slice A1 p.idle.length c1, .slice A2 p.held.length c2, .slice A3 p.wait.length c3] 26)) (w.heap.size) 26 #[.int .i64 p.mx, .slice A1 p.idle.length c1, .slice A2 p.held.length c2, .slice A3 p.wait.length c3] := At.newAt _ _ (by first | rfl | (simp; done) | (simp; omega))
    have hB89 := hB87.alloc hB87.size (.cells #[.int .i64 0, .slice none 0 0, .slice none 0 0, .slice none 0 0] 26)
    have x90 := x88.alloc (.cells #[.int .i64 0, .slice none 0 0, .slice none 0 0, .slice none 0 0] 26)
    clear hB87 x88
    have r91 : At ((w.alloc (.cells #[.int .i64 p.mx, .slice A1 p.idle.length c1, .slice A2 p.held.length c2, .slice A3 p.wait.length c3] 26)).alloc (.cells #[.int .i64 0, .slice none 0 0, .slice none 0 0, .slice none 0 0] 26)) (w.heap.size + 1) 26 #[.int .i64 0, .slice none 0 0, .slice none 0 0, .slice none 0 0] := At.newAt _ _ (by first | rfl | (simp; done) | (simp; omega))
    go_enter Try.func59, Try.ntmps59
    obtain ⟨p0, p1, p2, p3, pl, pf⟩ := (⟨x90.cell 0, x90.cell 1, x90.cell 2, x90.cell 3, x90.lt, x90.frozen⟩ : _ ∧ _ ∧ _ ∧ _ ∧ _ ∧ _)
    obtain ⟨q0, q1, q2, q3, ql, qf⟩ := (⟨r91.cell 0, r91.cell 1, r91.cell 2, r91.cell 3, r91.lt, r91.frozen⟩ : _ ∧ _ ∧ _ ∧ _ ∧ _ ∧ _)
    go_wp2_with fail
    with_reducible refine (svalidPool_any p A1 A2 A3 c1 c2 c3 _ (h.on hB89) H1.out H2.out (Nat.le_trans H3.out (by decide))).mono ?_
    rintro e w1 ⟨he, hb1⟩
    rw [HK.out] at he
    subst he
    have sz1 : w.heap.size + 2 ≤ w1.heap.size := Nat.le_trans (by first | exact Nat.le_refl _ | (simp; done) | (simp; omega)) (hb1.size)
    have hB92 := hB89.trans (hb1.mono hB89.size)
    have x93 := x90.below hb1 x90.lt
    have r94 := r91.below hb1 r91.lt
    clear hB89 x90 r91
    clear p0 p1 p2 p3 pl pf q0 q1 q2 q3 ql qf
    obtain ⟨p0, p1, p2, p3, pl, pf⟩ := (⟨x93.cell 0, x93.cell 1, x93.cell 2, x93.cell 3, x93.lt, x93.frozen⟩ : _ ∧ _ ∧ _ ∧ _ ∧ _ ∧ _)
    obtain ⟨q0, q1, q2, q3, ql, qf⟩ := (⟨r94.cell 0, r94.cell 1, r94.cell 2, r94.cell 3, r94.lt, r94.frozen⟩ : _ ∧ _ ∧ _ ∧ _ ∧ _ ∧ _)
    go_wp2_with fail
    with_reducible refine (inRange_any o 0 4 _).mono ?_
    rintro e w' ⟨he, rfl⟩
    rw [HR.out] at he
    subst he
    clear p0 p1 p2 p3 pl pf q0 q1 q2 q3 ql qf
    obtain ⟨p0, p1, p2, p3, pl, pf⟩ := (⟨x93.cell 0, x93.cell 1, x93.cell 2, x93.cell 3, x93.lt, x93.frozen⟩ : _ ∧ _ ∧ _ ∧ _ ∧ _ ∧ _)
    obtain ⟨q0, q1, q2, q3, ql, qf⟩ := (⟨r94.cell 0, r94.cell 1, r94.cell 2, r94.cell 3, r94.lt, r94.frozen⟩ : _ ∧ _ ∧ _ ∧ _ ∧ _ ∧ _)
    go_wp2_with fail
    with_reducible refine (sacquire_any p A1 A2 A3 c1 c2 c3 o _ (h.on hB92) hok hcap H1.out H2.out H3.out).mono ?_
    rintro e w2 ⟨B1, B2, B3, d1, d2, d3, he, ho, hb2⟩
    rw [HN.out] at he
    rw [HRR.out] at he ho
    subst he
    have sz2 : w1.heap.size ≤ w2.heap.size := Nat.le_trans (by first | exact Nat.le_refl _ | (simp; done) | (simp; omega)) (hb2.size)
    have hB95 := hB92.trans (hb2.mono hB92.size)
    have x96 := x93.below hb2 x93.lt
    have r97 := r94.below hb2 r94.lt
    clear hB92 x93 r94
    clear p0 p1 p2 p3 pl pf q0 q1 q2 q3 ql qf
    have o98 := ho.mono (show w.heap.size + 2 ≤ _ by omega)
    clear ho
    obtain ⟨p0, p1, p2, p3, pl, pf⟩ := (⟨x96.cell 0, x96.cell 1, x96.cell 2, x96.cell 3, x96.lt, x96.frozen⟩ : _ ∧ _ ∧ _ ∧ _ ∧ _ ∧ _)
    obtain ⟨q0, q1, q2, q3, ql, qf⟩ := (⟨r97.cell 0, r97.cell 1, r97.cell 2, r97.cell 3, r97.lt, r97.frozen⟩ : _ ∧ _ ∧ _ ∧ _ ∧ _ ∧ _)
    have hB99 := hB95.alloc hB95.size (.cells #[.int .i64 R.mx, .slice B1 R.idle.length d1, .slice B2 R.held.length d2, .slice B3 R.wait.length d3] 26)
    have x100 := x96.alloc (.cells #[.int .i64 R.mx, .slice B1 R.idle.length d1, .slice B2 R.held.length d2, .slice B3 R.wait.length d3] 26)
    have r101 := r97.alloc (.cells #[.int .i64 R.mx, .slice B1 R.idle.length d1, .slice B2 R.held.length d2, .slice B3 R.wait.length d3] 26)
    have o102 := o98.alloc (.cells #[.int .i64 R.mx, .slice B1 R.idle.length d1, .slice B2 R.held.length d2, .slice B3 R.wait.length d3] 26)
    clear hB95 x96 r97 o98
    have t103 : At (w2.alloc (.cells #[.int .i64 R.mx, .slice B1 R.idle.length d1, .slice B2 R.held.length d2, .slice B3 R.wait.length d3] 26)) (w2.heap.size) 26 #[.int .i64 R.mx, .slice B1 R.idle.length d1, .slice B2 R.held.length d2, .slice B3 R.wait.length d3] := At.newAt _ _ (by first | rfl | (simp; done) | (simp; omega))
    go_wp2_with fail
    with_reducible refine (svalidPool_any R B1 B2 B3 d1 d2 d3 _ o102.sees l1 l2 l3).mono ?_
    rintro e w3 ⟨he, hb3⟩
    rw [HV.out] at he
    subst he
    have sz3 : w2.heap.size + 1 ≤ w3.heap.size := Nat.le_trans (by first | exact Nat.le_refl _ | (simp; done) | (simp; omega)) (hb3.size)
    have hB104 := hB99.trans (hb3.mono hB99.size)
    have x105 := x100.below hb3 x100.lt
    have r106 := r101.below hb3 r101.lt
    have o107 := o102.below hb3
    have t108 := t103.below hb3 t103.lt
    clear hB99 x100 r101 o102 t103
    clear p0 p1 p2 p3 pl pf q0 q1 q2 q3 ql qf
    obtain ⟨p0, p1, p2, p3, pl, pf⟩ := (⟨x105.cell 0, x105.cell 1, x105.cell 2, x105.cell 3, x105.lt, x105.frozen⟩ : _ ∧ _ ∧ _ ∧ _ ∧ _ ∧ _)
    obtain ⟨q0, q1, q2, q3, ql, qf⟩ := (⟨r106.cell 0, r106.cell 1, r106.cell 2, r106.cell 3, r106.lt, r106.frozen⟩ : _ ∧ _ ∧ _ ∧ _ ∧ _ ∧ _)
    obtain ⟨t0, t1, t2, t3, tl, tf⟩ := (⟨t108.cell 0, t108.cell 1, t108.cell 2, t108.cell 3, t108.lt, t108.frozen⟩ : _ ∧ _ ∧ _ ∧ _ ∧ _ ∧ _)
    have ne_pq : ¬ w.heap.size = w.heap.size + 1 := by omega
    have ne_qp : ¬ w.heap.size + 1 = w.heap.size := by omega
    have ne_pt : ¬ w.heap.size = w2.heap.size := by omega
    have ne_tp : ¬ w2.heap.size = w.heap.size := by omega
    have ne_qt : ¬ w.heap.size + 1 = w2.heap.size := by omega
    have ne_tq : ¬ w2.heap.size = w.heap.size + 1 := by omega
    have hB109 := below_put hB104 (grown_set w3 (w.heap.size + 1) 0 (.int .i64 R.mx)) (by omega) (by have := hB104.size; omega)
    have x110 := x105.past (grown_set w3 (w.heap.size + 1) 0 (.int .i64 R.mx)) (by omega)
    have o111 := o107.past r106 (grown_set w3 (w.heap.size + 1) 0 (.int .i64 R.mx))
    have t112 := t108.past (grown_set w3 (w.heap.size + 1) 0 (.int .i64 R.mx)) (by omega)
    have r113 : At (w3.setCell ⟨w.heap.size + 1, 0, none⟩ (.int .i64 R.mx)) (w.heap.size + 1) 26 #[.int .i64 R.mx, .slice none 0 0, .slice none 0 0, .slice none 0 0] := by simpa using r106.set 0 (.int .i64 R.mx)
    clear hB104 x105 o107 t108 r106
    have hB114 := below_put hB109 (grown_set (w3.setCell ⟨w.heap.size + 1, 0, none⟩ (.int .i64 R.mx)) (w.heap.size + 1) 1 (.slice B1 R.idle.length d1)) (by omega) (by have := hB109.size; omega)
    have x115 := x110.past (grown_set (w3.setCell ⟨w.heap.size + 1, 0, none⟩ (.int .i64 R.mx)) (w.heap.size + 1) 1 (.slice B1 R.idle.length d1)) (by omega)
    have o116 := o111.past r113 (grown_set (w3.setCell ⟨w.heap.size + 1, 0, none⟩ (.int .i64 R.mx)) (w.heap.size + 1) 1 (.slice B1 R.idle.length d1))
    have t117 := t112.past (grown_set (w3.setCell ⟨w.heap.size + 1, 0, none⟩ (.int .i64 R.mx)) (w.heap.size + 1) 1 (.slice B1 R.idle.length d1)) (by omega)
    have r118 : At ((w3.setCell ⟨w.heap.size + 1, 0, none⟩ (.int .i64 R.mx)).setCell ⟨w.heap.size + 1, 1, none⟩ (.slice B1 R.idle.length d1)) (w.heap.size + 1) 26 #[.int .i64 R.mx, .slice B1 R.idle.length d1, .slice none 0 0, .slice none 0 0] := by simpa using r113.set 1 (.slice B1 R.idle.length d1)
    clear hB109 x110 o111 t112 r113
    have hB119 := below_put hB114 (grown_set ((w3.setCell ⟨w.heap.size + 1, 0, none⟩ (.int .i64 R.mx)).setCell ⟨w.heap.size + 1, 1, none⟩ (.slice B1 R.idle.length d1)) (w.heap.size + 1) 2 (.slice B2 R.held.length d2)) (by omega) (by have := hB114.size; omega)
    have x120 := x115.past (grown_set ((w3.setCell ⟨w.heap.size + 1, 0, none⟩ (.int .i64 R.mx)).setCell ⟨w.heap.size + 1, 1, none⟩ (.slice B1 R.idle.length d1)) (w.heap.size + 1) 2 (.slice B2 R.held.length d2)) (by omega)
    have o121 := o116.past r118 (grown_set ((w3.setCell ⟨w.heap.size + 1, 0, none⟩ (.int .i64 R.mx)).setCell ⟨w.heap.size + 1, 1, none⟩ (.slice B1 R.idle.length d1)) (w.heap.size + 1) 2 (.slice B2 R.held.length d2))
    have t122 := t117.past (grown_set ((w3.setCell ⟨w.heap.size + 1, 0, none⟩ (.int .i64 R.mx)).setCell ⟨w.heap.size + 1, 1, none⟩ (.slice B1 R.idle.length d1)) (w.heap.size + 1) 2 (.slice B2 R.held.length d2)) (by omega)
    have r123 : At (((w3.setCell ⟨w.heap.size + 1, 0, none⟩ (.int .i64 R.mx)).setCell ⟨w.heap.size + 1, 1, none⟩ (.slice B1 R.idle.length d1)).setCell ⟨w.heap.size + 1, 2, none⟩ (.slice B2 R.held.length d2)) (w.heap.size + 1) 26 #[.int .i64 R.mx, .slice B1 R.idle.length d1, .slice B2 R.held.length d2, .slice none 0 0] := by simpa using r118.set 2 (.slice B2 R.held.length d2)
    clear hB114 x115 o116 t117 r118
    have hB124 := below_put hB119 (grown_set (((w3.setCell ⟨w.heap.size + 1, 0, none⟩ (.int .i64 R.mx)).setCell ⟨w.heap.size + 1, 1, none⟩ (.slice B1 R.idle.length d1)).setCell ⟨w.heap.size + 1, 2, none⟩ (.slice B2 R.held.length d2)) (w.heap.size + 1) 3 (.slice B3 R.wait.length d3)) (by omega) (by have := hB119.size; omega)
    have x125 := x120.past (grown_set (((w3.setCell ⟨w.heap.size + 1, 0, none⟩ (.int .i64 R.mx)).setCell ⟨w.heap.size + 1, 1, none⟩ (.slice B1 R.idle.length d1)).setCell ⟨w.heap.size + 1, 2, none⟩ (.slice B2 R.held.length d2)) (w.heap.size + 1) 3 (.slice B3 R.wait.length d3)) (by omega)
    have o126 := o121.past r123 (grown_set (((w3.setCell ⟨w.heap.size + 1, 0, none⟩ (.int .i64 R.mx)).setCell ⟨w.heap.size + 1, 1, none⟩ (.slice B1 R.idle.length d1)).setCell ⟨w.heap.size + 1, 2, none⟩ (.slice B2 R.held.length d2)) (w.heap.size + 1) 3 (.slice B3 R.wait.length d3))
    have t127 := t122.past (grown_set (((w3.setCell ⟨w.heap.size + 1, 0, none⟩ (.int .i64 R.mx)).setCell ⟨w.heap.size + 1, 1, none⟩ (.slice B1 R.idle.length d1)).setCell ⟨w.heap.size + 1, 2, none⟩ (.slice B2 R.held.length d2)) (w.heap.size + 1) 3 (.slice B3 R.wait.length d3)) (by omega)
    have r128 : At ((((w3.setCell ⟨w.heap.size + 1, 0, none⟩ (.int .i64 R.mx)).setCell ⟨w.heap.size + 1, 1, none⟩ (.slice B1 R.idle.length d1)).setCell ⟨w.heap.size + 1, 2, none⟩ (.slice B2 R.held.length d2)).setCell ⟨w.heap.size + 1, 3, none⟩ (.slice B3 R.wait.length d3)) (w.heap.size + 1) 26 #[.int .i64 R.mx, .slice B1 R.idle.length d1, .slice B2 R.held.length d2, .slice B3 R.wait.length d3] := by simpa using r123.set 3 (.slice B3 R.wait.length d3)
    clear hB119 x120 o121 t122 r123
    go_wp2
    refine bodyPost_ret (v := .tuple #[.agg #[.int .i64 R.mx, .slice B1 R.idle.length d1, .slice B2 R.held.length d2, .slice B3 R.wait.length d3], .int .i64 C, .bool true]) (by simp [results, Try.results59, go_sem, r128.cell]) rfl ?_
    rw [E1.out, E2.out, EB.out, HN.out, HRR.out]
    exact ⟨_, _, _, _, _, _, rfl, o126.mono (show w.heap.size ≤ w.heap.size + 2 by omega), hB124⟩

end Go.Proofs.Ytehdbllpiokbnab

/-
  What the model's StepNest answers. Condition: the lists lie in memory.
-/
import Derived.Test.YtocaddibdiikpaaNsE
namespace Go.Proofs.Ytocaddibdiikpaa
open Go.RowKit Nes

set_option maxHeartbeats 4000000 in
theorem sStepNest_any (s : Nst) (k : Int) (A1 : Option Addr) (c1 : Nat) (w : World) (h : SeesM w w.heap.size A1 s) (hc : s.m.length ≤ c1) (h1 : s.m.length ≤ 4194304) :
    Calls Try.prog 14 #[.agg #[.int .i64 s.d, .int .i64 s.w, .slice A1 s.m.length c1, .bool s.b], .int .i64 k] w (NesAns (stepS s k) (stepB s k) w) := by
  have H1 := hid h1
  have HC := hid hc
  clear h1 hc
  rcases hv : nestB s with _ | _
  · skip
    have E := hid (show stepB s k = false by unfold stepB; rw [hv]; rfl)
    have E2 := hid (stepS_no E.out)
    have HV := hid hv
    clear hv
    have hB1 := Below.refl w.heap.size w
    have hB2 := hB1.alloc hB1.size (.cells #[.int .i64 s.d, .int .i64 s.w, .slice A1 s.m.length c1, .bool s.b] 25)
    clear hB1
    have x3 : At (w.alloc (.cells #[.int .i64 s.d, .int .i64 s.w, .slice A1 s.m.length c1, .bool s.b] 25)) (w.heap.size) 25 #[.int .i64 s.d, .int .i64 s.w, .slice A1 s.m.length c1, .bool s.b] := At.newAt _ _ (by first | rfl | (simp; done) | (simp; omega))
    have hB4 := hB2.alloc hB2.size (.cells #[.int .i64 0, .int .i64 0, .slice none 0 0, .bool false] 25)
    have x5 := x3.alloc (.cells #[.int .i64 0, .int .i64 0, .slice none 0 0, .bool false] 25)
    clear hB2 x3
    have r6 : At ((w.alloc (.cells #[.int .i64 s.d, .int .i64 s.w, .slice A1 s.m.length c1, .bool s.b] 25)).alloc (.cells #[.int .i64 0, .int .i64 0, .slice none 0 0, .bool false] 25)) (w.heap.size + 1) 25 #[.int .i64 0, .int .i64 0, .slice none 0 0, .bool false] := At.newAt _ _ (by first | rfl | (simp; done) | (simp; omega))
    go_enter Try.func14, Try.ntmps14
    obtain ⟨p0, p1, p2, p3, pl, pf⟩ := (⟨x5.cell 0, x5.cell 1, x5.cell 2, x5.cell 3, x5.lt, x5.frozen⟩ : _ ∧ _ ∧ _ ∧ _ ∧ _ ∧ _)
    obtain ⟨q0, q1, q2, q3, ql, qf⟩ := (⟨r6.cell 0, r6.cell 1, r6.cell 2, r6.cell 3, r6.lt, r6.frozen⟩ : _ ∧ _ ∧ _ ∧ _ ∧ _ ∧ _)
    have ne_pq : ¬ w.heap.size = w.heap.size + 1 := by omega
    have ne_qp : ¬ w.heap.size + 1 = w.heap.size := by omega
    go_wp2_with fail
    with_reducible refine (svalidState_any s A1 c1 _ (h.on hB4) H1.out).mono ?_
    rintro e w1 ⟨he, hb1⟩
    rw [HV.out] at he
    subst he
    have sz1 : w.heap.size + 2 ≤ w1.heap.size := Nat.le_trans (by first | exact Nat.le_refl _ | (simp; done) | (simp; omega)) (hb1.size)
    have hB7 := hB4.trans (hb1.mono hB4.size)
    have x8 := x5.below hb1 x5.lt
    have r9 := r6.below hb1 r6.lt
    clear hB4 x5 r6
    clear p0 p1 p2 p3 pl pf q0 q1 q2 q3 ql qf ne_pq ne_qp
    obtain ⟨p0, p1, p2, p3, pl, pf⟩ := (⟨x8.cell 0, x8.cell 1, x8.cell 2, x8.cell 3, x8.lt, x8.frozen⟩ : _ ∧ _ ∧ _ ∧ _ ∧ _ ∧ _)
    obtain ⟨q0, q1, q2, q3, ql, qf⟩ := (⟨r9.cell 0, r9.cell 1, r9.cell 2, r9.cell 3, r9.lt, r9.frozen⟩ : _ ∧ _ ∧ _ ∧ _ ∧ _ ∧ _)
    have ne_pq : ¬ w.heap.size = w.heap.size + 1 := by omega
    have ne_qp : ¬ w.heap.size + 1 = w.heap.size := by omega
    have hB10 := below_put hB7 (grown_set w1 (w.heap.size + 1) 0 (.int .i64 0)) (by omega) (by have := hB7.size; omega)
    have x11 := x8.past (grown_set w1 (w.heap.size + 1) 0 (.int .i64 0)) (by omega)
    have r12 : At (w1.setCell ⟨w.heap.size + 1, 0, none⟩ (.int .i64 0)) (w.heap.size + 1) 25 #[.int .i64 0, .int .i64 0, .slice none 0 0, .bool false] := by simpa using r9.set 0 (.int .i64 0)
    clear hB7 x8 r9
    have hB13 := below_put hB10 (grown_set (w1.setCell ⟨w.heap.size + 1, 0, none⟩ (.int .i64 0)) (w.heap.size + 1) 1 (.int .i64 0)) (by omega) (by have := hB10.size; omega)
    have x14 := x11.past (grown_set (w1.setCell ⟨w.heap.size + 1, 0, none⟩ (.int .i64 0)) (w.heap.size + 1) 1 (.int .i64 0)) (by omega)
    have r15 : At ((w1.setCell ⟨w.heap.size + 1, 0, none⟩ (.int .i64 0)).setCell ⟨w.heap.size + 1, 1, none⟩ (.int .i64 0)) (w.heap.size + 1) 25 #[.int .i64 0, .int .i64 0, .slice none 0 0, .bool false] := by simpa using r12.set 1 (.int .i64 0)
    clear hB10 x11 r12
    have hB16 := below_put hB13 (grown_set ((w1.setCell ⟨w.heap.size + 1, 0, none⟩ (.int .i64 0)).setCell ⟨w.heap.size + 1, 1, none⟩ (.int .i64 0)) (w.heap.size + 1) 2 (.slice none 0 0)) (by omega) (by have := hB13.size; omega)
    have x17 := x14.past (grown_set ((w1.setCell ⟨w.heap.size + 1, 0, none⟩ (.int .i64 0)).setCell ⟨w.heap.size + 1, 1, none⟩ (.int .i64 0)) (w.heap.size + 1) 2 (.slice none 0 0)) (by omega)
    have r18 : At (((w1.setCell ⟨w.heap.size + 1, 0, none⟩ (.int .i64 0)).setCell ⟨w.heap.size + 1, 1, none⟩ (.int .i64 0)).setCell ⟨w.heap.size + 1, 2, none⟩ (.slice none 0 0)) (w.heap.size + 1) 25 #[.int .i64 0, .int .i64 0, .slice none 0 0, .bool false] := by simpa using r15.set 2 (.slice none 0 0)
    clear hB13 x14 r15
    have hB19 := below_put hB16 (grown_set (((w1.setCell ⟨w.heap.size + 1, 0, none⟩ (.int .i64 0)).setCell ⟨w.heap.size + 1, 1, none⟩ (.int .i64 0)).setCell ⟨w.heap.size + 1, 2, none⟩ (.slice none 0 0)) (w.heap.size + 1) 3 (.bool false)) (by omega) (by have := hB16.size; omega)
    have x20 := x17.past (grown_set (((w1.setCell ⟨w.heap.size + 1, 0, none⟩ (.int .i64 0)).setCell ⟨w.heap.size + 1, 1, none⟩ (.int .i64 0)).setCell ⟨w.heap.size + 1, 2, none⟩ (.slice none 0 0)) (w.heap.size + 1) 3 (.bool false)) (by omega)
    have r21 : At ((((w1.setCell ⟨w.heap.size + 1, 0, none⟩ (.int .i64 0)).setCell ⟨w.heap.size + 1, 1, none⟩ (.int .i64 0)).setCell ⟨w.heap.size + 1, 2, none⟩ (.slice none 0 0)).setCell ⟨w.heap.size + 1, 3, none⟩ (.bool false)) (w.heap.size + 1) 25 #[.int .i64 0, .int .i64 0, .slice none 0 0, .bool false] := by simpa using r18.set 3 (.bool false)
    clear hB16 x17 r18
    go_wp2
    refine bodyPost_ret (v := .tuple #[.agg #[.int .i64 0, .int .i64 0, .slice none 0 0, .bool false], .bool false]) (by simp [results, Try.results14, go_sem, r21.cell]) rfl ?_
    exact ⟨none, 0, by rw [E.out, E2.out]; rfl, by rw [E2.out]; exact OwnM.zero _ _, hB19⟩
  · skip
    have HV := hid hv
    clear hv
    obtain ⟨R, hR⟩ : ∃ R, R = stepS s k := ⟨_, rfl⟩
    have ER : Hid (stepS s k = R) := hid hR.symm
    obtain ⟨K, hK⟩ : ∃ K, K = stepB s k := ⟨_, rfl⟩
    have EK : Hid (stepB s k = K) := hid hK.symm
    clear hR hK
    have hB22 := Below.refl w.heap.size w
    have hB23 := hB22.alloc hB22.size (.cells #[.int .i64 s.d, .int .i64 s.w, .slice A1 s.m.length c1, .bool s.b] 25)
    clear hB22
    have x24 : At (w.alloc (.cells #[.int .i64 s.d, .int .i64 s.w, .slice A1 s.m.length c1, .bool s.b] 25)) (w.heap.size) 25 #[.int .i64 s.d, .int .i64 s.w, .slice A1 s.m.length c1, .bool s.b] := At.newAt _ _ (by first | rfl | (simp; done) | (simp; omega))
    have hB25 := hB23.alloc hB23.size (.cells #[.int .i64 0, .int .i64 0, .slice none 0 0, .bool false] 25)
    have x26 := x24.alloc (.cells #[.int .i64 0, .int .i64 0, .slice none 0 0, .bool false] 25)
    clear hB23 x24
    have r27 : At ((w.alloc (.cells #[.int .i64 s.d, .int .i64 s.w, .slice A1 s.m.length c1, .bool s.b] 25)).alloc (.cells #[.int .i64 0, .int .i64 0, .slice none 0 0, .bool false] 25)) (w.heap.size + 1) 25 #[.int .i64 0, .int .i64 0, .slice none 0 0, .bool false] := At.newAt _ _ (by first | rfl | (simp; done) | (simp; omega))
    go_enter Try.func14, Try.ntmps14
    obtain ⟨p0, p1, p2, p3, pl, pf⟩ := (⟨x26.cell 0, x26.cell 1, x26.cell 2, x26.cell 3, x26.lt, x26.frozen⟩ : _ ∧ _ ∧ _ ∧ _ ∧ _ ∧ _)
    obtain ⟨q0, q1, q2, q3, ql, qf⟩ := (⟨r27.cell 0, r27.cell 1, r27.cell 2, r27.cell 3, r27.lt, r27.frozen⟩ : _ ∧ _ ∧ _ ∧ _ ∧ _ ∧ _)
    have ne_pq : ¬ w.heap.size = w.heap.size + 1 := by omega
    have ne_qp : ¬ w.heap.size + 1 = w.heap.size := by omega
    go_wp2_with fail
    with_reducible refine (svalidState_any s A1 c1 _ (h.on hB25) H1.out).mono ?_
    rintro e w1 ⟨he, hb1⟩
    rw [HV.out] at he
    subst he
    have sz1 : w.heap.size + 2 ≤ w1.heap.size := Nat.le_trans (by first | exact Nat.le_refl _ | (simp; done) | (simp; omega)) (hb1.size)
    have hB28 := hB25.trans (hb1.mono hB25.size)
    have x29 := x26.below hb1 x26.lt
    have r30 := r27.below hb1 r27.lt
    clear hB25 x26 r27
    clear p0 p1 p2 p3 pl pf q0 q1 q2 q3 ql qf ne_pq ne_qp
    obtain ⟨p0, p1, p2, p3, pl, pf⟩ := (⟨x29.cell 0, x29.cell 1, x29.cell 2, x29.cell 3, x29.lt, x29.frozen⟩ : _ ∧ _ ∧ _ ∧ _ ∧ _ ∧ _)
    obtain ⟨q0, q1, q2, q3, ql, qf⟩ := (⟨r30.cell 0, r30.cell 1, r30.cell 2, r30.cell 3, r30.lt, r30.frozen⟩ : _ ∧ _ ∧ _ ∧ _ ∧ _ ∧ _)
    have ne_pq : ¬ w.heap.size = w.heap.size + 1 := by omega
    have ne_qp : ¬ w.heap.size + 1 = w.heap.size := by omega
    go_wp2_with fail
    refine (sstep_any s k A1 c1 _ (h.on hB28) HC.out H1.out HV.out).mono ?_
    rintro e w2 ⟨A2, c2, he, ho2, hb2⟩
    rw [ER.out, EK.out] at he
    rw [ER.out] at ho2
    subst he
    have sz2 : w1.heap.size ≤ w2.heap.size := Nat.le_trans (by first | exact Nat.le_refl _ | (simp; done) | (simp; omega)) (hb2.size)
    have hB31 := hB28.trans (hb2.mono hB28.size)
    have x32 := x29.below hb2 x29.lt
    have r33 := r30.below hb2 r30.lt
    clear hB28 x29 r30
    clear p0 p1 p2 p3 pl pf q0 q1 q2 q3 ql qf ne_pq ne_qp
    have o34 : OwnM w2 w.heap.size A2 c2 R := OwnM.mono ho2 (by first | omega | (simp; omega))
    clear ho2
    obtain ⟨p0, p1, p2, p3, pl, pf⟩ := (⟨x32.cell 0, x32.cell 1, x32.cell 2, x32.cell 3, x32.lt, x32.frozen⟩ : _ ∧ _ ∧ _ ∧ _ ∧ _ ∧ _)
    obtain ⟨q0, q1, q2, q3, ql, qf⟩ := (⟨r33.cell 0, r33.cell 1, r33.cell 2, r33.cell 3, r33.lt, r33.frozen⟩ : _ ∧ _ ∧ _ ∧ _ ∧ _ ∧ _)
    have ne_pq : ¬ w.heap.size = w.heap.size + 1 := by omega
    have ne_qp : ¬ w.heap.size + 1 = w.heap.size := by omega
    have hB35 := below_put hB31 (grown_set w2 (w.heap.size + 1) 0 (.int .i64 R.d)) (by omega) (by have := hB31.size; omega)
    have x36 := x32.past (grown_set w2 (w.heap.size + 1) 0 (.int .i64 R.d)) (by omega)
    have o37 := o34.past4 r33 (grown_set w2 (w.heap.size + 1) 0 (.int .i64 R.d))
    have r38 : At (w2.setCell ⟨w.heap.size + 1, 0, none⟩ (.int .i64 R.d)) (w.heap.size + 1) 25 #[.int .i64 R.d, .int .i64 0, .slice none 0 0, .bool false] := by simpa using r33.set 0 (.int .i64 R.d)
    clear hB31 x32 o34 r33
    have hB39 := below_put hB35 (grown_set (w2.setCell ⟨w.heap.size + 1, 0, none⟩ (.int .i64 R.d)) (w.heap.size + 1) 1 (.int .i64 R.w)) (by omega) (by have := hB35.size; omega)
    have x40 := x36.past (grown_set (w2.setCell ⟨w.heap.size + 1, 0, none⟩ (.int .i64 R.d)) (w.heap.size + 1) 1 (.int .i64 R.w)) (by omega)
    have o41 := o37.past4 r38 (grown_set (w2.setCell ⟨w.heap.size + 1, 0, none⟩ (.int .i64 R.d)) (w.heap.size + 1) 1 (.int .i64 R.w))
    have r42 : At ((w2.setCell ⟨w.heap.size + 1, 0, none⟩ (.int .i64 R.d)).setCell ⟨w.heap.size + 1, 1, none⟩ (.int .i64 R.w)) (w.heap.size + 1) 25 #[.int .i64 R.d, .int .i64 R.w, .slice none 0 0, .bool false] := by simpa using r38.set 1 (.int .i64 R.w)
    clear hB35 x36 o37 r38
    have hB43 := below_put hB39 (grown_set ((w2.setCell ⟨w.heap.size + 1, 0, none⟩ (.int .i64 R.d)).setCell ⟨w.heap.size + 1, 1, none⟩ (.int .i64 R.w)) (w.heap.size + 1) 2 (.slice A2 R.m.length c2)) (by omega) (by have := hB39.size; omega)
    have x44 := x40.past (grown_set ((w2.setCell ⟨w.heap.size + 1, 0, none⟩ (.int .i64 R.d)).setCell ⟨w.heap.size + 1, 1, none⟩ (.int .i64 R.w)) (w.heap.size + 1) 2 (.slice A2 R.m.length c2)) (by omega)
    have o45 := o41.past4 r42 (grown_set ((w2.setCell ⟨w.heap.size + 1, 0, none⟩ (.int .i64 R.d)).setCell ⟨w.heap.size + 1, 1, none⟩ (.int .i64 R.w)) (w.heap.size + 1) 2 (.slice A2 R.m.length c2))
    have r46 : At (((w2.setCell ⟨w.heap.size + 1, 0, none⟩ (.int .i64 R.d)).setCell ⟨w.heap.size + 1, 1, none⟩ (.int .i64 R.w)).setCell ⟨w.heap.size + 1, 2, none⟩ (.slice A2 R.m.length c2)) (w.heap.size + 1) 25 #[.int .i64 R.d, .int .i64 R.w, .slice A2 R.m.length c2, .bool false] := by simpa using r42.set 2 (.slice A2 R.m.length c2)
    clear hB39 x40 o41 r42
    have hB47 := below_put hB43 (grown_set (((w2.setCell ⟨w.heap.size + 1, 0, none⟩ (.int .i64 R.d)).setCell ⟨w.heap.size + 1, 1, none⟩ (.int .i64 R.w)).setCell ⟨w.heap.size + 1, 2, none⟩ (.slice A2 R.m.length c2)) (w.heap.size + 1) 3 (.bool R.b)) (by omega) (by have := hB43.size; omega)
    have x48 := x44.past (grown_set (((w2.setCell ⟨w.heap.size + 1, 0, none⟩ (.int .i64 R.d)).setCell ⟨w.heap.size + 1, 1, none⟩ (.int .i64 R.w)).setCell ⟨w.heap.size + 1, 2, none⟩ (.slice A2 R.m.length c2)) (w.heap.size + 1) 3 (.bool R.b)) (by omega)
    have o49 := o45.past4 r46 (grown_set (((w2.setCell ⟨w.heap.size + 1, 0, none⟩ (.int .i64 R.d)).setCell ⟨w.heap.size + 1, 1, none⟩ (.int .i64 R.w)).setCell ⟨w.heap.size + 1, 2, none⟩ (.slice A2 R.m.length c2)) (w.heap.size + 1) 3 (.bool R.b))
    have r50 : At ((((w2.setCell ⟨w.heap.size + 1, 0, none⟩ (.int .i64 R.d)).setCell ⟨w.heap.size + 1, 1, none⟩ (.int .i64 R.w)).setCell ⟨w.heap.size + 1, 2, none⟩ (.slice A2 R.m.length c2)).setCell ⟨w.heap.size + 1, 3, none⟩ (.bool R.b)) (w.heap.size + 1) 25 #[.int .i64 R.d, .int .i64 R.w, .slice A2 R.m.length c2, .bool R.b] := by simpa using r46.set 3 (.bool R.b)
    clear hB43 x44 o45 r46
    go_wp2
    refine bodyPost_ret (v := .tuple #[.agg #[.int .i64 R.d, .int .i64 R.w, .slice A2 R.m.length c2, .bool R.b], .bool K]) (by simp [results, Try.results14, go_sem, r50.cell]) rfl ?_
    exact ⟨A2, c2, by rw [ER.out, EK.out], by rw [ER.out]; exact o49, hB47⟩

end Go.Proofs.Ytocaddibdiikpaa

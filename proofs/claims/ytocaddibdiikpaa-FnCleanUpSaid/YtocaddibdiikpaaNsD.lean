/-
  What the program's StepNest answers. Condition: the lists lie in memory.
-/
import Derived.Test.YtocaddibdiikpaaNsC
import Derived.Deep.RegionLaw
namespace Go.Proofs.Ytocaddibdiikpaa
open Go.RowKit Nes

set_option maxHeartbeats 8000000 in
theorem iStepNest_any (s : Nst) (k : Int) (A1 : Option Addr) (c1 : Nat) (w : World) (h : SeesM w w.heap.size A1 s) (hc : s.m.length ≤ c1) (h1 : s.m.length ≤ 4194304) :
    Calls Try.prog 13 #[.agg #[.int .i64 s.d, .int .i64 s.w, .slice A1 s.m.length c1, .bool s.b], .int .i64 k] w (NesAns (stepS s k) (stepB s k) w) := by
  obtain ⟨i0, hi0, hz0, hz1, hz2⟩ := info_parts intInfo
  have H1 := hid h1
  have HC := hid hc
  clear h1 hc
  rcases hv : nestB s with _ | _
  · skip
    have E := hid (show stepB s k = false by unfold stepB; rw [hv]; rfl)
    have E2 := hid (stepS_no E.out)
    have HV := hid hv
    clear hv
    have hB1 := Below.refl w.heap.size w
    have hB2 := hB1.alloc hB1.size (.cells #[.int .i64 s.d, .int .i64 s.w, .slice A1 s.m.length c1, .bool s.b] 25)
    clear hB1
    have x3 : At (w.alloc (.cells #[.int .i64 s.d, .int .i64 s.w, .slice A1 s.m.length c1, .bool s.b] 25)) (w.heap.size) 25 #[.int .i64 s.d, .int .i64 s.w, .slice A1 s.m.length c1, .bool s.b] := At.newAt _ _ (by first | rfl | (simp; done) | (simp; omega))
    have hB4 := hB2.alloc hB2.size (.cells #[.int .i64 0, .int .i64 0, .slice none 0 0, .bool false] 25)
    have x5 := x3.alloc (.cells #[.int .i64 0, .int .i64 0, .slice none 0 0, .bool false] 25)
    clear hB2 x3
    have r6 : At ((w.alloc (.cells #[.int .i64 s.d, .int .i64 s.w, .slice A1 s.m.length c1, .bool s.b] 25)).alloc (.cells #[.int .i64 0, .int .i64 0, .slice none 0 0, .bool false] 25)) (w.heap.size + 1) 25 #[.int .i64 0, .int .i64 0, .slice none 0 0, .bool false] := At.newAt _ _ (by first | rfl | (simp; done) | (simp; omega))
    go_enter Try.func13, Try.ntmps13
    obtain ⟨p0, p1, p2, p3, pl, pf⟩ := (⟨x5.cell 0, x5.cell 1, x5.cell 2, x5.cell 3, x5.lt, x5.frozen⟩ : _ ∧ _ ∧ _ ∧ _ ∧ _ ∧ _)
    obtain ⟨q0, q1, q2, q3, ql, qf⟩ := (⟨r6.cell 0, r6.cell 1, r6.cell 2, r6.cell 3, r6.lt, r6.frozen⟩ : _ ∧ _ ∧ _ ∧ _ ∧ _ ∧ _)
    have ne_pq : ¬ w.heap.size = w.heap.size + 1 := by omega
    have ne_qp : ¬ w.heap.size + 1 = w.heap.size := by omega
    go_wp2_with fail
    with_reducible refine (iValidNest_any s A1 c1 _ (h.on hB4) HC.out H1.out).mono ?_
    rintro e w1 ⟨he, hb1⟩
    rw [HV.out] at he
    subst he
    have sz1 : w.heap.size + 2 ≤ w1.heap.size := Nat.le_trans (by first | exact Nat.le_refl _ | (simp; done) | (simp; omega)) (hb1.size)
    have hB7 := hB4.trans (hb1.mono hB4.size)
    have x8 := x5.below hb1 x5.lt
    have r9 := r6.below hb1 r6.lt
    clear hB4 x5 r6
    clear p0 p1 p2 p3 pl pf q0 q1 q2 q3 ql qf ne_pq ne_qp
    obtain ⟨p0, p1, p2, p3, pl, pf⟩ := (⟨x8.cell 0, x8.cell 1, x8.cell 2, x8.cell 3, x8.lt, x8.frozen⟩ : _ ∧ _ ∧ _ ∧ _ ∧ _ ∧ _)
    obtain ⟨q0, q1, q2, q3, ql, qf⟩ := (⟨r9.cell 0, r9.cell 1, r9.cell 2, r9.cell 3, r9.lt, r9.frozen⟩ : _ ∧ _ ∧ _ ∧ _ ∧ _ ∧ _)
    have ne_pq : ¬ w.heap.size = w.heap.size + 1 := by omega
    have ne_qp : ¬ w.heap.size + 1 = w.heap.size := by omega
    have hB10 := below_put hB7 (grown_set w1 (w.heap.size + 1) 0 (.int .i64 0)) (by omega) (by have := hB7.size; omega)
    have x11 := x8.past (grown_set w1 (w.heap.size + 1) 0 (.int .i64 0)) (by omega)
    have r12 : At (w1.setCell ⟨w.heap.size + 1, 0, none⟩ (.int .i64 0)) (w.heap.size + 1) 25 #[.int .i64 0, .int .i64 0, .slice none 0 0, .bool false] := by simpa using r9.set 0 (.int .i64 0)
    clear hB7 x8 r9
    have hB13 := below_put hB10 (grown_set (w1.setCell ⟨w.heap.size + 1, 0, none⟩ (.int .i64 0)) (w.heap.size + 1) 1 (.int .i64 0)) (by omega) (by have := hB10.size; omega)
    have x14 := x11.past (grown_set (w1.setCell ⟨w.heap.size + 1, 0, none⟩ (.int .i64 0)) (w.heap.size + 1) 1 (.int .i64 0)) (by omega)
    have r15 : At ((w1.setCell ⟨w.heap.size + 1, 0, none⟩ (.int .i64 0)).setCell ⟨w.heap.size + 1, 1, none⟩ (.int .i64 0)) (w.heap.size + 1) 25 #[.int .i64 0, .int .i64 0, .slice none 0 0, .bool false] := by simpa using r12.set 1 (.int .i64 0)
    clear hB10 x11 r12
    have hB16 := below_put hB13 (grown_set ((w1.setCell ⟨w.heap.size + 1, 0, none⟩ (.int .i64 0)).setCell ⟨w.heap.size + 1, 1, none⟩ (.int .i64 0)) (w.heap.size + 1) 2 (.slice none 0 0)) (by omega) (by have := hB13.size; omega)
    have x17 := x14.past (grown_set ((w1.setCell ⟨w.heap.size + 1, 0, none⟩ (.int .i64 0)).setCell ⟨w.heap.size + 1, 1, none⟩ (.int .i64 0)) (w.heap.size + 1) 2 (.slice none 0 0)) (by omega)
    have r18 : At (((w1.setCell ⟨w.heap.size + 1, 0, none⟩ (.int .i64 0)).setCell ⟨w.heap.size + 1, 1, none⟩ (.int .i64 0)).setCell ⟨w.heap.size + 1, 2, none⟩ (.slice none 0 0)) (w.heap.size + 1) 25 #[.int .i64 0, .int .i64 0, .slice none 0 0, .bool false] := by simpa using r15.set 2 (.slice none 0 0)
    clear hB13 x14 r15
    have hB19 := below_put hB16 (grown_set (((w1.setCell ⟨w.heap.size + 1, 0, none⟩ (.int .i64 0)).setCell ⟨w.heap.size + 1, 1, none⟩ (.int .i64 0)).setCell ⟨w.heap.size + 1, 2, none⟩ (.slice none 0 0)) (w.heap.size + 1) 3 (.bool false)) (by omega) (by have := hB16.size; omega)
    have x20 := x17.past (grown_set (((w1.setCell ⟨w.heap.size + 1, 0, none⟩ (.int .i64 0)).setCell ⟨w.heap.size + 1, 1, none⟩ (.int .i64 0)).setCell ⟨w.heap.size + 1, 2, none⟩ (.slice none 0 0)) (w.heap.size + 1) 3 (.bool false)) (by omega)
    have r21 : At ((((w1.setCell ⟨w.heap.size + 1, 0, none⟩ (.int .i64 0)).setCell ⟨w.heap.size + 1, 1, none⟩ (.int .i64 0)).setCell ⟨w.heap.size + 1, 2, none⟩ (.slice none 0 0)).setCell ⟨w.heap.size + 1, 3, none⟩ (.bool false)) (w.heap.size + 1) 25 #[.int .i64 0, .int .i64 0, .slice none 0 0, .bool false] := by simpa using r18.set 3 (.bool false)
    clear hB16 x17 r18
    go_wp2
    refine bodyPost_ret (v := .tuple #[.agg #[.int .i64 0, .int .i64 0, .slice none 0 0, .bool false], .bool false]) (by simp [results, Try.results13, go_sem, r21.cell]) rfl ?_
    exact ⟨none, 0, by rw [E.out, E2.out]; rfl, by rw [E2.out]; exact OwnM.zero _ _, hB19⟩
  have HV := hid hv
  rcases hk : canB s k with _ | _
  · skip
    have E := hid (show stepB s k = false by unfold stepB; rw [hv, hk]; rfl)
    have E2 := hid (stepS_no E.out)
    have HK := hid hk
    clear hv hk
    have hB22 := Below.refl w.heap.size w
    have hB23 := hB22.alloc hB22.size (.cells #[.int .i64 s.d, .int .i64 s.w, .slice A1 s.m.length c1, .bool s.b] 25)
    clear hB22
    have x24 : At (w.alloc (.cells #[.int .i64 s.d, .int .i64 s.w, .slice A1 s.m.length c1, .bool s.b] 25)) (w.heap.size) 25 #[.int .i64 s.d, .int .i64 s.w, .slice A1 s.m.length c1, .bool s.b] := At.newAt _ _ (by first | rfl | (simp; done) | (simp; omega))
    have hB25 := hB23.alloc hB23.size (.cells #[.int .i64 0, .int .i64 0, .slice none 0 0, .bool false] 25)
    have x26 := x24.alloc (.cells #[.int .i64 0, .int .i64 0, .slice none 0 0, .bool false] 25)
    clear hB23 x24
    have r27 : At ((w.alloc (.cells #[.int .i64 s.d, .int .i64 s.w, .slice A1 s.m.length c1, .bool s.b] 25)).alloc (.cells #[.int .i64 0, .int .i64 0, .slice none 0 0, .bool false] 25)) (w.heap.size + 1) 25 #[.int .i64 0, .int .i64 0, .slice none 0 0, .bool false] := At.newAt _ _ (by first | rfl | (simp; done) | (simp; omega))
    go_enter Try.func13, Try.ntmps13
    obtain ⟨p0, p1, p2, p3, pl, pf⟩ := (⟨x26.cell 0, x26.cell 1, x26.cell 2, x26.cell 3, x26.lt, x26.frozen⟩ : _ ∧ _ ∧ _ ∧ _ ∧ _ ∧ _)
    obtain ⟨q0, q1, q2, q3, ql, qf⟩ := (⟨r27.cell 0, r27.cell 1, r27.cell 2, r27.cell 3, r27.lt, r27.frozen⟩ : _ ∧ _ ∧ _ ∧ _ ∧ _ ∧ _)
    have ne_pq : ¬ w.heap.size = w.heap.size + 1 := by omega
    have ne_qp : ¬ w.heap.size + 1 = w.heap.size := by omega
    go_wp2_with fail
    with_reducible refine (iValidNest_any s A1 c1 _ (h.on hB25) HC.out H1.out).mono ?_
    rintro e w1 ⟨he, hb1⟩
    rw [HV.out] at he
    subst he
    have sz1 : w.heap.size + 2 ≤ w1.heap.size := Nat.le_trans (by first | exact Nat.le_refl _ | (simp; done) | (simp; omega)) (hb1.size)
    have hB28 := hB25.trans (hb1.mono hB25.size)
    have x29 := x26.below hb1 x26.lt
    have r30 := r27.below hb1 r27.lt
    clear hB25 x26 r27
    clear p0 p1 p2 p3 pl pf q0 q1 q2 q3 ql qf ne_pq ne_qp
    obtain ⟨p0, p1, p2, p3, pl, pf⟩ := (⟨x29.cell 0, x29.cell 1, x29.cell 2, x29.cell 3, x29.lt, x29.frozen⟩ : _ ∧ _ ∧ _ ∧ _ ∧ _ ∧ _)
    obtain ⟨q0, q1, q2, q3, ql, qf⟩ := (⟨r30.cell 0, r30.cell 1, r30.cell 2, r30.cell 3, r30.lt, r30.frozen⟩ : _ ∧ _ ∧ _ ∧ _ ∧ _ ∧ _)
    have ne_pq : ¬ w.heap.size = w.heap.size + 1 := by omega
    have ne_qp : ¬ w.heap.size + 1 = w.heap.size := by omega
    go_wp2_with fail
    with_reducible refine (canStep_any s k A1 c1 _).mono ?_
    rintro e w2 ⟨he, hb2⟩
    rw [HK.out] at he
    subst he
    have sz2 : w1.heap.size ≤ w2.heap.size := Nat.le_trans (by first | exact Nat.le_refl _ | (simp; done) | (simp; omega)) (hb2.size)
    have hB31 := hB28.trans (hb2.mono hB28.size)
    have x32 := x29.below hb2 x29.lt
    have r33 := r30.below hb2 r30.lt
    clear hB28 x29 r30
    clear p0 p1 p2 p3 pl pf q0 q1 q2 q3 ql qf ne_pq ne_qp
    obtain ⟨p0, p1, p2, p3, pl, pf⟩ := (⟨x32.cell 0, x32.cell 1, x32.cell 2, x32.cell 3, x32.lt, x32.frozen⟩ : _ ∧ _ ∧ _ ∧ _ ∧ _ ∧ _)
    obtain ⟨q0, q1, q2, q3, ql, qf⟩ := (⟨r33.cell 0, r33.cell 1, r33.cell 2, r33.cell 3, r33.lt, r33.frozen⟩ : _ ∧ _ ∧ _ ∧ _ ∧ _ ∧ _)
    have ne_pq : ¬ w.heap.size = w.heap.size + 1 := by omega
    have ne_qp : ¬ w.heap.size + 1 = w.heap.size := by omega
    have hB34 := below_put hB31 (grown_set w2 (w.heap.size + 1) 0 (.int .i64 0)) (by omega) (by have := hB31.size; omega)
    have x35 := x32.past (grown_set w2 (w.heap.size + 1) 0 (.int .i64 0)) (by omega)
    have r36 : At (w2.setCell ⟨w.heap.size + 1, 0, none⟩ (.int .i64 0)) (w.heap.size + 1) 25 #[.int .i64 0, .int .i64 0, .slice none 0 0, .bool false] := by simpa using r33.set 0 (.int .i64 0)
    clear hB31 x32 r33
    have hB37 := below_put hB34 (grown_set (w2.setCell ⟨w.heap.size + 1, 0, none⟩ (.int .i64 0)) (w.heap.size + 1) 1 (.int .i64 0)) (by omega) (by have := hB34.size; omega)
    have x38 := x35.past (grown_set (w2.setCell ⟨w.heap.size + 1, 0, none⟩ (.int .i64 0)) (w.heap.size + 1) 1 (.int .i64 0)) (by omega)
    have r39 : At ((w2.setCell ⟨w.heap.size + 1, 0, none⟩ (.int .i64 0)).setCell ⟨w.heap.size + 1, 1, none⟩ (.int .i64 0)) (w.heap.size + 1) 25 #[.int .i64 0, .int .i64 0, .slice none 0 0, .bool false] := by simpa using r36.set 1 (.int .i64 0)
    clear hB34 x35 r36
    have hB40 := below_put hB37 (grown_set ((w2.setCell ⟨w.heap.size + 1, 0, none⟩ (.int .i64 0)).setCell ⟨w.heap.size + 1, 1, none⟩ (.int .i64 0)) (w.heap.size + 1) 2 (.slice none 0 0)) (by omega) (by have := hB37.size; omega)
    have x41 := x38.past (grown_set ((w2.setCell ⟨w.heap.size + 1, 0, none⟩ (.int .i64 0)).setCell ⟨w.heap.size + 1, 1, none⟩ (.int .i64 0)) (w.heap.size + 1) 2 (.slice none 0 0)) (by omega)
    have r42 : At (((w2.setCell ⟨w.heap.size + 1, 0, none⟩ (.int .i64 0)).setCell ⟨w.heap.size + 1, 1, none⟩ (.int .i64 0)).setCell ⟨w.heap.size + 1, 2, none⟩ (.slice none 0 0)) (w.heap.size + 1) 25 #[.int .i64 0, .int .i64 0, .slice none 0 0, .bool false] := by simpa using r39.set 2 (.slice none 0 0)
    clear hB37 x38 r39
    have hB43 := below_put hB40 (grown_set (((w2.setCell ⟨w.heap.size + 1, 0, none⟩ (.int .i64 0)).setCell ⟨w.heap.size + 1, 1, none⟩ (.int .i64 0)).setCell ⟨w.heap.size + 1, 2, none⟩ (.slice none 0 0)) (w.heap.size + 1) 3 (.bool false)) (by omega) (by have := hB40.size; omega)
    have x44 := x41.past (grown_set (((w2.setCell ⟨w.heap.size + 1, 0, none⟩ (.int .i64 0)).setCell ⟨w.heap.size + 1, 1, none⟩ (.int .i64 0)).setCell ⟨w.heap.size + 1, 2, none⟩ (.slice none 0 0)) (w.heap.size + 1) 3 (.bool false)) (by omega)
    have r45 : At ((((w2.setCell ⟨w.heap.size + 1, 0, none⟩ (.int .i64 0)).setCell ⟨w.heap.size + 1, 1, none⟩ (.int .i64 0)).setCell ⟨w.heap.size + 1, 2, none⟩ (.slice none 0 0)).setCell ⟨w.heap.size + 1, 3, none⟩ (.bool false)) (w.heap.size + 1) 25 #[.int .i64 0, .int .i64 0, .slice none 0 0, .bool false] := by simpa using r42.set 3 (.bool false)
    clear hB40 x41 r42
    go_wp2
    refine bodyPost_ret (v := .tuple #[.agg #[.int .i64 0, .int .i64 0, .slice none 0 0, .bool false], .bool false]) (by simp [results, Try.results13, go_sem, r45.cell]) rfl ?_
    exact ⟨none, 0, by rw [E.out, E2.out]; rfl, by rw [E2.out]; exact OwnM.zero _ _, hB43⟩
  have E : Hid (stepB s k = true) := hid (by unfold stepB; rw [hv, hk]; rfl)
  have E2 := hid (stepS_yes E.out)
  have HK := hid hk
  have hok := nestB_iff.1 hv
  have HOK := hid hok
  have hk5 := can_kind hk
  have HPOS := hid (fun (h0 : k ≠ 0) => can_pos hok hk h0)
  have hm4 := ok_len hok
  have hw12 := hok.2.1
  have hd4 := hok.1
  clear hv hk hok
  rcases hk5 with rfl | rfl | rfl | rfl | rfl
  · skip
    have hw1 : IntKind.i64.wrap (s.d + 1) = s.d + 1 := by rw [IntKind.wrap_i64]; omega
    have hB46 := Below.refl w.heap.size w
    have hB47 := hB46.alloc hB46.size (.cells #[.int .i64 s.d, .int .i64 s.w, .slice A1 s.m.length c1, .bool s.b] 25)
    clear hB46
    have x48 : At (w.alloc (.cells #[.int .i64 s.d, .int .i64 s.w, .slice A1 s.m.length c1, .bool s.b] 25)) (w.heap.size) 25 #[.int .i64 s.d, .int .i64 s.w, .slice A1 s.m.length c1, .bool s.b] := At.newAt _ _ (by first | rfl | (simp; done) | (simp; omega))
    have hB49 := hB47.alloc hB47.size (.cells #[.int .i64 0, .int .i64 0, .slice none 0 0, .bool false] 25)
    have x50 := x48.alloc (.cells #[.int .i64 0, .int .i64 0, .slice none 0 0, .bool false] 25)
    clear hB47 x48
    have r51 : At ((w.alloc (.cells #[.int .i64 s.d, .int .i64 s.w, .slice A1 s.m.length c1, .bool s.b] 25)).alloc (.cells #[.int .i64 0, .int .i64 0, .slice none 0 0, .bool false] 25)) (w.heap.size + 1) 25 #[.int .i64 0, .int .i64 0, .slice none 0 0, .bool false] := At.newAt _ _ (by first | rfl | (simp; done) | (simp; omega))
    go_enter Try.func13, Try.ntmps13
    obtain ⟨p0, p1, p2, p3, pl, pf⟩ := (⟨x50.cell 0, x50.cell 1, x50.cell 2, x50.cell 3, x50.lt, x50.frozen⟩ : _ ∧ _ ∧ _ ∧ _ ∧ _ ∧ _)
    obtain ⟨q0, q1, q2, q3, ql, qf⟩ := (⟨r51.cell 0, r51.cell 1, r51.cell 2, r51.cell 3, r51.lt, r51.frozen⟩ : _ ∧ _ ∧ _ ∧ _ ∧ _ ∧ _)
    have ne_pq : ¬ w.heap.size = w.heap.size + 1 := by omega
    have ne_qp : ¬ w.heap.size + 1 = w.heap.size := by omega
    go_wp2_with fail
    with_reducible refine (iValidNest_any s A1 c1 _ (h.on hB49) HC.out H1.out).mono ?_
    rintro e w1 ⟨he, hb1⟩
    rw [HV.out] at he
    subst he
    have sz1 : w.heap.size + 2 ≤ w1.heap.size := Nat.le_trans (by first | exact Nat.le_refl _ | (simp; done) | (simp; omega)) (hb1.size)
    have hB52 := hB49.trans (hb1.mono hB49.size)
    have x53 := x50.below hb1 x50.lt
    have r54 := r51.below hb1 r51.lt
    clear hB49 x50 r51
    clear p0 p1 p2 p3 pl pf q0 q1 q2 q3 ql qf ne_pq ne_qp
    obtain ⟨p0, p1, p2, p3, pl, pf⟩ := (⟨x53.cell 0, x53.cell 1, x53.cell 2, x53.cell 3, x53.lt, x53.frozen⟩ : _ ∧ _ ∧ _ ∧ _ ∧ _ ∧ _)
    obtain ⟨q0, q1, q2, q3, ql, qf⟩ := (⟨r54.cell 0, r54.cell 1, r54.cell 2, r54.cell 3, r54.lt, r54.frozen⟩ : _ ∧ _ ∧ _ ∧ _ ∧ _ ∧ _)
    have ne_pq : ¬ w.heap.size = w.heap.size + 1 := by omega
    have ne_qp : ¬ w.heap.size + 1 = w.heap.size := by omega
    go_wp2_with fail
    with_reducible refine (canStep_any s 0 A1 c1 _).mono ?_
    rintro e w2 ⟨he, hb2⟩
    rw [HK.out] at he
    subst he
    have sz2 : w1.heap.size ≤ w2.heap.size := Nat.le_trans (by first | exact Nat.le_refl _ | (simp; done) | (simp; omega)) (hb2.size)
    have hB55 := hB52.trans (hb2.mono hB52.size)
    have x56 := x53.below hb2 x53.lt
    have r57 := r54.below hb2 r54.lt
    clear hB52 x53 r54
    clear p0 p1 p2 p3 pl pf q0 q1 q2 q3 ql qf ne_pq ne_qp
    have hsx := (h.on hB55)
    have hsd := hsx.drew
    have xd := x56.drew
    have rd := r57.drew
    have bd := hB55.drew
    obtain ⟨p0, p1, p2, p3, pl, pf⟩ := (⟨x56.cell 0, x56.cell 1, x56.cell 2, x56.cell 3, x56.lt, x56.frozen⟩ : _ ∧ _ ∧ _ ∧ _ ∧ _ ∧ _)
    obtain ⟨q0, q1, q2, q3, ql, qf⟩ := (⟨r57.cell 0, r57.cell 1, r57.cell 2, r57.cell 3, r57.lt, r57.frozen⟩ : _ ∧ _ ∧ _ ∧ _ ∧ _ ∧ _)
    have ne_pq : ¬ w.heap.size = w.heap.size + 1 := by omega
    have ne_qp : ¬ w.heap.size + 1 = w.heap.size := by omega
    go_upto_region 3 with fail
    go_cut [6] from 17 to 26 (fun v6 wx => ∃ (g8 : Nat) (Aa : Option Addr) (ca : Nat), v6 = .pointer (some ⟨g8, 0, none⟩) ∧ At wx g8 25 #[.int .i64 s.d, .int .i64 s.w, .slice Aa s.m.length ca, .bool s.b] ∧ At wx w.heap.size 25 #[.int .i64 s.d, .int .i64 s.w, .slice A1 s.m.length c1, .bool s.b] ∧ At wx (w.heap.size + 1) 25 #[.int .i64 0, .int .i64 0, .slice none 0 0, .bool false] ∧ OwnM wx (w.heap.size + 2) Aa ca s ∧ Below w.heap.size w wx ∧ w.heap.size + 2 ≤ g8)
    case first =>
      have hzd : w.heap.size + 2 ≤ w2.heap.size := by have := r57.lt; omega
      have nz1 : ¬ w.heap.size = w2.heap.size := by omega
      have nz2 : ¬ w2.heap.size = w.heap.size := by omega
      go_region_held3 (fun w' => w'.cell? ⟨w.heap.size, 0, none⟩ = some (.int .i64 s.d) ∧ w'.cell? ⟨w.heap.size, 1, none⟩ = some (.int .i64 s.w) ∧ w'.cell? ⟨w.heap.size, 2, none⟩ = some (.slice A1 s.m.length c1) ∧ w'.cell? ⟨w.heap.size, 3, none⟩ = some (.bool s.b))
        (first | with_reducible exact ⟨p0, p1, p2, p3⟩ | with_reducible exact ⟨a0, a1, a2, a3⟩ | go_keep)
        (first
          | (go_at_call 32; (with_reducible refine (copyNumbers_any A1 c1 s.m _ (by first | exact hsd.marks | exact ((hsx.alloc _).drew).marks) H1.out).mono ?_); rintro e wa ⟨va, rfl, hoa, hba⟩; obtain ⟨Aa, ca, rfl, _⟩ := hoa.form; have pxa := (by first | exact xd.below hba xd.lt | exact ((x56.alloc _).drew).below hba ((x56.alloc _).drew).lt : At wa w.heap.size 25 #[.int .i64 s.d, .int .i64 s.w, .slice A1 s.m.length c1, .bool s.b]); have pra := (by first | exact rd.below hba rd.lt | exact ((r57.alloc _).drew).below hba ((r57.alloc _).drew).lt : At wa (w.heap.size + 1) 25 #[.int .i64 0, .int .i64 0, .slice none 0 0, .bool false]); have hoam := (by first | exact OwnM.mono (show OwnM wa _ Aa ca s from hoa) hzd | exact OwnM.mono (show OwnM wa _ Aa ca s from hoa) (Nat.le_trans hzd (Nat.le_of_lt (by simp))) : OwnM wa (w.heap.size + 2) Aa ca s); have hbA := (by first | exact bd.trans (hba.mono bd.size) | exact ((hB55.alloc hB55.size _).drew).trans (hba.mono ((hB55.alloc hB55.size _).drew).size) : Below w.heap.size w wa); have hza := (by first | exact hba.size | exact Nat.le_trans (Nat.le_of_lt (by simp)) hba.size : w2.heap.size ≤ wa.heap.size); obtain ⟨a0, a1, a2, a3, al, af⟩ := pxa.four; have na1 : ¬ w.heap.size = wa.heap.size := Nat.ne_of_lt al; have na2 : ¬ wa.heap.size = w.heap.size := fun e => Nat.ne_of_lt al e.symm; (try have pza := ((At.newAt 25 #[.int .i64 0, .int .i64 0, .slice none 0 0, .bool false] rfl).drew : At ((w2.alloc (.cells #[.int .i64 0, .int .i64 0, .slice none 0 0, .bool false] 25)).drew) w2.heap.size 25 #[.int .i64 0, .int .i64 0, .slice none 0 0, .bool false]).below hba (by simp)); (try have pzc := pza.cell); (try have pzf := pza.frozen))
          | fail)
      all_goals
        go_wp2_with fail
        clear a0 a1 a2 a3 af hoa
        go_meet
        first
          | (obtain ⟨hp8, hg8⟩ := four_put (.int .i64 s.d) (.int .i64 s.w) (.slice Aa s.m.length ca) (.bool s.b) pza rfl
             exact ⟨_, _, _, rfl, hp8, pxa.past hg8 (by omega), pra.past hg8 (by omega), hoam.past4 pza hg8, below_put hbA hg8 (by omega) hbA.size, by omega⟩)
          | exact ⟨_, _, _, rfl, At.newAt _ _ rfl, pxa.alloc _, pra.alloc _, hoam.alloc _, hbA.alloc hbA.size _, by omega⟩
    case rest =>
      obtain ⟨g8, Aa, ca, rfl, pt8, px8, pr8, hO8, hB8, hz8⟩ := hcut
      have hzc : w.heap.size + 2 ≤ wc.heap.size := by have := pr8.lt; omega
      clear hsx hsd xd rd bd x56 r57 hB55 p0 p1 p2 p3 pl pf q0 q1 q2 q3 ql qf ne_pq ne_qp
      have t58 := pt8
      clear pt8
      have x59 := px8
      clear px8
      have r60 := pr8
      clear pr8
      have o61 := hO8
      clear hO8
      have hB62 := hB8
      clear hB8
      obtain ⟨t0, t1, t2, t3, tl, tf⟩ := (⟨t58.cell 0, t58.cell 1, t58.cell 2, t58.cell 3, t58.lt, t58.frozen⟩ : _ ∧ _ ∧ _ ∧ _ ∧ _ ∧ _)
      obtain ⟨p0, p1, p2, p3, pl, pf⟩ := (⟨x59.cell 0, x59.cell 1, x59.cell 2, x59.cell 3, x59.lt, x59.frozen⟩ : _ ∧ _ ∧ _ ∧ _ ∧ _ ∧ _)
      obtain ⟨q0, q1, q2, q3, ql, qf⟩ := (⟨r60.cell 0, r60.cell 1, r60.cell 2, r60.cell 3, r60.lt, r60.frozen⟩ : _ ∧ _ ∧ _ ∧ _ ∧ _ ∧ _)
      have ne_tp : ¬ g8 = w.heap.size := by omega
      have ne_pt : ¬ w.heap.size = g8 := by omega
      have ne_tq : ¬ g8 = w.heap.size + 1 := by omega
      have ne_qt : ¬ w.heap.size + 1 = g8 := by omega
      have ne_pq : ¬ w.heap.size = w.heap.size + 1 := by omega
      have ne_qp : ¬ w.heap.size + 1 = w.heap.size := by omega
      have x63 := x59.past (grown_set wc (g8) 0 (.int .i64 (s.d + 1))) (by omega)
      have r64 := r60.past (grown_set wc (g8) 0 (.int .i64 (s.d + 1))) (by omega)
      have o65 := o61.past4 t58 (grown_set wc (g8) 0 (.int .i64 (s.d + 1)))
      have hB66 := below_put hB62 (grown_set wc (g8) 0 (.int .i64 (s.d + 1))) (by omega) (by have := hB62.size; omega)
      have t67 : At (wc.setCell ⟨g8, 0, none⟩ (.int .i64 (s.d + 1))) (g8) 25 #[.int .i64 (s.d + 1), .int .i64 s.w, .slice Aa s.m.length ca, .bool s.b] := by simpa using t58.set 0 (.int .i64 (s.d + 1))
      clear x59 r60 o61 hB62 t58
      have t68 := t67.alloc (.cells #[.int .i64 s.w] 3)
      have x69 := x63.alloc (.cells #[.int .i64 s.w] 3)
      have r70 := r64.alloc (.cells #[.int .i64 s.w] 3)
      have o71 := o65.alloc (.cells #[.int .i64 s.w] 3)
      have hB72 := hB66.alloc hB66.size (.cells #[.int .i64 s.w] 3)
      clear t67 x63 r64 o65 hB66
      have hown := o71.own.out
      have hlow := hown.lt
      go_wp2_with (at_builtin; refine wpList_append_own_at _ rfl _ _ 23 rfl (w.heap.size + 2) 3 i0 (.int .i64 0) 1 8 Try.underlying23 hi0 hz0 hz1 hz2 rfl (by decide) _ _ _ rfl hown ⟨wc.heap.size, 0, none⟩ 1 1 [.int .i64 s.w] rfl rfl (by first | exact cell_one_new _ _ _ | simpa using cell_one_new (wc.setCell ⟨g8, 0, none⟩ (.int .i64 (s.d + 1))) (.int .i64 s.w) 3) ?c2 ?c3 ?c4 ?c5 ?_)
      case c2 => simp [Value.oneCell']
      case c3 => have := H1.out; unfold maxLen; omega
      case c4 => have := H1.out; omega
      case c5 => first | omega | (simp; omega) | (simp; done)
      case _ =>
        intro v3 w3 h1 hg1 _ _
        have sz3 : wc.heap.size + 1 ≤ w3.heap.size := Nat.le_trans (by first | exact Nat.le_refl _ | (simp; done)) hg1.size
        have t73 := t68.beside hown (by decide) hg1
        clear t68
        have x74 := x69.beside hown (by decide) hg1
        clear x69
        have r75 := r70.beside hown (by decide) hg1
        clear r70
        have hB76 := hB72.grown hg1 hB72.size (fun q hq => Nat.le_trans (by omega) (hlow q hq).1)
        clear hB72
        obtain ⟨R, hR⟩ : ∃ R : Nst, R = stepC s 0 := ⟨_, rfl⟩
        have HRm := hid (show R.m = s.m ++ [s.w] by rw [hR]; rfl)
        have HRl := hid (show R.m.length = s.m.length + 1 by rw [HRm.out, List.length_append]; rfl)
        have HR := hid (show R = ⟨s.d + 1, s.w, R.m, s.b⟩ by rw [hR]; rfl)
        rw [← hR] at E2
        clear hR
        have ho3 : Own w3 (w.heap.size + 2) v3 R.m := by unfold Own; rw [HRm.out, ints_app, List.length_append]; exact h1
        obtain ⟨A3, c3, rfl, _, _⟩ := own_form ho3.out
        clear o71 h1 hg1 hown hlow t0 t1 t2 t3 tl tf p0 p1 p2 p3 pl pf q0 q1 q2 q3 ql qf ne_tp ne_pt ne_tq ne_qt ne_pq ne_qp
        have o77 : OwnM w3 (w.heap.size + 2) A3 c3 R := ho3
        clear ho3
        obtain ⟨t0, t1, t2, t3, tl, tf⟩ := (⟨t73.cell 0, t73.cell 1, t73.cell 2, t73.cell 3, t73.lt, t73.frozen⟩ : _ ∧ _ ∧ _ ∧ _ ∧ _ ∧ _)
        obtain ⟨p0, p1, p2, p3, pl, pf⟩ := (⟨x74.cell 0, x74.cell 1, x74.cell 2, x74.cell 3, x74.lt, x74.frozen⟩ : _ ∧ _ ∧ _ ∧ _ ∧ _ ∧ _)
        obtain ⟨q0, q1, q2, q3, ql, qf⟩ := (⟨r75.cell 0, r75.cell 1, r75.cell 2, r75.cell 3, r75.lt, r75.frozen⟩ : _ ∧ _ ∧ _ ∧ _ ∧ _ ∧ _)
        have ne_tp : ¬ g8 = w.heap.size := by omega
        have ne_pt : ¬ w.heap.size = g8 := by omega
        have ne_tq : ¬ g8 = w.heap.size + 1 := by omega
        have ne_qt : ¬ w.heap.size + 1 = g8 := by omega
        have ne_pq : ¬ w.heap.size = w.heap.size + 1 := by omega
        have ne_qp : ¬ w.heap.size + 1 = w.heap.size := by omega
        have x78 := x74.past (grown_set w3 (g8) 2 (.slice A3 R.m.length c3)) (by omega)
        have r79 := r75.past (grown_set w3 (g8) 2 (.slice A3 R.m.length c3)) (by omega)
        have hB80 := below_put hB76 (grown_set w3 (g8) 2 (.slice A3 R.m.length c3)) (by omega) (by have := hB76.size; omega)
        have o81 := o77.past4 t73 (grown_set w3 (g8) 2 (.slice A3 R.m.length c3))
        have t82 : At (w3.setCell ⟨g8, 2, none⟩ (.slice A3 R.m.length c3)) (g8) 25 #[.int .i64 (s.d + 1), .int .i64 s.w, .slice A3 R.m.length c3, .bool s.b] := by simpa using t73.set 2 (.slice A3 R.m.length c3)
        clear x74 r75 hB76 o77 t73
        obtain ⟨t0, t1, t2, t3, tl, tf⟩ := (⟨t82.cell 0, t82.cell 1, t82.cell 2, t82.cell 3, t82.lt, t82.frozen⟩ : _ ∧ _ ∧ _ ∧ _ ∧ _ ∧ _)
        obtain ⟨p0, p1, p2, p3, pl, pf⟩ := (⟨x78.cell 0, x78.cell 1, x78.cell 2, x78.cell 3, x78.lt, x78.frozen⟩ : _ ∧ _ ∧ _ ∧ _ ∧ _ ∧ _)
        obtain ⟨q0, q1, q2, q3, ql, qf⟩ := (⟨r79.cell 0, r79.cell 1, r79.cell 2, r79.cell 3, r79.lt, r79.frozen⟩ : _ ∧ _ ∧ _ ∧ _ ∧ _ ∧ _)
        have ne_tp : ¬ g8 = w.heap.size := by omega
        have ne_pt : ¬ w.heap.size = g8 := by omega
        have ne_tq : ¬ g8 = w.heap.size + 1 := by omega
        have ne_qt : ¬ w.heap.size + 1 = g8 := by omega
        have ne_pq : ¬ w.heap.size = w.heap.size + 1 := by omega
        have ne_qp : ¬ w.heap.size + 1 = w.heap.size := by omega
        have t83 := t82.past (grown_set (w3.setCell ⟨g8, 2, none⟩ (.slice A3 R.m.length c3)) (w.heap.size + 1) 0 (.int .i64 (s.d + 1))) (by omega)
        have x84 := x78.past (grown_set (w3.setCell ⟨g8, 2, none⟩ (.slice A3 R.m.length c3)) (w.heap.size + 1) 0 (.int .i64 (s.d + 1))) (by omega)
        have hB85 := below_put hB80 (grown_set (w3.setCell ⟨g8, 2, none⟩ (.slice A3 R.m.length c3)) (w.heap.size + 1) 0 (.int .i64 (s.d + 1))) (by omega) (by have := hB80.size; omega)
        have o86 := o81.past4 r79 (grown_set (w3.setCell ⟨g8, 2, none⟩ (.slice A3 R.m.length c3)) (w.heap.size + 1) 0 (.int .i64 (s.d + 1)))
        have r87 : At ((w3.setCell ⟨g8, 2, none⟩ (.slice A3 R.m.length c3)).setCell ⟨w.heap.size + 1, 0, none⟩ (.int .i64 (s.d + 1))) (w.heap.size + 1) 25 #[.int .i64 (s.d + 1), .int .i64 0, .slice none 0 0, .bool false] := by simpa using r79.set 0 (.int .i64 (s.d + 1))
        clear t82 x78 hB80 o81 r79
        have t88 := t83.past (grown_set ((w3.setCell ⟨g8, 2, none⟩ (.slice A3 R.m.length c3)).setCell ⟨w.heap.size + 1, 0, none⟩ (.int .i64 (s.d + 1))) (w.heap.size + 1) 1 (.int .i64 s.w)) (by omega)
        have x89 := x84.past (grown_set ((w3.setCell ⟨g8, 2, none⟩ (.slice A3 R.m.length c3)).setCell ⟨w.heap.size + 1, 0, none⟩ (.int .i64 (s.d + 1))) (w.heap.size + 1) 1 (.int .i64 s.w)) (by omega)
        have hB90 := below_put hB85 (grown_set ((w3.setCell ⟨g8, 2, none⟩ (.slice A3 R.m.length c3)).setCell ⟨w.heap.size + 1, 0, none⟩ (.int .i64 (s.d + 1))) (w.heap.size + 1) 1 (.int .i64 s.w)) (by omega) (by have := hB85.size; omega)
        have o91 := o86.past4 r87 (grown_set ((w3.setCell ⟨g8, 2, none⟩ (.slice A3 R.m.length c3)).setCell ⟨w.heap.size + 1, 0, none⟩ (.int .i64 (s.d + 1))) (w.heap.size + 1) 1 (.int .i64 s.w))
        have r92 : At (((w3.setCell ⟨g8, 2, none⟩ (.slice A3 R.m.length c3)).setCell ⟨w.heap.size + 1, 0, none⟩ (.int .i64 (s.d + 1))).setCell ⟨w.heap.size + 1, 1, none⟩ (.int .i64 s.w)) (w.heap.size + 1) 25 #[.int .i64 (s.d + 1), .int .i64 s.w, .slice none 0 0, .bool false] := by simpa using r87.set 1 (.int .i64 s.w)
        clear t83 x84 hB85 o86 r87
        have t93 := t88.past (grown_set (((w3.setCell ⟨g8, 2, none⟩ (.slice A3 R.m.length c3)).setCell ⟨w.heap.size + 1, 0, none⟩ (.int .i64 (s.d + 1))).setCell ⟨w.heap.size + 1, 1, none⟩ (.int .i64 s.w)) (w.heap.size + 1) 2 (.slice A3 R.m.length c3)) (by omega)
        have x94 := x89.past (grown_set (((w3.setCell ⟨g8, 2, none⟩ (.slice A3 R.m.length c3)).setCell ⟨w.heap.size + 1, 0, none⟩ (.int .i64 (s.d + 1))).setCell ⟨w.heap.size + 1, 1, none⟩ (.int .i64 s.w)) (w.heap.size + 1) 2 (.slice A3 R.m.length c3)) (by omega)
        have hB95 := below_put hB90 (grown_set (((w3.setCell ⟨g8, 2, none⟩ (.slice A3 R.m.length c3)).setCell ⟨w.heap.size + 1, 0, none⟩ (.int .i64 (s.d + 1))).setCell ⟨w.heap.size + 1, 1, none⟩ (.int .i64 s.w)) (w.heap.size + 1) 2 (.slice A3 R.m.length c3)) (by omega) (by have := hB90.size; omega)
        have o96 := o91.past4 r92 (grown_set (((w3.setCell ⟨g8, 2, none⟩ (.slice A3 R.m.length c3)).setCell ⟨w.heap.size + 1, 0, none⟩ (.int .i64 (s.d + 1))).setCell ⟨w.heap.size + 1, 1, none⟩ (.int .i64 s.w)) (w.heap.size + 1) 2 (.slice A3 R.m.length c3))
        have r97 : At ((((w3.setCell ⟨g8, 2, none⟩ (.slice A3 R.m.length c3)).setCell ⟨w.heap.size + 1, 0, none⟩ (.int .i64 (s.d + 1))).setCell ⟨w.heap.size + 1, 1, none⟩ (.int .i64 s.w)).setCell ⟨w.heap.size + 1, 2, none⟩ (.slice A3 R.m.length c3)) (w.heap.size + 1) 25 #[.int .i64 (s.d + 1), .int .i64 s.w, .slice A3 R.m.length c3, .bool false] := by simpa using r92.set 2 (.slice A3 R.m.length c3)
        clear t88 x89 hB90 o91 r92
        have t98 := t93.past (grown_set ((((w3.setCell ⟨g8, 2, none⟩ (.slice A3 R.m.length c3)).setCell ⟨w.heap.size + 1, 0, none⟩ (.int .i64 (s.d + 1))).setCell ⟨w.heap.size + 1, 1, none⟩ (.int .i64 s.w)).setCell ⟨w.heap.size + 1, 2, none⟩ (.slice A3 R.m.length c3)) (w.heap.size + 1) 3 (.bool s.b)) (by omega)
        have x99 := x94.past (grown_set ((((w3.setCell ⟨g8, 2, none⟩ (.slice A3 R.m.length c3)).setCell ⟨w.heap.size + 1, 0, none⟩ (.int .i64 (s.d + 1))).setCell ⟨w.heap.size + 1, 1, none⟩ (.int .i64 s.w)).setCell ⟨w.heap.size + 1, 2, none⟩ (.slice A3 R.m.length c3)) (w.heap.size + 1) 3 (.bool s.b)) (by omega)
        have hB100 := below_put hB95 (grown_set ((((w3.setCell ⟨g8, 2, none⟩ (.slice A3 R.m.length c3)).setCell ⟨w.heap.size + 1, 0, none⟩ (.int .i64 (s.d + 1))).setCell ⟨w.heap.size + 1, 1, none⟩ (.int .i64 s.w)).setCell ⟨w.heap.size + 1, 2, none⟩ (.slice A3 R.m.length c3)) (w.heap.size + 1) 3 (.bool s.b)) (by omega) (by have := hB95.size; omega)
        have o101 := o96.past4 r97 (grown_set ((((w3.setCell ⟨g8, 2, none⟩ (.slice A3 R.m.length c3)).setCell ⟨w.heap.size + 1, 0, none⟩ (.int .i64 (s.d + 1))).setCell ⟨w.heap.size + 1, 1, none⟩ (.int .i64 s.w)).setCell ⟨w.heap.size + 1, 2, none⟩ (.slice A3 R.m.length c3)) (w.heap.size + 1) 3 (.bool s.b))
        have r102 : At (((((w3.setCell ⟨g8, 2, none⟩ (.slice A3 R.m.length c3)).setCell ⟨w.heap.size + 1, 0, none⟩ (.int .i64 (s.d + 1))).setCell ⟨w.heap.size + 1, 1, none⟩ (.int .i64 s.w)).setCell ⟨w.heap.size + 1, 2, none⟩ (.slice A3 R.m.length c3)).setCell ⟨w.heap.size + 1, 3, none⟩ (.bool s.b)) (w.heap.size + 1) 25 #[.int .i64 (s.d + 1), .int .i64 s.w, .slice A3 R.m.length c3, .bool s.b] := by simpa using r97.set 3 (.bool s.b)
        clear t93 x94 hB95 o96 r97
        go_wp2
        refine bodyPost_ret (v := .tuple #[.agg #[.int .i64 (s.d + 1), .int .i64 s.w, .slice A3 R.m.length c3, .bool s.b], .bool true]) (by simp [results, Try.results13, go_sem, r102.cell]) rfl ?_
        exact ⟨A3, c3, by rw [E.out, E2.out, HR.out], by rw [E2.out]; exact o101.mono (by omega), hB100⟩
  · skip
    have HDP := hid (HPOS.out (by decide))
    have hw1 : IntKind.i64.wrap (s.w + 1) = s.w + 1 := by rw [IntKind.wrap_i64]; omega
    have hB103 := Below.refl w.heap.size w
    have hB104 := hB103.alloc hB103.size (.cells #[.int .i64 s.d, .int .i64 s.w, .slice A1 s.m.length c1, .bool s.b] 25)
    clear hB103
    have x105 : At (w.alloc (.cells #[.int .i64 s.d, .int .i64 s.w, .slice A1 s.m.length c1, .bool s.b] 25)) (w.heap.size) 25 #[.int .i64 s.d, .int .i64 s.w, .slice A1 s.m.length c1, .bool s.b] := At.newAt _ _ (by first | rfl | (simp; done) | (simp; omega))
    have hB106 := hB104.alloc hB104.size (.cells #[.int .i64 0, .int .i64 0, .slice none 0 0, .bool false] 25)
    have x107 := x105.alloc (.cells #[.int .i64 0, .int .i64 0, .slice none 0 0, .bool false] 25)
    clear hB104 x105
    have r108 : At ((w.alloc (.cells #[.int .i64 s.d, .int .i64 s.w, .slice A1 s.m.length c1, .bool s.b] 25)).alloc (.cells #[.int .i64 0, .int .i64 0, .slice none 0 0, .bool false] 25)) (w.heap.size + 1) 25 #[.int .i64 0, .int .i64 0, .slice none 0 0, .bool false] := At.newAt _ _ (by first | rfl | (simp; done) | (simp; omega))
    go_enter Try.func13, Try.ntmps13
    obtain ⟨p0, p1, p2, p3, pl, pf⟩ := (⟨x107.cell 0, x107.cell 1, x107.cell 2, x107.cell 3, x107.lt, x107.frozen⟩ : _ ∧ _ ∧ _ ∧ _ ∧ _ ∧ _)
    obtain ⟨q0, q1, q2, q3, ql, qf⟩ := (⟨r108.cell 0, r108.cell 1, r108.cell 2, r108.cell 3, r108.lt, r108.frozen⟩ : _ ∧ _ ∧ _ ∧ _ ∧ _ ∧ _)
    have ne_pq : ¬ w.heap.size = w.heap.size + 1 := by omega
    have ne_qp : ¬ w.heap.size + 1 = w.heap.size := by omega
    go_wp2_with fail
    with_reducible refine (iValidNest_any s A1 c1 _ (h.on hB106) HC.out H1.out).mono ?_
    rintro e w1 ⟨he, hb1⟩
    rw [HV.out] at he
    subst he
    have sz1 : w.heap.size + 2 ≤ w1.heap.size := Nat.le_trans (by first | exact Nat.le_refl _ | (simp; done) | (simp; omega)) (hb1.size)
    have hB109 := hB106.trans (hb1.mono hB106.size)
    have x110 := x107.below hb1 x107.lt
    have r111 := r108.below hb1 r108.lt
    clear hB106 x107 r108
    clear p0 p1 p2 p3 pl pf q0 q1 q2 q3 ql qf ne_pq ne_qp
    obtain ⟨p0, p1, p2, p3, pl, pf⟩ := (⟨x110.cell 0, x110.cell 1, x110.cell 2, x110.cell 3, x110.lt, x110.frozen⟩ : _ ∧ _ ∧ _ ∧ _ ∧ _ ∧ _)
    obtain ⟨q0, q1, q2, q3, ql, qf⟩ := (⟨r111.cell 0, r111.cell 1, r111.cell 2, r111.cell 3, r111.lt, r111.frozen⟩ : _ ∧ _ ∧ _ ∧ _ ∧ _ ∧ _)
    have ne_pq : ¬ w.heap.size = w.heap.size + 1 := by omega
    have ne_qp : ¬ w.heap.size + 1 = w.heap.size := by omega
    go_wp2_with fail
    with_reducible refine (canStep_any s 1 A1 c1 _).mono ?_
    rintro e w2 ⟨he, hb2⟩
    rw [HK.out] at he
    subst he
    have sz2 : w1.heap.size ≤ w2.heap.size := Nat.le_trans (by first | exact Nat.le_refl _ | (simp; done) | (simp; omega)) (hb2.size)
    have hB112 := hB109.trans (hb2.mono hB109.size)
    have x113 := x110.below hb2 x110.lt
    have r114 := r111.below hb2 r111.lt
    clear hB109 x110 r111
    clear p0 p1 p2 p3 pl pf q0 q1 q2 q3 ql qf ne_pq ne_qp
    have hsx := (h.on hB112)
    have hsd := hsx.drew
    have xd := x113.drew
    have rd := r114.drew
    have bd := hB112.drew
    obtain ⟨p0, p1, p2, p3, pl, pf⟩ := (⟨x113.cell 0, x113.cell 1, x113.cell 2, x113.cell 3, x113.lt, x113.frozen⟩ : _ ∧ _ ∧ _ ∧ _ ∧ _ ∧ _)
    obtain ⟨q0, q1, q2, q3, ql, qf⟩ := (⟨r114.cell 0, r114.cell 1, r114.cell 2, r114.cell 3, r114.lt, r114.frozen⟩ : _ ∧ _ ∧ _ ∧ _ ∧ _ ∧ _)
    have ne_pq : ¬ w.heap.size = w.heap.size + 1 := by omega
    have ne_qp : ¬ w.heap.size + 1 = w.heap.size := by omega
    go_upto_region 3 with fail
    go_cut [6] from 17 to 26 (fun v6 wx => ∃ (g8 : Nat) (Aa : Option Addr) (ca : Nat), v6 = .pointer (some ⟨g8, 0, none⟩) ∧ At wx g8 25 #[.int .i64 s.d, .int .i64 s.w, .slice Aa s.m.length ca, .bool s.b] ∧ At wx w.heap.size 25 #[.int .i64 s.d, .int .i64 s.w, .slice A1 s.m.length c1, .bool s.b] ∧ At wx (w.heap.size + 1) 25 #[.int .i64 0, .int .i64 0, .slice none 0 0, .bool false] ∧ OwnM wx (w.heap.size + 2) Aa ca s ∧ Below w.heap.size w wx ∧ w.heap.size + 2 ≤ g8)
    case first =>
      have hzd : w.heap.size + 2 ≤ w2.heap.size := by have := r114.lt; omega
      have nz1 : ¬ w.heap.size = w2.heap.size := by omega
      have nz2 : ¬ w2.heap.size = w.heap.size := by omega
      go_region_held3 (fun w' => w'.cell? ⟨w.heap.size, 0, none⟩ = some (.int .i64 s.d) ∧ w'.cell? ⟨w.heap.size, 1, none⟩ = some (.int .i64 s.w) ∧ w'.cell? ⟨w.heap.size, 2, none⟩ = some (.slice A1 s.m.length c1) ∧ w'.cell? ⟨w.heap.size, 3, none⟩ = some (.bool s.b))
        (first | with_reducible exact ⟨p0, p1, p2, p3⟩ | with_reducible exact ⟨a0, a1, a2, a3⟩ | go_keep)
        (first
          | (go_at_call 32; (with_reducible refine (copyNumbers_any A1 c1 s.m _ (by first | exact hsd.marks | exact ((hsx.alloc _).drew).marks) H1.out).mono ?_); rintro e wa ⟨va, rfl, hoa, hba⟩; obtain ⟨Aa, ca, rfl, _⟩ := hoa.form; have pxa := (by first | exact xd.below hba xd.lt | exact ((x113.alloc _).drew).below hba ((x113.alloc _).drew).lt : At wa w.heap.size 25 #[.int .i64 s.d, .int .i64 s.w, .slice A1 s.m.length c1, .bool s.b]); have pra := (by first | exact rd.below hba rd.lt | exact ((r114.alloc _).drew).below hba ((r114.alloc _).drew).lt : At wa (w.heap.size + 1) 25 #[.int .i64 0, .int .i64 0, .slice none 0 0, .bool false]); have hoam := (by first | exact OwnM.mono (show OwnM wa _ Aa ca s from hoa) hzd | exact OwnM.mono (show OwnM wa _ Aa ca s from hoa) (Nat.le_trans hzd (Nat.le_of_lt (by simp))) : OwnM wa (w.heap.size + 2) Aa ca s); have hbA := (by first | exact bd.trans (hba.mono bd.size) | exact ((hB112.alloc hB112.size _).drew).trans (hba.mono ((hB112.alloc hB112.size _).drew).size) : Below w.heap.size w wa); have hza := (by first | exact hba.size | exact Nat.le_trans (Nat.le_of_lt (by simp)) hba.size : w2.heap.size ≤ wa.heap.size); obtain ⟨a0, a1, a2, a3, al, af⟩ := pxa.four; have na1 : ¬ w.heap.size = wa.heap.size := Nat.ne_of_lt al; have na2 : ¬ wa.heap.size = w.heap.size := fun e => Nat.ne_of_lt al e.symm; (try have pza := ((At.newAt 25 #[.int .i64 0, .int .i64 0, .slice none 0 0, .bool false] rfl).drew : At ((w2.alloc (.cells #[.int .i64 0, .int .i64 0, .slice none 0 0, .bool false] 25)).drew) w2.heap.size 25 #[.int .i64 0, .int .i64 0, .slice none 0 0, .bool false]).below hba (by simp)); (try have pzc := pza.cell); (try have pzf := pza.frozen))
          | fail)
      all_goals
        go_wp2_with fail
        clear a0 a1 a2 a3 af hoa
        go_meet
        first
          | (obtain ⟨hp8, hg8⟩ := four_put (.int .i64 s.d) (.int .i64 s.w) (.slice Aa s.m.length ca) (.bool s.b) pza rfl
             exact ⟨_, _, _, rfl, hp8, pxa.past hg8 (by omega), pra.past hg8 (by omega), hoam.past4 pza hg8, below_put hbA hg8 (by omega) hbA.size, by omega⟩)
          | exact ⟨_, _, _, rfl, At.newAt _ _ rfl, pxa.alloc _, pra.alloc _, hoam.alloc _, hbA.alloc hbA.size _, by omega⟩
    case rest =>
      obtain ⟨g8, Aa, ca, rfl, pt8, px8, pr8, hO8, hB8, hz8⟩ := hcut
      have hzc : w.heap.size + 2 ≤ wc.heap.size := by have := pr8.lt; omega
      clear hsx hsd xd rd bd x113 r114 hB112 p0 p1 p2 p3 pl pf q0 q1 q2 q3 ql qf ne_pq ne_qp
      have t115 := pt8
      clear pt8
      have x116 := px8
      clear px8
      have r117 := pr8
      clear pr8
      have o118 := hO8
      clear hO8
      have hB119 := hB8
      clear hB8
      obtain ⟨t0, t1, t2, t3, tl, tf⟩ := (⟨t115.cell 0, t115.cell 1, t115.cell 2, t115.cell 3, t115.lt, t115.frozen⟩ : _ ∧ _ ∧ _ ∧ _ ∧ _ ∧ _)
      obtain ⟨p0, p1, p2, p3, pl, pf⟩ := (⟨x116.cell 0, x116.cell 1, x116.cell 2, x116.cell 3, x116.lt, x116.frozen⟩ : _ ∧ _ ∧ _ ∧ _ ∧ _ ∧ _)
      obtain ⟨q0, q1, q2, q3, ql, qf⟩ := (⟨r117.cell 0, r117.cell 1, r117.cell 2, r117.cell 3, r117.lt, r117.frozen⟩ : _ ∧ _ ∧ _ ∧ _ ∧ _ ∧ _)
      have ne_tp : ¬ g8 = w.heap.size := by omega
      have ne_pt : ¬ w.heap.size = g8 := by omega
      have ne_tq : ¬ g8 = w.heap.size + 1 := by omega
      have ne_qt : ¬ w.heap.size + 1 = g8 := by omega
      have ne_pq : ¬ w.heap.size = w.heap.size + 1 := by omega
      have ne_qp : ¬ w.heap.size + 1 = w.heap.size := by omega
      have x120 := x116.past (grown_set wc (g8) 1 (.int .i64 (s.w + 1))) (by omega)
      have r121 := r117.past (grown_set wc (g8) 1 (.int .i64 (s.w + 1))) (by omega)
      have o122 := o118.past4 t115 (grown_set wc (g8) 1 (.int .i64 (s.w + 1)))
      have hB123 := below_put hB119 (grown_set wc (g8) 1 (.int .i64 (s.w + 1))) (by omega) (by have := hB119.size; omega)
      have t124 : At (wc.setCell ⟨g8, 1, none⟩ (.int .i64 (s.w + 1))) (g8) 25 #[.int .i64 s.d, .int .i64 (s.w + 1), .slice Aa s.m.length ca, .bool s.b] := by simpa using t115.set 1 (.int .i64 (s.w + 1))
      clear x116 r117 o118 hB119 t115
      have HR := hid (show stepC s 1 = ⟨s.d, s.w + 1, s.m, s.b⟩ from rfl)
      rw [HR.out] at E2
      obtain ⟨t0, t1, t2, t3, tl, tf⟩ := (⟨t124.cell 0, t124.cell 1, t124.cell 2, t124.cell 3, t124.lt, t124.frozen⟩ : _ ∧ _ ∧ _ ∧ _ ∧ _ ∧ _)
      obtain ⟨p0, p1, p2, p3, pl, pf⟩ := (⟨x120.cell 0, x120.cell 1, x120.cell 2, x120.cell 3, x120.lt, x120.frozen⟩ : _ ∧ _ ∧ _ ∧ _ ∧ _ ∧ _)
      obtain ⟨q0, q1, q2, q3, ql, qf⟩ := (⟨r121.cell 0, r121.cell 1, r121.cell 2, r121.cell 3, r121.lt, r121.frozen⟩ : _ ∧ _ ∧ _ ∧ _ ∧ _ ∧ _)
      have ne_tp : ¬ g8 = w.heap.size := by omega
      have ne_pt : ¬ w.heap.size = g8 := by omega
      have ne_tq : ¬ g8 = w.heap.size + 1 := by omega
      have ne_qt : ¬ w.heap.size + 1 = g8 := by omega
      have ne_pq : ¬ w.heap.size = w.heap.size + 1 := by omega
      have ne_qp : ¬ w.heap.size + 1 = w.heap.size := by omega
      have t125 := t124.past (grown_set (wc.setCell ⟨g8, 1, none⟩ (.int .i64 (s.w + 1))) (w.heap.size + 1) 0 (.int .i64 s.d)) (by omega)
      have x126 := x120.past (grown_set (wc.setCell ⟨g8, 1, none⟩ (.int .i64 (s.w + 1))) (w.heap.size + 1) 0 (.int .i64 s.d)) (by omega)
      have o127 := o122.past4 r121 (grown_set (wc.setCell ⟨g8, 1, none⟩ (.int .i64 (s.w + 1))) (w.heap.size + 1) 0 (.int .i64 s.d))
      have hB128 := below_put hB123 (grown_set (wc.setCell ⟨g8, 1, none⟩ (.int .i64 (s.w + 1))) (w.heap.size + 1) 0 (.int .i64 s.d)) (by omega) (by have := hB123.size; omega)
      have r129 : At ((wc.setCell ⟨g8, 1, none⟩ (.int .i64 (s.w + 1))).setCell ⟨w.heap.size + 1, 0, none⟩ (.int .i64 s.d)) (w.heap.size + 1) 25 #[.int .i64 s.d, .int .i64 0, .slice none 0 0, .bool false] := by simpa using r121.set 0 (.int .i64 s.d)
      clear t124 x120 o122 hB123 r121
      have t130 := t125.past (grown_set ((wc.setCell ⟨g8, 1, none⟩ (.int .i64 (s.w + 1))).setCell ⟨w.heap.size + 1, 0, none⟩ (.int .i64 s.d)) (w.heap.size + 1) 1 (.int .i64 (s.w + 1))) (by omega)
      have x131 := x126.past (grown_set ((wc.setCell ⟨g8, 1, none⟩ (.int .i64 (s.w + 1))).setCell ⟨w.heap.size + 1, 0, none⟩ (.int .i64 s.d)) (w.heap.size + 1) 1 (.int .i64 (s.w + 1))) (by omega)
      have o132 := o127.past4 r129 (grown_set ((wc.setCell ⟨g8, 1, none⟩ (.int .i64 (s.w + 1))).setCell ⟨w.heap.size + 1, 0, none⟩ (.int .i64 s.d)) (w.heap.size + 1) 1 (.int .i64 (s.w + 1)))
      have hB133 := below_put hB128 (grown_set ((wc.setCell ⟨g8, 1, none⟩ (.int .i64 (s.w + 1))).setCell ⟨w.heap.size + 1, 0, none⟩ (.int .i64 s.d)) (w.heap.size + 1) 1 (.int .i64 (s.w + 1))) (by omega) (by have := hB128.size; omega)
      have r134 : At (((wc.setCell ⟨g8, 1, none⟩ (.int .i64 (s.w + 1))).setCell ⟨w.heap.size + 1, 0, none⟩ (.int .i64 s.d)).setCell ⟨w.heap.size + 1, 1, none⟩ (.int .i64 (s.w + 1))) (w.heap.size + 1) 25 #[.int .i64 s.d, .int .i64 (s.w + 1), .slice none 0 0, .bool false] := by simpa using r129.set 1 (.int .i64 (s.w + 1))
      clear t125 x126 o127 hB128 r129
      have t135 := t130.past (grown_set (((wc.setCell ⟨g8, 1, none⟩ (.int .i64 (s.w + 1))).setCell ⟨w.heap.size + 1, 0, none⟩ (.int .i64 s.d)).setCell ⟨w.heap.size + 1, 1, none⟩ (.int .i64 (s.w + 1))) (w.heap.size + 1) 2 (.slice Aa s.m.length ca)) (by omega)
      have x136 := x131.past (grown_set (((wc.setCell ⟨g8, 1, none⟩ (.int .i64 (s.w + 1))).setCell ⟨w.heap.size + 1, 0, none⟩ (.int .i64 s.d)).setCell ⟨w.heap.size + 1, 1, none⟩ (.int .i64 (s.w + 1))) (w.heap.size + 1) 2 (.slice Aa s.m.length ca)) (by omega)
      have o137 := o132.past4 r134 (grown_set (((wc.setCell ⟨g8, 1, none⟩ (.int .i64 (s.w + 1))).setCell ⟨w.heap.size + 1, 0, none⟩ (.int .i64 s.d)).setCell ⟨w.heap.size + 1, 1, none⟩ (.int .i64 (s.w + 1))) (w.heap.size + 1) 2 (.slice Aa s.m.length ca))
      have hB138 := below_put hB133 (grown_set (((wc.setCell ⟨g8, 1, none⟩ (.int .i64 (s.w + 1))).setCell ⟨w.heap.size + 1, 0, none⟩ (.int .i64 s.d)).setCell ⟨w.heap.size + 1, 1, none⟩ (.int .i64 (s.w + 1))) (w.heap.size + 1) 2 (.slice Aa s.m.length ca)) (by omega) (by have := hB133.size; omega)
      have r139 : At ((((wc.setCell ⟨g8, 1, none⟩ (.int .i64 (s.w + 1))).setCell ⟨w.heap.size + 1, 0, none⟩ (.int .i64 s.d)).setCell ⟨w.heap.size + 1, 1, none⟩ (.int .i64 (s.w + 1))).setCell ⟨w.heap.size + 1, 2, none⟩ (.slice Aa s.m.length ca)) (w.heap.size + 1) 25 #[.int .i64 s.d, .int .i64 (s.w + 1), .slice Aa s.m.length ca, .bool false] := by simpa using r134.set 2 (.slice Aa s.m.length ca)
      clear t130 x131 o132 hB133 r134
      have t140 := t135.past (grown_set ((((wc.setCell ⟨g8, 1, none⟩ (.int .i64 (s.w + 1))).setCell ⟨w.heap.size + 1, 0, none⟩ (.int .i64 s.d)).setCell ⟨w.heap.size + 1, 1, none⟩ (.int .i64 (s.w + 1))).setCell ⟨w.heap.size + 1, 2, none⟩ (.slice Aa s.m.length ca)) (w.heap.size + 1) 3 (.bool s.b)) (by omega)
      have x141 := x136.past (grown_set ((((wc.setCell ⟨g8, 1, none⟩ (.int .i64 (s.w + 1))).setCell ⟨w.heap.size + 1, 0, none⟩ (.int .i64 s.d)).setCell ⟨w.heap.size + 1, 1, none⟩ (.int .i64 (s.w + 1))).setCell ⟨w.heap.size + 1, 2, none⟩ (.slice Aa s.m.length ca)) (w.heap.size + 1) 3 (.bool s.b)) (by omega)
      have o142 := o137.past4 r139 (grown_set ((((wc.setCell ⟨g8, 1, none⟩ (.int .i64 (s.w + 1))).setCell ⟨w.heap.size + 1, 0, none⟩ (.int .i64 s.d)).setCell ⟨w.heap.size + 1, 1, none⟩ (.int .i64 (s.w + 1))).setCell ⟨w.heap.size + 1, 2, none⟩ (.slice Aa s.m.length ca)) (w.heap.size + 1) 3 (.bool s.b))
      have hB143 := below_put hB138 (grown_set ((((wc.setCell ⟨g8, 1, none⟩ (.int .i64 (s.w + 1))).setCell ⟨w.heap.size + 1, 0, none⟩ (.int .i64 s.d)).setCell ⟨w.heap.size + 1, 1, none⟩ (.int .i64 (s.w + 1))).setCell ⟨w.heap.size + 1, 2, none⟩ (.slice Aa s.m.length ca)) (w.heap.size + 1) 3 (.bool s.b)) (by omega) (by have := hB138.size; omega)
      have r144 : At (((((wc.setCell ⟨g8, 1, none⟩ (.int .i64 (s.w + 1))).setCell ⟨w.heap.size + 1, 0, none⟩ (.int .i64 s.d)).setCell ⟨w.heap.size + 1, 1, none⟩ (.int .i64 (s.w + 1))).setCell ⟨w.heap.size + 1, 2, none⟩ (.slice Aa s.m.length ca)).setCell ⟨w.heap.size + 1, 3, none⟩ (.bool s.b)) (w.heap.size + 1) 25 #[.int .i64 s.d, .int .i64 (s.w + 1), .slice Aa s.m.length ca, .bool s.b] := by simpa using r139.set 3 (.bool s.b)
      clear t135 x136 o137 hB138 r139
      go_wp2
      refine bodyPost_ret (v := .tuple #[.agg #[.int .i64 s.d, .int .i64 (s.w + 1), .slice Aa s.m.length ca, .bool s.b], .bool true]) (by simp [results, Try.results13, go_sem, r144.cell]) rfl ?_
      exact ⟨Aa, ca, by rw [E.out, E2.out], by rw [E2.out]; exact (show OwnM _ _ Aa ca (⟨s.d, s.w + 1, s.m, s.b⟩ : Nst) from o142.mono (by omega)), hB143⟩
  · skip
    have HDP := hid (HPOS.out (by decide))
    have hB145 := Below.refl w.heap.size w
    have hB146 := hB145.alloc hB145.size (.cells #[.int .i64 s.d, .int .i64 s.w, .slice A1 s.m.length c1, .bool s.b] 25)
    clear hB145
    have x147 : At (w.alloc (.cells #[.int .i64 s.d, .int .i64 s.w, .slice A1 s.m.length c1, .bool s.b] 25)) (w.heap.size) 25 #[.int .i64 s.d, .int .i64 s.w, .slice A1 s.m.length c1, .bool s.b] := At.newAt _ _ (by first | rfl | (simp; done) | (simp; omega))
    have hB148 := hB146.alloc hB146.size (.cells #[.int .i64 0, .int .i64 0, .slice none 0 0, .bool false] 25)
    have x149 := x147.alloc (.cells #[.int .i64 0, .int .i64 0, .slice none 0 0, .bool false] 25)
    clear hB146 x147
    have r150 : At ((w.alloc (.cells #[.int .i64 s.d, .int .i64 s.w, .slice A1 s.m.length c1, .bool s.b] 25)).alloc (.cells #[.int .i64 0, .int .i64 0, .slice none 0 0, .bool false] 25)) (w.heap.size + 1) 25 #[.int .i64 0, .int .i64 0, .slice none 0 0, .bool false] := At.newAt _ _ (by first | rfl | (simp; done) | (simp; omega))
    go_enter Try.func13, Try.ntmps13
    obtain ⟨p0, p1, p2, p3, pl, pf⟩ := (⟨x149.cell 0, x149.cell 1, x149.cell 2, x149.cell 3, x149.lt, x149.frozen⟩ : _ ∧ _ ∧ _ ∧ _ ∧ _ ∧ _)
    obtain ⟨q0, q1, q2, q3, ql, qf⟩ := (⟨r150.cell 0, r150.cell 1, r150.cell 2, r150.cell 3, r150.lt, r150.frozen⟩ : _ ∧ _ ∧ _ ∧ _ ∧ _ ∧ _)
    have ne_pq : ¬ w.heap.size = w.heap.size + 1 := by omega
    have ne_qp : ¬ w.heap.size + 1 = w.heap.size := by omega
    go_wp2_with fail
    with_reducible refine (iValidNest_any s A1 c1 _ (h.on hB148) HC.out H1.out).mono ?_
    rintro e w1 ⟨he, hb1⟩
    rw [HV.out] at he
    subst he
    have sz1 : w.heap.size + 2 ≤ w1.heap.size := Nat.le_trans (by first | exact Nat.le_refl _ | (simp; done) | (simp; omega)) (hb1.size)
    have hB151 := hB148.trans (hb1.mono hB148.size)
    have x152 := x149.below hb1 x149.lt
    have r153 := r150.below hb1 r150.lt
    clear hB148 x149 r150
    clear p0 p1 p2 p3 pl pf q0 q1 q2 q3 ql qf ne_pq ne_qp
    obtain ⟨p0, p1, p2, p3, pl, pf⟩ := (⟨x152.cell 0, x152.cell 1, x152.cell 2, x152.cell 3, x152.lt, x152.frozen⟩ : _ ∧ _ ∧ _ ∧ _ ∧ _ ∧ _)
    obtain ⟨q0, q1, q2, q3, ql, qf⟩ := (⟨r153.cell 0, r153.cell 1, r153.cell 2, r153.cell 3, r153.lt, r153.frozen⟩ : _ ∧ _ ∧ _ ∧ _ ∧ _ ∧ _)
    have ne_pq : ¬ w.heap.size = w.heap.size + 1 := by omega
    have ne_qp : ¬ w.heap.size + 1 = w.heap.size := by omega
    go_wp2_with fail
    with_reducible refine (canStep_any s 2 A1 c1 _).mono ?_
    rintro e w2 ⟨he, hb2⟩
    rw [HK.out] at he
    subst he
    have sz2 : w1.heap.size ≤ w2.heap.size := Nat.le_trans (by first | exact Nat.le_refl _ | (simp; done) | (simp; omega)) (hb2.size)
    have hB154 := hB151.trans (hb2.mono hB151.size)
    have x155 := x152.below hb2 x152.lt
    have r156 := r153.below hb2 r153.lt
    clear hB151 x152 r153
    clear p0 p1 p2 p3 pl pf q0 q1 q2 q3 ql qf ne_pq ne_qp
    have hsx := (h.on hB154)
    have hsd := hsx.drew
    have xd := x155.drew
    have rd := r156.drew
    have bd := hB154.drew
    obtain ⟨p0, p1, p2, p3, pl, pf⟩ := (⟨x155.cell 0, x155.cell 1, x155.cell 2, x155.cell 3, x155.lt, x155.frozen⟩ : _ ∧ _ ∧ _ ∧ _ ∧ _ ∧ _)
    obtain ⟨q0, q1, q2, q3, ql, qf⟩ := (⟨r156.cell 0, r156.cell 1, r156.cell 2, r156.cell 3, r156.lt, r156.frozen⟩ : _ ∧ _ ∧ _ ∧ _ ∧ _ ∧ _)
    have ne_pq : ¬ w.heap.size = w.heap.size + 1 := by omega
    have ne_qp : ¬ w.heap.size + 1 = w.heap.size := by omega
    go_upto_region 3 with fail
    go_cut [6] from 17 to 26 (fun v6 wx => ∃ (g8 : Nat) (Aa : Option Addr) (ca : Nat), v6 = .pointer (some ⟨g8, 0, none⟩) ∧ At wx g8 25 #[.int .i64 s.d, .int .i64 s.w, .slice Aa s.m.length ca, .bool s.b] ∧ At wx w.heap.size 25 #[.int .i64 s.d, .int .i64 s.w, .slice A1 s.m.length c1, .bool s.b] ∧ At wx (w.heap.size + 1) 25 #[.int .i64 0, .int .i64 0, .slice none 0 0, .bool false] ∧ OwnM wx (w.heap.size + 2) Aa ca s ∧ Below w.heap.size w wx ∧ w.heap.size + 2 ≤ g8)
    case first =>
      have hzd : w.heap.size + 2 ≤ w2.heap.size := by have := r156.lt; omega
      have nz1 : ¬ w.heap.size = w2.heap.size := by omega
      have nz2 : ¬ w2.heap.size = w.heap.size := by omega
      go_region_held3 (fun w' => w'.cell? ⟨w.heap.size, 0, none⟩ = some (.int .i64 s.d) ∧ w'.cell? ⟨w.heap.size, 1, none⟩ = some (.int .i64 s.w) ∧ w'.cell? ⟨w.heap.size, 2, none⟩ = some (.slice A1 s.m.length c1) ∧ w'.cell? ⟨w.heap.size, 3, none⟩ = some (.bool s.b))
        (first | with_reducible exact ⟨p0, p1, p2, p3⟩ | with_reducible exact ⟨a0, a1, a2, a3⟩ | go_keep)
        (first
          | (go_at_call 32; (with_reducible refine (copyNumbers_any A1 c1 s.m _ (by first | exact hsd.marks | exact ((hsx.alloc _).drew).marks) H1.out).mono ?_); rintro e wa ⟨va, rfl, hoa, hba⟩; obtain ⟨Aa, ca, rfl, _⟩ := hoa.form; have pxa := (by first | exact xd.below hba xd.lt | exact ((x155.alloc _).drew).below hba ((x155.alloc _).drew).lt : At wa w.heap.size 25 #[.int .i64 s.d, .int .i64 s.w, .slice A1 s.m.length c1, .bool s.b]); have pra := (by first | exact rd.below hba rd.lt | exact ((r156.alloc _).drew).below hba ((r156.alloc _).drew).lt : At wa (w.heap.size + 1) 25 #[.int .i64 0, .int .i64 0, .slice none 0 0, .bool false]); have hoam := (by first | exact OwnM.mono (show OwnM wa _ Aa ca s from hoa) hzd | exact OwnM.mono (show OwnM wa _ Aa ca s from hoa) (Nat.le_trans hzd (Nat.le_of_lt (by simp))) : OwnM wa (w.heap.size + 2) Aa ca s); have hbA := (by first | exact bd.trans (hba.mono bd.size) | exact ((hB154.alloc hB154.size _).drew).trans (hba.mono ((hB154.alloc hB154.size _).drew).size) : Below w.heap.size w wa); have hza := (by first | exact hba.size | exact Nat.le_trans (Nat.le_of_lt (by simp)) hba.size : w2.heap.size ≤ wa.heap.size); obtain ⟨a0, a1, a2, a3, al, af⟩ := pxa.four; have na1 : ¬ w.heap.size = wa.heap.size := Nat.ne_of_lt al; have na2 : ¬ wa.heap.size = w.heap.size := fun e => Nat.ne_of_lt al e.symm; (try have pza := ((At.newAt 25 #[.int .i64 0, .int .i64 0, .slice none 0 0, .bool false] rfl).drew : At ((w2.alloc (.cells #[.int .i64 0, .int .i64 0, .slice none 0 0, .bool false] 25)).drew) w2.heap.size 25 #[.int .i64 0, .int .i64 0, .slice none 0 0, .bool false]).below hba (by simp)); (try have pzc := pza.cell); (try have pzf := pza.frozen))
          | fail)
      all_goals
        go_wp2_with fail
        clear a0 a1 a2 a3 af hoa
        go_meet
        first
          | (obtain ⟨hp8, hg8⟩ := four_put (.int .i64 s.d) (.int .i64 s.w) (.slice Aa s.m.length ca) (.bool s.b) pza rfl
             exact ⟨_, _, _, rfl, hp8, pxa.past hg8 (by omega), pra.past hg8 (by omega), hoam.past4 pza hg8, below_put hbA hg8 (by omega) hbA.size, by omega⟩)
          | exact ⟨_, _, _, rfl, At.newAt _ _ rfl, pxa.alloc _, pra.alloc _, hoam.alloc _, hbA.alloc hbA.size _, by omega⟩
    case rest =>
      obtain ⟨g8, Aa, ca, rfl, pt8, px8, pr8, hO8, hB8, hz8⟩ := hcut
      have hzc : w.heap.size + 2 ≤ wc.heap.size := by have := pr8.lt; omega
      clear hsx hsd xd rd bd x155 r156 hB154 p0 p1 p2 p3 pl pf q0 q1 q2 q3 ql qf ne_pq ne_qp
      have t157 := pt8
      clear pt8
      have x158 := px8
      clear px8
      have r159 := pr8
      clear pr8
      have o160 := hO8
      clear hO8
      have hB161 := hB8
      clear hB8
      obtain ⟨t0, t1, t2, t3, tl, tf⟩ := (⟨t157.cell 0, t157.cell 1, t157.cell 2, t157.cell 3, t157.lt, t157.frozen⟩ : _ ∧ _ ∧ _ ∧ _ ∧ _ ∧ _)
      obtain ⟨p0, p1, p2, p3, pl, pf⟩ := (⟨x158.cell 0, x158.cell 1, x158.cell 2, x158.cell 3, x158.lt, x158.frozen⟩ : _ ∧ _ ∧ _ ∧ _ ∧ _ ∧ _)
      obtain ⟨q0, q1, q2, q3, ql, qf⟩ := (⟨r159.cell 0, r159.cell 1, r159.cell 2, r159.cell 3, r159.lt, r159.frozen⟩ : _ ∧ _ ∧ _ ∧ _ ∧ _ ∧ _)
      have ne_tp : ¬ g8 = w.heap.size := by omega
      have ne_pt : ¬ w.heap.size = g8 := by omega
      have ne_tq : ¬ g8 = w.heap.size + 1 := by omega
      have ne_qt : ¬ w.heap.size + 1 = g8 := by omega
      have ne_pq : ¬ w.heap.size = w.heap.size + 1 := by omega
      have ne_qp : ¬ w.heap.size + 1 = w.heap.size := by omega
      have x162 := x158.past (grown_set wc (g8) 3 (.bool true)) (by omega)
      have r163 := r159.past (grown_set wc (g8) 3 (.bool true)) (by omega)
      have o164 := o160.past4 t157 (grown_set wc (g8) 3 (.bool true))
      have hB165 := below_put hB161 (grown_set wc (g8) 3 (.bool true)) (by omega) (by have := hB161.size; omega)
      have t166 : At (wc.setCell ⟨g8, 3, none⟩ (.bool true)) (g8) 25 #[.int .i64 s.d, .int .i64 s.w, .slice Aa s.m.length ca, .bool true] := by simpa using t157.set 3 (.bool true)
      clear x158 r159 o160 hB161 t157
      have HR := hid (show stepC s 2 = ⟨s.d, s.w, s.m, true⟩ from rfl)
      rw [HR.out] at E2
      obtain ⟨t0, t1, t2, t3, tl, tf⟩ := (⟨t166.cell 0, t166.cell 1, t166.cell 2, t166.cell 3, t166.lt, t166.frozen⟩ : _ ∧ _ ∧ _ ∧ _ ∧ _ ∧ _)
      obtain ⟨p0, p1, p2, p3, pl, pf⟩ := (⟨x162.cell 0, x162.cell 1, x162.cell 2, x162.cell 3, x162.lt, x162.frozen⟩ : _ ∧ _ ∧ _ ∧ _ ∧ _ ∧ _)
      obtain ⟨q0, q1, q2, q3, ql, qf⟩ := (⟨r163.cell 0, r163.cell 1, r163.cell 2, r163.cell 3, r163.lt, r163.frozen⟩ : _ ∧ _ ∧ _ ∧ _ ∧ _ ∧ _)
      have ne_tp : ¬ g8 = w.heap.size := by omega
      have ne_pt : ¬ w.heap.size = g8 := by omega
      have ne_tq : ¬ g8 = w.heap.size + 1 := by omega
      have ne_qt : ¬ w.heap.size + 1 = g8 := by omega
      have ne_pq : ¬ w.heap.size = w.heap.size + 1 := by omega
      have ne_qp : ¬ w.heap.size + 1 = w.heap.size := by omega
      have t167 := t166.past (grown_set (wc.setCell ⟨g8, 3, none⟩ (.bool true)) (w.heap.size + 1) 0 (.int .i64 s.d)) (by omega)
      have x168 := x162.past (grown_set (wc.setCell ⟨g8, 3, none⟩ (.bool true)) (w.heap.size + 1) 0 (.int .i64 s.d)) (by omega)
      have o169 := o164.past4 r163 (grown_set (wc.setCell ⟨g8, 3, none⟩ (.bool true)) (w.heap.size + 1) 0 (.int .i64 s.d))
      have hB170 := below_put hB165 (grown_set (wc.setCell ⟨g8, 3, none⟩ (.bool true)) (w.heap.size + 1) 0 (.int .i64 s.d)) (by omega) (by have := hB165.size; omega)
      have r171 : At ((wc.setCell ⟨g8, 3, none⟩ (.bool true)).setCell ⟨w.heap.size + 1, 0, none⟩ (.int .i64 s.d)) (w.heap.size + 1) 25 #[.int .i64 s.d, .int .i64 0, .slice none 0 0, .bool false] := by simpa using r163.set 0 (.int .i64 s.d)
      clear t166 x162 o164 hB165 r163
      have t172 := t167.past (grown_set ((wc.setCell ⟨g8, 3, none⟩ (.bool true)).setCell ⟨w.heap.size + 1, 0, none⟩ (.int .i64 s.d)) (w.heap.size + 1) 1 (.int .i64 s.w)) (by omega)
      have x173 := x168.past (grown_set ((wc.setCell ⟨g8, 3, none⟩ (.bool true)).setCell ⟨w.heap.size + 1, 0, none⟩ (.int .i64 s.d)) (w.heap.size + 1) 1 (.int .i64 s.w)) (by omega)
      have o174 := o169.past4 r171 (grown_set ((wc.setCell ⟨g8, 3, none⟩ (.bool true)).setCell ⟨w.heap.size + 1, 0, none⟩ (.int .i64 s.d)) (w.heap.size + 1) 1 (.int .i64 s.w))
      have hB175 := below_put hB170 (grown_set ((wc.setCell ⟨g8, 3, none⟩ (.bool true)).setCell ⟨w.heap.size + 1, 0, none⟩ (.int .i64 s.d)) (w.heap.size + 1) 1 (.int .i64 s.w)) (by omega) (by have := hB170.size; omega)
      have r176 : At (((wc.setCell ⟨g8, 3, none⟩ (.bool true)).setCell ⟨w.heap.size + 1, 0, none⟩ (.int .i64 s.d)).setCell ⟨w.heap.size + 1, 1, none⟩ (.int .i64 s.w)) (w.heap.size + 1) 25 #[.int .i64 s.d, .int .i64 s.w, .slice none 0 0, .bool false] := by simpa using r171.set 1 (.int .i64 s.w)
      clear t167 x168 o169 hB170 r171
      have t177 := t172.past (grown_set (((wc.setCell ⟨g8, 3, none⟩ (.bool true)).setCell ⟨w.heap.size + 1, 0, none⟩ (.int .i64 s.d)).setCell ⟨w.heap.size + 1, 1, none⟩ (.int .i64 s.w)) (w.heap.size + 1) 2 (.slice Aa s.m.length ca)) (by omega)
      have x178 := x173.past (grown_set (((wc.setCell ⟨g8, 3, none⟩ (.bool true)).setCell ⟨w.heap.size + 1, 0, none⟩ (.int .i64 s.d)).setCell ⟨w.heap.size + 1, 1, none⟩ (.int .i64 s.w)) (w.heap.size + 1) 2 (.slice Aa s.m.length ca)) (by omega)
      have o179 := o174.past4 r176 (grown_set (((wc.setCell ⟨g8, 3, none⟩ (.bool true)).setCell ⟨w.heap.size + 1, 0, none⟩ (.int .i64 s.d)).setCell ⟨w.heap.size + 1, 1, none⟩ (.int .i64 s.w)) (w.heap.size + 1) 2 (.slice Aa s.m.length ca))
      have hB180 := below_put hB175 (grown_set (((wc.setCell ⟨g8, 3, none⟩ (.bool true)).setCell ⟨w.heap.size + 1, 0, none⟩ (.int .i64 s.d)).setCell ⟨w.heap.size + 1, 1, none⟩ (.int .i64 s.w)) (w.heap.size + 1) 2 (.slice Aa s.m.length ca)) (by omega) (by have := hB175.size; omega)
      have r181 : At ((((wc.setCell ⟨g8, 3, none⟩ (.bool true)).setCell ⟨w.heap.size + 1, 0, none⟩ (.int .i64 s.d)).setCell ⟨w.heap.size + 1, 1, none⟩ (.int .i64 s.w)).setCell ⟨w.heap.size + 1, 2, none⟩ (.slice Aa s.m.length ca)) (w.heap.size + 1) 25 #[.int .i64 s.d, .int .i64 s.w, .slice Aa s.m.length ca, .bool false] := by simpa using r176.set 2 (.slice Aa s.m.length ca)
      clear t172 x173 o174 hB175 r176
      have t182 := t177.past (grown_set ((((wc.setCell ⟨g8, 3, none⟩ (.bool true)).setCell ⟨w.heap.size + 1, 0, none⟩ (.int .i64 s.d)).setCell ⟨w.heap.size + 1, 1, none⟩ (.int .i64 s.w)).setCell ⟨w.heap.size + 1, 2, none⟩ (.slice Aa s.m.length ca)) (w.heap.size + 1) 3 (.bool true)) (by omega)
      have x183 := x178.past (grown_set ((((wc.setCell ⟨g8, 3, none⟩ (.bool true)).setCell ⟨w.heap.size + 1, 0, none⟩ (.int .i64 s.d)).setCell ⟨w.heap.size + 1, 1, none⟩ (.int .i64 s.w)).setCell ⟨w.heap.size + 1, 2, none⟩ (.slice Aa s.m.length ca)) (w.heap.size + 1) 3 (.bool true)) (by omega)
      have o184 := o179.past4 r181 (grown_set ((((wc.setCell ⟨g8, 3, none⟩ (.bool true)).setCell ⟨w.heap.size + 1, 0, none⟩ (.int .i64 s.d)).setCell ⟨w.heap.size + 1, 1, none⟩ (.int .i64 s.w)).setCell ⟨w.heap.size + 1, 2, none⟩ (.slice Aa s.m.length ca)) (w.heap.size + 1) 3 (.bool true))
      have hB185 := below_put hB180 (grown_set ((((wc.setCell ⟨g8, 3, none⟩ (.bool true)).setCell ⟨w.heap.size + 1, 0, none⟩ (.int .i64 s.d)).setCell ⟨w.heap.size + 1, 1, none⟩ (.int .i64 s.w)).setCell ⟨w.heap.size + 1, 2, none⟩ (.slice Aa s.m.length ca)) (w.heap.size + 1) 3 (.bool true)) (by omega) (by have := hB180.size; omega)
      have r186 : At (((((wc.setCell ⟨g8, 3, none⟩ (.bool true)).setCell ⟨w.heap.size + 1, 0, none⟩ (.int .i64 s.d)).setCell ⟨w.heap.size + 1, 1, none⟩ (.int .i64 s.w)).setCell ⟨w.heap.size + 1, 2, none⟩ (.slice Aa s.m.length ca)).setCell ⟨w.heap.size + 1, 3, none⟩ (.bool true)) (w.heap.size + 1) 25 #[.int .i64 s.d, .int .i64 s.w, .slice Aa s.m.length ca, .bool true] := by simpa using r181.set 3 (.bool true)
      clear t177 x178 o179 hB180 r181
      go_wp2
      refine bodyPost_ret (v := .tuple #[.agg #[.int .i64 s.d, .int .i64 s.w, .slice Aa s.m.length ca, .bool true], .bool true]) (by simp [results, Try.results13, go_sem, r186.cell]) rfl ?_
      exact ⟨Aa, ca, by rw [E.out, E2.out], by rw [E2.out]; exact (show OwnM _ _ Aa ca (⟨s.d, s.w, s.m, true⟩ : Nst) from o184.mono (by omega)), hB185⟩
  · skip
    have HDP := hid (HPOS.out (by decide))
    have HD4 := hid hd4.2
    have HML := hid HOK.out.2.2.1
    obtain ⟨R, hR⟩ : ∃ R : Nst, R = shut s s.w := ⟨_, rfl⟩
    have HSH : Hid (shut s s.w = R) := hid hR.symm
    have HE := hid (show stepC s 3 = R by rw [hR]; rfl)
    rw [HE.out] at E2
    clear hR
    have hB187 := Below.refl w.heap.size w
    have hB188 := hB187.alloc hB187.size (.cells #[.int .i64 s.d, .int .i64 s.w, .slice A1 s.m.length c1, .bool s.b] 25)
    clear hB187
    have x189 : At (w.alloc (.cells #[.int .i64 s.d, .int .i64 s.w, .slice A1 s.m.length c1, .bool s.b] 25)) (w.heap.size) 25 #[.int .i64 s.d, .int .i64 s.w, .slice A1 s.m.length c1, .bool s.b] := At.newAt _ _ (by first | rfl | (simp; done) | (simp; omega))
    have hB190 := hB188.alloc hB188.size (.cells #[.int .i64 0, .int .i64 0, .slice none 0 0, .bool false] 25)
    have x191 := x189.alloc (.cells #[.int .i64 0, .int .i64 0, .slice none 0 0, .bool false] 25)
    clear hB188 x189
    have r192 : At ((w.alloc (.cells #[.int .i64 s.d, .int .i64 s.w, .slice A1 s.m.length c1, .bool s.b] 25)).alloc (.cells #[.int .i64 0, .int .i64 0, .slice none 0 0, .bool false] 25)) (w.heap.size + 1) 25 #[.int .i64 0, .int .i64 0, .slice none 0 0, .bool false] := At.newAt _ _ (by first | rfl | (simp; done) | (simp; omega))
    go_enter Try.func13, Try.ntmps13
    obtain ⟨p0, p1, p2, p3, pl, pf⟩ := (⟨x191.cell 0, x191.cell 1, x191.cell 2, x191.cell 3, x191.lt, x191.frozen⟩ : _ ∧ _ ∧ _ ∧ _ ∧ _ ∧ _)
    obtain ⟨q0, q1, q2, q3, ql, qf⟩ := (⟨r192.cell 0, r192.cell 1, r192.cell 2, r192.cell 3, r192.lt, r192.frozen⟩ : _ ∧ _ ∧ _ ∧ _ ∧ _ ∧ _)
    have ne_pq : ¬ w.heap.size = w.heap.size + 1 := by omega
    have ne_qp : ¬ w.heap.size + 1 = w.heap.size := by omega
    go_wp2_with fail
    with_reducible refine (iValidNest_any s A1 c1 _ (h.on hB190) HC.out H1.out).mono ?_
    rintro e w1 ⟨he, hb1⟩
    rw [HV.out] at he
    subst he
    have sz1 : w.heap.size + 2 ≤ w1.heap.size := Nat.le_trans (by first | exact Nat.le_refl _ | (simp; done) | (simp; omega)) (hb1.size)
    have hB193 := hB190.trans (hb1.mono hB190.size)
    have x194 := x191.below hb1 x191.lt
    have r195 := r192.below hb1 r192.lt
    clear hB190 x191 r192
    clear p0 p1 p2 p3 pl pf q0 q1 q2 q3 ql qf ne_pq ne_qp
    obtain ⟨p0, p1, p2, p3, pl, pf⟩ := (⟨x194.cell 0, x194.cell 1, x194.cell 2, x194.cell 3, x194.lt, x194.frozen⟩ : _ ∧ _ ∧ _ ∧ _ ∧ _ ∧ _)
    obtain ⟨q0, q1, q2, q3, ql, qf⟩ := (⟨r195.cell 0, r195.cell 1, r195.cell 2, r195.cell 3, r195.lt, r195.frozen⟩ : _ ∧ _ ∧ _ ∧ _ ∧ _ ∧ _)
    have ne_pq : ¬ w.heap.size = w.heap.size + 1 := by omega
    have ne_qp : ¬ w.heap.size + 1 = w.heap.size := by omega
    go_wp2_with fail
    with_reducible refine (canStep_any s 3 A1 c1 _).mono ?_
    rintro e w2 ⟨he, hb2⟩
    rw [HK.out] at he
    subst he
    have sz2 : w1.heap.size ≤ w2.heap.size := Nat.le_trans (by first | exact Nat.le_refl _ | (simp; done) | (simp; omega)) (hb2.size)
    have hB196 := hB193.trans (hb2.mono hB193.size)
    have x197 := x194.below hb2 x194.lt
    have r198 := r195.below hb2 r195.lt
    clear hB193 x194 r195
    clear p0 p1 p2 p3 pl pf q0 q1 q2 q3 ql qf ne_pq ne_qp
    have hsx := (h.on hB196)
    have hsd := hsx.drew
    have xd := x197.drew
    have rd := r198.drew
    have bd := hB196.drew
    obtain ⟨p0, p1, p2, p3, pl, pf⟩ := (⟨x197.cell 0, x197.cell 1, x197.cell 2, x197.cell 3, x197.lt, x197.frozen⟩ : _ ∧ _ ∧ _ ∧ _ ∧ _ ∧ _)
    obtain ⟨q0, q1, q2, q3, ql, qf⟩ := (⟨r198.cell 0, r198.cell 1, r198.cell 2, r198.cell 3, r198.lt, r198.frozen⟩ : _ ∧ _ ∧ _ ∧ _ ∧ _ ∧ _)
    have ne_pq : ¬ w.heap.size = w.heap.size + 1 := by omega
    have ne_qp : ¬ w.heap.size + 1 = w.heap.size := by omega
    go_upto_region 3 with fail
    go_cut [6] from 17 to 26 (fun v6 wx => ∃ (g8 : Nat) (Aa : Option Addr) (ca : Nat), v6 = .pointer (some ⟨g8, 0, none⟩) ∧ At wx g8 25 #[.int .i64 s.d, .int .i64 s.w, .slice Aa s.m.length ca, .bool s.b] ∧ At wx w.heap.size 25 #[.int .i64 s.d, .int .i64 s.w, .slice A1 s.m.length c1, .bool s.b] ∧ At wx (w.heap.size + 1) 25 #[.int .i64 0, .int .i64 0, .slice none 0 0, .bool false] ∧ OwnM wx (w.heap.size + 2) Aa ca s ∧ Below w.heap.size w wx ∧ w.heap.size + 2 ≤ g8)
    case first =>
      have hzd : w.heap.size + 2 ≤ w2.heap.size := by have := r198.lt; omega
      have nz1 : ¬ w.heap.size = w2.heap.size := by omega
      have nz2 : ¬ w2.heap.size = w.heap.size := by omega
      go_region_held3 (fun w' => w'.cell? ⟨w.heap.size, 0, none⟩ = some (.int .i64 s.d) ∧ w'.cell? ⟨w.heap.size, 1, none⟩ = some (.int .i64 s.w) ∧ w'.cell? ⟨w.heap.size, 2, none⟩ = some (.slice A1 s.m.length c1) ∧ w'.cell? ⟨w.heap.size, 3, none⟩ = some (.bool s.b))
        (first | with_reducible exact ⟨p0, p1, p2, p3⟩ | with_reducible exact ⟨a0, a1, a2, a3⟩ | go_keep)
        (first
          | (go_at_call 32; (with_reducible refine (copyNumbers_any A1 c1 s.m _ (by first | exact hsd.marks | exact ((hsx.alloc _).drew).marks) H1.out).mono ?_); rintro e wa ⟨va, rfl, hoa, hba⟩; obtain ⟨Aa, ca, rfl, _⟩ := hoa.form; have pxa := (by first | exact xd.below hba xd.lt | exact ((x197.alloc _).drew).below hba ((x197.alloc _).drew).lt : At wa w.heap.size 25 #[.int .i64 s.d, .int .i64 s.w, .slice A1 s.m.length c1, .bool s.b]); have pra := (by first | exact rd.below hba rd.lt | exact ((r198.alloc _).drew).below hba ((r198.alloc _).drew).lt : At wa (w.heap.size + 1) 25 #[.int .i64 0, .int .i64 0, .slice none 0 0, .bool false]); have hoam := (by first | exact OwnM.mono (show OwnM wa _ Aa ca s from hoa) hzd | exact OwnM.mono (show OwnM wa _ Aa ca s from hoa) (Nat.le_trans hzd (Nat.le_of_lt (by simp))) : OwnM wa (w.heap.size + 2) Aa ca s); have hbA := (by first | exact bd.trans (hba.mono bd.size) | exact ((hB196.alloc hB196.size _).drew).trans (hba.mono ((hB196.alloc hB196.size _).drew).size) : Below w.heap.size w wa); have hza := (by first | exact hba.size | exact Nat.le_trans (Nat.le_of_lt (by simp)) hba.size : w2.heap.size ≤ wa.heap.size); obtain ⟨a0, a1, a2, a3, al, af⟩ := pxa.four; have na1 : ¬ w.heap.size = wa.heap.size := Nat.ne_of_lt al; have na2 : ¬ wa.heap.size = w.heap.size := fun e => Nat.ne_of_lt al e.symm; (try have pza := ((At.newAt 25 #[.int .i64 0, .int .i64 0, .slice none 0 0, .bool false] rfl).drew : At ((w2.alloc (.cells #[.int .i64 0, .int .i64 0, .slice none 0 0, .bool false] 25)).drew) w2.heap.size 25 #[.int .i64 0, .int .i64 0, .slice none 0 0, .bool false]).below hba (by simp)); (try have pzc := pza.cell); (try have pzf := pza.frozen))
          | fail)
      all_goals
        go_wp2_with fail
        clear a0 a1 a2 a3 af hoa
        go_meet
        first
          | (obtain ⟨hp8, hg8⟩ := four_put (.int .i64 s.d) (.int .i64 s.w) (.slice Aa s.m.length ca) (.bool s.b) pza rfl
             exact ⟨_, _, _, rfl, hp8, pxa.past hg8 (by omega), pra.past hg8 (by omega), hoam.past4 pza hg8, below_put hbA hg8 (by omega) hbA.size, by omega⟩)
          | exact ⟨_, _, _, rfl, At.newAt _ _ rfl, pxa.alloc _, pra.alloc _, hoam.alloc _, hbA.alloc hbA.size _, by omega⟩
    case rest =>
      obtain ⟨g8, Aa, ca, rfl, pt8, px8, pr8, hO8, hB8, hz8⟩ := hcut
      have hzc : w.heap.size + 2 ≤ wc.heap.size := by have := pr8.lt; omega
      clear hsx hsd xd rd bd x197 r198 hB196 p0 p1 p2 p3 pl pf q0 q1 q2 q3 ql qf ne_pq ne_qp
      have t199 := pt8
      clear pt8
      have x200 := px8
      clear px8
      have r201 := pr8
      clear pr8
      have o202 := hO8
      clear hO8
      have hB203 := hB8
      clear hB8
      obtain ⟨t0, t1, t2, t3, tl, tf⟩ := (⟨t199.cell 0, t199.cell 1, t199.cell 2, t199.cell 3, t199.lt, t199.frozen⟩ : _ ∧ _ ∧ _ ∧ _ ∧ _ ∧ _)
      obtain ⟨p0, p1, p2, p3, pl, pf⟩ := (⟨x200.cell 0, x200.cell 1, x200.cell 2, x200.cell 3, x200.lt, x200.frozen⟩ : _ ∧ _ ∧ _ ∧ _ ∧ _ ∧ _)
      obtain ⟨q0, q1, q2, q3, ql, qf⟩ := (⟨r201.cell 0, r201.cell 1, r201.cell 2, r201.cell 3, r201.lt, r201.frozen⟩ : _ ∧ _ ∧ _ ∧ _ ∧ _ ∧ _)
      have ne_tp : ¬ g8 = w.heap.size := by omega
      have ne_pt : ¬ w.heap.size = g8 := by omega
      have ne_tq : ¬ g8 = w.heap.size + 1 := by omega
      have ne_qt : ¬ w.heap.size + 1 = g8 := by omega
      have ne_pq : ¬ w.heap.size = w.heap.size + 1 := by omega
      have ne_qp : ¬ w.heap.size + 1 = w.heap.size := by omega
      go_wp2_with fail
      with_reducible refine (closeInnermost_any s s.w A1 c1 _ (h.on hB203) HC.out HDP.out HD4.out HML.out).mono ?_
      rintro e w3 ⟨A3, c3, he, ho3, hb3⟩
      rw [HSH.out] at he ho3
      subst he
      have sz3 : wc.heap.size ≤ w3.heap.size := Nat.le_trans (by first | exact Nat.le_refl _ | (simp; done) | (simp; omega)) (hb3.size)
      have t204 := t199.below hb3 t199.lt
      have x205 := x200.below hb3 x200.lt
      have r206 := r201.below hb3 r201.lt
      have o207 := o202.below hb3
      have hB208 := hB203.trans (hb3.mono hB203.size)
      clear t199 x200 r201 o202 hB203
      clear t0 t1 t2 t3 tl tf p0 p1 p2 p3 pl pf q0 q1 q2 q3 ql qf ne_tp ne_pt ne_tq ne_qt ne_pq ne_qp
      skip
      clear o207
      have o209 := ho3
      clear ho3
      obtain ⟨t0, t1, t2, t3, tl, tf⟩ := (⟨t204.cell 0, t204.cell 1, t204.cell 2, t204.cell 3, t204.lt, t204.frozen⟩ : _ ∧ _ ∧ _ ∧ _ ∧ _ ∧ _)
      obtain ⟨p0, p1, p2, p3, pl, pf⟩ := (⟨x205.cell 0, x205.cell 1, x205.cell 2, x205.cell 3, x205.lt, x205.frozen⟩ : _ ∧ _ ∧ _ ∧ _ ∧ _ ∧ _)
      obtain ⟨q0, q1, q2, q3, ql, qf⟩ := (⟨r206.cell 0, r206.cell 1, r206.cell 2, r206.cell 3, r206.lt, r206.frozen⟩ : _ ∧ _ ∧ _ ∧ _ ∧ _ ∧ _)
      have ne_tp : ¬ g8 = w.heap.size := by omega
      have ne_pt : ¬ w.heap.size = g8 := by omega
      have ne_tq : ¬ g8 = w.heap.size + 1 := by omega
      have ne_qt : ¬ w.heap.size + 1 = g8 := by omega
      have ne_pq : ¬ w.heap.size = w.heap.size + 1 := by omega
      have ne_qp : ¬ w.heap.size + 1 = w.heap.size := by omega
      have x210 := x205.past (grown_set w3 (g8) 0 (.int .i64 R.d)) (by omega)
      have r211 := r206.past (grown_set w3 (g8) 0 (.int .i64 R.d)) (by omega)
      have hB212 := below_put hB208 (grown_set w3 (g8) 0 (.int .i64 R.d)) (by omega) (by have := hB208.size; omega)
      have o213 := o209.past4 t204 (grown_set w3 (g8) 0 (.int .i64 R.d))
      have t214 : At (w3.setCell ⟨g8, 0, none⟩ (.int .i64 R.d)) (g8) 25 #[.int .i64 R.d, .int .i64 s.w, .slice Aa s.m.length ca, .bool s.b] := by simpa using t204.set 0 (.int .i64 R.d)
      clear x205 r206 hB208 o209 t204
      have x215 := x210.past (grown_set (w3.setCell ⟨g8, 0, none⟩ (.int .i64 R.d)) (g8) 1 (.int .i64 R.w)) (by omega)
      have r216 := r211.past (grown_set (w3.setCell ⟨g8, 0, none⟩ (.int .i64 R.d)) (g8) 1 (.int .i64 R.w)) (by omega)
      have hB217 := below_put hB212 (grown_set (w3.setCell ⟨g8, 0, none⟩ (.int .i64 R.d)) (g8) 1 (.int .i64 R.w)) (by omega) (by have := hB212.size; omega)
      have o218 := o213.past4 t214 (grown_set (w3.setCell ⟨g8, 0, none⟩ (.int .i64 R.d)) (g8) 1 (.int .i64 R.w))
      have t219 : At ((w3.setCell ⟨g8, 0, none⟩ (.int .i64 R.d)).setCell ⟨g8, 1, none⟩ (.int .i64 R.w)) (g8) 25 #[.int .i64 R.d, .int .i64 R.w, .slice Aa s.m.length ca, .bool s.b] := by simpa using t214.set 1 (.int .i64 R.w)
      clear x210 r211 hB212 o213 t214
      have x220 := x215.past (grown_set ((w3.setCell ⟨g8, 0, none⟩ (.int .i64 R.d)).setCell ⟨g8, 1, none⟩ (.int .i64 R.w)) (g8) 2 (.slice A3 R.m.length c3)) (by omega)
      have r221 := r216.past (grown_set ((w3.setCell ⟨g8, 0, none⟩ (.int .i64 R.d)).setCell ⟨g8, 1, none⟩ (.int .i64 R.w)) (g8) 2 (.slice A3 R.m.length c3)) (by omega)
      have hB222 := below_put hB217 (grown_set ((w3.setCell ⟨g8, 0, none⟩ (.int .i64 R.d)).setCell ⟨g8, 1, none⟩ (.int .i64 R.w)) (g8) 2 (.slice A3 R.m.length c3)) (by omega) (by have := hB217.size; omega)
      have o223 := o218.past4 t219 (grown_set ((w3.setCell ⟨g8, 0, none⟩ (.int .i64 R.d)).setCell ⟨g8, 1, none⟩ (.int .i64 R.w)) (g8) 2 (.slice A3 R.m.length c3))
      have t224 : At (((w3.setCell ⟨g8, 0, none⟩ (.int .i64 R.d)).setCell ⟨g8, 1, none⟩ (.int .i64 R.w)).setCell ⟨g8, 2, none⟩ (.slice A3 R.m.length c3)) (g8) 25 #[.int .i64 R.d, .int .i64 R.w, .slice A3 R.m.length c3, .bool s.b] := by simpa using t219.set 2 (.slice A3 R.m.length c3)
      clear x215 r216 hB217 o218 t219
      have x225 := x220.past (grown_set (((w3.setCell ⟨g8, 0, none⟩ (.int .i64 R.d)).setCell ⟨g8, 1, none⟩ (.int .i64 R.w)).setCell ⟨g8, 2, none⟩ (.slice A3 R.m.length c3)) (g8) 3 (.bool R.b)) (by omega)
      have r226 := r221.past (grown_set (((w3.setCell ⟨g8, 0, none⟩ (.int .i64 R.d)).setCell ⟨g8, 1, none⟩ (.int .i64 R.w)).setCell ⟨g8, 2, none⟩ (.slice A3 R.m.length c3)) (g8) 3 (.bool R.b)) (by omega)
      have hB227 := below_put hB222 (grown_set (((w3.setCell ⟨g8, 0, none⟩ (.int .i64 R.d)).setCell ⟨g8, 1, none⟩ (.int .i64 R.w)).setCell ⟨g8, 2, none⟩ (.slice A3 R.m.length c3)) (g8) 3 (.bool R.b)) (by omega) (by have := hB222.size; omega)
      have o228 := o223.past4 t224 (grown_set (((w3.setCell ⟨g8, 0, none⟩ (.int .i64 R.d)).setCell ⟨g8, 1, none⟩ (.int .i64 R.w)).setCell ⟨g8, 2, none⟩ (.slice A3 R.m.length c3)) (g8) 3 (.bool R.b))
      have t229 : At ((((w3.setCell ⟨g8, 0, none⟩ (.int .i64 R.d)).setCell ⟨g8, 1, none⟩ (.int .i64 R.w)).setCell ⟨g8, 2, none⟩ (.slice A3 R.m.length c3)).setCell ⟨g8, 3, none⟩ (.bool R.b)) (g8) 25 #[.int .i64 R.d, .int .i64 R.w, .slice A3 R.m.length c3, .bool R.b] := by simpa using t224.set 3 (.bool R.b)
      clear x220 r221 hB222 o223 t224
      obtain ⟨t0, t1, t2, t3, tl, tf⟩ := (⟨t229.cell 0, t229.cell 1, t229.cell 2, t229.cell 3, t229.lt, t229.frozen⟩ : _ ∧ _ ∧ _ ∧ _ ∧ _ ∧ _)
      obtain ⟨p0, p1, p2, p3, pl, pf⟩ := (⟨x225.cell 0, x225.cell 1, x225.cell 2, x225.cell 3, x225.lt, x225.frozen⟩ : _ ∧ _ ∧ _ ∧ _ ∧ _ ∧ _)
      obtain ⟨q0, q1, q2, q3, ql, qf⟩ := (⟨r226.cell 0, r226.cell 1, r226.cell 2, r226.cell 3, r226.lt, r226.frozen⟩ : _ ∧ _ ∧ _ ∧ _ ∧ _ ∧ _)
      have ne_tp : ¬ g8 = w.heap.size := by omega
      have ne_pt : ¬ w.heap.size = g8 := by omega
      have ne_tq : ¬ g8 = w.heap.size + 1 := by omega
      have ne_qt : ¬ w.heap.size + 1 = g8 := by omega
      have ne_pq : ¬ w.heap.size = w.heap.size + 1 := by omega
      have ne_qp : ¬ w.heap.size + 1 = w.heap.size := by omega
      have t230 := t229.past (grown_set ((((w3.setCell ⟨g8, 0, none⟩ (.int .i64 R.d)).setCell ⟨g8, 1, none⟩ (.int .i64 R.w)).setCell ⟨g8, 2, none⟩ (.slice A3 R.m.length c3)).setCell ⟨g8, 3, none⟩ (.bool R.b)) (w.heap.size + 1) 0 (.int .i64 R.d)) (by omega)
      have x231 := x225.past (grown_set ((((w3.setCell ⟨g8, 0, none⟩ (.int .i64 R.d)).setCell ⟨g8, 1, none⟩ (.int .i64 R.w)).setCell ⟨g8, 2, none⟩ (.slice A3 R.m.length c3)).setCell ⟨g8, 3, none⟩ (.bool R.b)) (w.heap.size + 1) 0 (.int .i64 R.d)) (by omega)
      have hB232 := below_put hB227 (grown_set ((((w3.setCell ⟨g8, 0, none⟩ (.int .i64 R.d)).setCell ⟨g8, 1, none⟩ (.int .i64 R.w)).setCell ⟨g8, 2, none⟩ (.slice A3 R.m.length c3)).setCell ⟨g8, 3, none⟩ (.bool R.b)) (w.heap.size + 1) 0 (.int .i64 R.d)) (by omega) (by have := hB227.size; omega)
      have o233 := o228.past4 r226 (grown_set ((((w3.setCell ⟨g8, 0, none⟩ (.int .i64 R.d)).setCell ⟨g8, 1, none⟩ (.int .i64 R.w)).setCell ⟨g8, 2, none⟩ (.slice A3 R.m.length c3)).setCell ⟨g8, 3, none⟩ (.bool R.b)) (w.heap.size + 1) 0 (.int .i64 R.d))
      have r234 : At (((((w3.setCell ⟨g8, 0, none⟩ (.int .i64 R.d)).setCell ⟨g8, 1, none⟩ (.int .i64 R.w)).setCell ⟨g8, 2, none⟩ (.slice A3 R.m.length c3)).setCell ⟨g8, 3, none⟩ (.bool R.b)).setCell ⟨w.heap.size + 1, 0, none⟩ (.int .i64 R.d)) (w.heap.size + 1) 25 #[.int .i64 R.d, .int .i64 0, .slice none 0 0, .bool false] := by simpa using r226.set 0 (.int .i64 R.d)
      clear t229 x225 hB227 o228 r226
      have t235 := t230.past (grown_set (((((w3.setCell ⟨g8, 0, none⟩ (.int .i64 R.d)).setCell ⟨g8, 1, none⟩ (.int .i64 R.w)).setCell ⟨g8, 2, none⟩ (.slice A3 R.m.length c3)).setCell ⟨g8, 3, none⟩ (.bool R.b)).setCell ⟨w.heap.size + 1, 0, none⟩ (.int .i64 R.d)) (w.heap.size + 1) 1 (.int .i64 R.w)) (by omega)
      have x236 := x231.past (grown_set (((((w3.setCell ⟨g8, 0, none⟩ (.int .i64 R.d)).setCell ⟨g8, 1, none⟩ (.int .i64 R.w)).setCell ⟨g8, 2, none⟩ (.slice A3 R.m.length c3)).setCell ⟨g8, 3, none⟩ (.bool R.b)).setCell ⟨w.heap.size + 1, 0, none⟩ (.int .i64 R.d)) (w.heap.size + 1) 1 (.int .i64 R.w)) (by omega)
      have hB237 := below_put hB232 (grown_set (((((w3.setCell ⟨g8, 0, none⟩ (.int .i64 R.d)).setCell ⟨g8, 1, none⟩ (.int .i64 R.w)).setCell ⟨g8, 2, none⟩ (.slice A3 R.m.length c3)).setCell ⟨g8, 3, none⟩ (.bool R.b)).setCell ⟨w.heap.size + 1, 0, none⟩ (.int .i64 R.d)) (w.heap.size + 1) 1 (.int .i64 R.w)) (by omega) (by have := hB232.size; omega)
      have o238 := o233.past4 r234 (grown_set (((((w3.setCell ⟨g8, 0, none⟩ (.int .i64 R.d)).setCell ⟨g8, 1, none⟩ (.int .i64 R.w)).setCell ⟨g8, 2, none⟩ (.slice A3 R.m.length c3)).setCell ⟨g8, 3, none⟩ (.bool R.b)).setCell ⟨w.heap.size + 1, 0, none⟩ (.int .i64 R.d)) (w.heap.size + 1) 1 (.int .i64 R.w))
      have r239 : At ((((((w3.setCell ⟨g8, 0, none⟩ (.int .i64 R.d)).setCell ⟨g8, 1, none⟩ (.int .i64 R.w)).setCell ⟨g8, 2, none⟩ (.slice A3 R.m.length c3)).setCell ⟨g8, 3, none⟩ (.bool R.b)).setCell ⟨w.heap.size + 1, 0, none⟩ (.int .i64 R.d)).setCell ⟨w.heap.size + 1, 1, none⟩ (.int .i64 R.w)) (w.heap.size + 1) 25 #[.int .i64 R.d, .int .i64 R.w, .slice none 0 0, .bool false] := by simpa using r234.set 1 (.int .i64 R.w)
      clear t230 x231 hB232 o233 r234
      have t240 := t235.past (grown_set ((((((w3.setCell ⟨g8, 0, none⟩ (.int .i64 R.d)).setCell ⟨g8, 1, none⟩ (.int .i64 R.w)).setCell ⟨g8, 2, none⟩ (.slice A3 R.m.length c3)).setCell ⟨g8, 3, none⟩ (.bool R.b)).setCell ⟨w.heap.size + 1, 0, none⟩ (.int .i64 R.d)).setCell ⟨w.heap.size + 1, 1, none⟩ (.int .i64 R.w)) (w.heap.size + 1) 2 (.slice A3 R.m.length c3)) (by omega)
      have x241 := x236.past (grown_set ((((((w3.setCell ⟨g8, 0, none⟩ (.int .i64 R.d)).setCell ⟨g8, 1, none⟩ (.int .i64 R.w)).setCell ⟨g8, 2, none⟩ (.slice A3 R.m.length c3)).setCell ⟨g8, 3, none⟩ (.bool R.b)).setCell ⟨w.heap.size + 1, 0, none⟩ (.int .i64 R.d)).setCell ⟨w.heap.size + 1, 1, none⟩ (.int .i64 R.w)) (w.heap.size + 1) 2 (.slice A3 R.m.length c3)) (by omega)
      have hB242 := below_put hB237 (grown_set ((((((w3.setCell ⟨g8, 0, none⟩ (.int .i64 R.d)).setCell ⟨g8, 1, none⟩ (.int .i64 R.w)).setCell ⟨g8, 2, none⟩ (.slice A3 R.m.length c3)).setCell ⟨g8, 3, none⟩ (.bool R.b)).setCell ⟨w.heap.size + 1, 0, none⟩ (.int .i64 R.d)).setCell ⟨w.heap.size + 1, 1, none⟩ (.int .i64 R.w)) (w.heap.size + 1) 2 (.slice A3 R.m.length c3)) (by omega) (by have := hB237.size; omega)
      have o243 := o238.past4 r239 (grown_set ((((((w3.setCell ⟨g8, 0, none⟩ (.int .i64 R.d)).setCell ⟨g8, 1, none⟩ (.int .i64 R.w)).setCell ⟨g8, 2, none⟩ (.slice A3 R.m.length c3)).setCell ⟨g8, 3, none⟩ (.bool R.b)).setCell ⟨w.heap.size + 1, 0, none⟩ (.int .i64 R.d)).setCell ⟨w.heap.size + 1, 1, none⟩ (.int .i64 R.w)) (w.heap.size + 1) 2 (.slice A3 R.m.length c3))
      have r244 : At (((((((w3.setCell ⟨g8, 0, none⟩ (.int .i64 R.d)).setCell ⟨g8, 1, none⟩ (.int .i64 R.w)).setCell ⟨g8, 2, none⟩ (.slice A3 R.m.length c3)).setCell ⟨g8, 3, none⟩ (.bool R.b)).setCell ⟨w.heap.size + 1, 0, none⟩ (.int .i64 R.d)).setCell ⟨w.heap.size + 1, 1, none⟩ (.int .i64 R.w)).setCell ⟨w.heap.size + 1, 2, none⟩ (.slice A3 R.m.length c3)) (w.heap.size + 1) 25 #[.int .i64 R.d, .int .i64 R.w, .slice A3 R.m.length c3, .bool false] := by simpa using r239.set 2 (.slice A3 R.m.length c3)
      clear t235 x236 hB237 o238 r239
      have t245 := t240.past (grown_set (((((((w3.setCell ⟨g8, 0, none⟩ (.int .i64 R.d)).setCell ⟨g8, 1, none⟩ (.int .i64 R.w)).setCell ⟨g8, 2, none⟩ (.slice A3 R.m.length c3)).setCell ⟨g8, 3, none⟩ (.bool R.b)).setCell ⟨w.heap.size + 1, 0, none⟩ (.int .i64 R.d)).setCell ⟨w.heap.size + 1, 1, none⟩ (.int .i64 R.w)).setCell ⟨w.heap.size + 1, 2, none⟩ (.slice A3 R.m.length c3)) (w.heap.size + 1) 3 (.bool R.b)) (by omega)
      have x246 := x241.past (grown_set (((((((w3.setCell ⟨g8, 0, none⟩ (.int .i64 R.d)).setCell ⟨g8, 1, none⟩ (.int .i64 R.w)).setCell ⟨g8, 2, none⟩ (.slice A3 R.m.length c3)).setCell ⟨g8, 3, none⟩ (.bool R.b)).setCell ⟨w.heap.size + 1, 0, none⟩ (.int .i64 R.d)).setCell ⟨w.heap.size + 1, 1, none⟩ (.int .i64 R.w)).setCell ⟨w.heap.size + 1, 2, none⟩ (.slice A3 R.m.length c3)) (w.heap.size + 1) 3 (.bool R.b)) (by omega)
      have hB247 := below_put hB242 (grown_set (((((((w3.setCell ⟨g8, 0, none⟩ (.int .i64 R.d)).setCell ⟨g8, 1, none⟩ (.int .i64 R.w)).setCell ⟨g8, 2, none⟩ (.slice A3 R.m.length c3)).setCell ⟨g8, 3, none⟩ (.bool R.b)).setCell ⟨w.heap.size + 1, 0, none⟩ (.int .i64 R.d)).setCell ⟨w.heap.size + 1, 1, none⟩ (.int .i64 R.w)).setCell ⟨w.heap.size + 1, 2, none⟩ (.slice A3 R.m.length c3)) (w.heap.size + 1) 3 (.bool R.b)) (by omega) (by have := hB242.size; omega)
      have o248 := o243.past4 r244 (grown_set (((((((w3.setCell ⟨g8, 0, none⟩ (.int .i64 R.d)).setCell ⟨g8, 1, none⟩ (.int .i64 R.w)).setCell ⟨g8, 2, none⟩ (.slice A3 R.m.length c3)).setCell ⟨g8, 3, none⟩ (.bool R.b)).setCell ⟨w.heap.size + 1, 0, none⟩ (.int .i64 R.d)).setCell ⟨w.heap.size + 1, 1, none⟩ (.int .i64 R.w)).setCell ⟨w.heap.size + 1, 2, none⟩ (.slice A3 R.m.length c3)) (w.heap.size + 1) 3 (.bool R.b))
      have r249 : At ((((((((w3.setCell ⟨g8, 0, none⟩ (.int .i64 R.d)).setCell ⟨g8, 1, none⟩ (.int .i64 R.w)).setCell ⟨g8, 2, none⟩ (.slice A3 R.m.length c3)).setCell ⟨g8, 3, none⟩ (.bool R.b)).setCell ⟨w.heap.size + 1, 0, none⟩ (.int .i64 R.d)).setCell ⟨w.heap.size + 1, 1, none⟩ (.int .i64 R.w)).setCell ⟨w.heap.size + 1, 2, none⟩ (.slice A3 R.m.length c3)).setCell ⟨w.heap.size + 1, 3, none⟩ (.bool R.b)) (w.heap.size + 1) 25 #[.int .i64 R.d, .int .i64 R.w, .slice A3 R.m.length c3, .bool R.b] := by simpa using r244.set 3 (.bool R.b)
      clear t240 x241 hB242 o243 r244
      go_wp2
      refine bodyPost_ret (v := .tuple #[.agg #[.int .i64 R.d, .int .i64 R.w, .slice A3 R.m.length c3, .bool R.b], .bool true]) (by simp [results, Try.results13, go_sem, r249.cell]) rfl ?_
      exact ⟨A3, c3, by rw [E.out, E2.out], by rw [E2.out]; exact o248.mono (by omega), hB247⟩
  · skip
    have hdp := HPOS.out (by decide)
    have HDP := hid hdp
    have HD4 := hid hd4.2
    have hml := HOK.out.2.2.1
    have HML := hid hml
    have hl0 : s.m.length - 1 < s.m.length := by omega
    obtain ⟨b, o, rfl, hq1, hq2⟩ := h.marks.int hl0
    clear hq1 hq2
    have HLM := hid (show lastM s = s.m[s.m.length - 1] from getD_get hl0)
    obtain ⟨n, hn⟩ : ∃ n, n = s.m.length - 1 := ⟨_, rfl⟩
    have hnl : n < s.m.length := by omega
    have HLN := hid (show s.m[n] = lastM s by subst hn; exact HLM.out.symm)
    have hw1 : IntKind.i64.wrap (s.d - 1) = (n : Int) := by rw [IntKind.wrap_i64]; omega
    have hn1 : (n : Int) < (s.m.length : Int) := by omega
    have hn0 : (0 : Int) ≤ (n : Int) := by omega
    obtain ⟨V, hV⟩ : ∃ V, V = lastM s := ⟨_, rfl⟩
    rw [← hV] at HLN
    obtain ⟨R, hR⟩ : ∃ R : Nst, R = shut s V := ⟨_, rfl⟩
    have HSH : Hid (shut s V = R) := hid hR.symm
    have HE := hid (show stepC s 4 = R by rw [hR, hV]; rfl)
    rw [HE.out] at E2
    have HNL := hid hnl
    have HML0 := hid hml
    clear hR hV hn hml hl0 HLM
    have hB250 := Below.refl w.heap.size w
    have hB251 := hB250.alloc hB250.size (.cells #[.int .i64 s.d, .int .i64 s.w, .slice (some ⟨b, o, none⟩) s.m.length c1, .bool s.b] 25)
    clear hB250
    have x252 : At (w.alloc (.cells #[.int .i64 s.d, .int .i64 s.w, .slice (some ⟨b, o, none⟩) s.m.length c1, .bool s.b] 25)) (w.heap.size) 25 #[.int .i64 s.d, .int .i64 s.w, .slice (some ⟨b, o, none⟩) s.m.length c1, .bool s.b] := At.newAt _ _ (by first | rfl | (simp; done) | (simp; omega))
    have hB253 := hB251.alloc hB251.size (.cells #[.int .i64 0, .int .i64 0, .slice none 0 0, .bool false] 25)
    have x254 := x252.alloc (.cells #[.int .i64 0, .int .i64 0, .slice none 0 0, .bool false] 25)
    clear hB251 x252
    have r255 : At ((w.alloc (.cells #[.int .i64 s.d, .int .i64 s.w, .slice (some ⟨b, o, none⟩) s.m.length c1, .bool s.b] 25)).alloc (.cells #[.int .i64 0, .int .i64 0, .slice none 0 0, .bool false] 25)) (w.heap.size + 1) 25 #[.int .i64 0, .int .i64 0, .slice none 0 0, .bool false] := At.newAt _ _ (by first | rfl | (simp; done) | (simp; omega))
    go_enter Try.func13, Try.ntmps13
    obtain ⟨p0, p1, p2, p3, pl, pf⟩ := (⟨x254.cell 0, x254.cell 1, x254.cell 2, x254.cell 3, x254.lt, x254.frozen⟩ : _ ∧ _ ∧ _ ∧ _ ∧ _ ∧ _)
    obtain ⟨q0, q1, q2, q3, ql, qf⟩ := (⟨r255.cell 0, r255.cell 1, r255.cell 2, r255.cell 3, r255.lt, r255.frozen⟩ : _ ∧ _ ∧ _ ∧ _ ∧ _ ∧ _)
    have ne_pq : ¬ w.heap.size = w.heap.size + 1 := by omega
    have ne_qp : ¬ w.heap.size + 1 = w.heap.size := by omega
    go_wp2_with fail
    with_reducible refine (iValidNest_any s (some ⟨b, o, none⟩) c1 _ (h.on hB253) HC.out H1.out).mono ?_
    rintro e w1 ⟨he, hb1⟩
    rw [HV.out] at he
    subst he
    have sz1 : w.heap.size + 2 ≤ w1.heap.size := Nat.le_trans (by first | exact Nat.le_refl _ | (simp; done) | (simp; omega)) (hb1.size)
    have hB256 := hB253.trans (hb1.mono hB253.size)
    have x257 := x254.below hb1 x254.lt
    have r258 := r255.below hb1 r255.lt
    clear hB253 x254 r255
    clear p0 p1 p2 p3 pl pf q0 q1 q2 q3 ql qf ne_pq ne_qp
    obtain ⟨p0, p1, p2, p3, pl, pf⟩ := (⟨x257.cell 0, x257.cell 1, x257.cell 2, x257.cell 3, x257.lt, x257.frozen⟩ : _ ∧ _ ∧ _ ∧ _ ∧ _ ∧ _)
    obtain ⟨q0, q1, q2, q3, ql, qf⟩ := (⟨r258.cell 0, r258.cell 1, r258.cell 2, r258.cell 3, r258.lt, r258.frozen⟩ : _ ∧ _ ∧ _ ∧ _ ∧ _ ∧ _)
    have ne_pq : ¬ w.heap.size = w.heap.size + 1 := by omega
    have ne_qp : ¬ w.heap.size + 1 = w.heap.size := by omega
    go_wp2_with fail
    with_reducible refine (canStep_any s 4 (some ⟨b, o, none⟩) c1 _).mono ?_
    rintro e w2 ⟨he, hb2⟩
    rw [HK.out] at he
    subst he
    have sz2 : w1.heap.size ≤ w2.heap.size := Nat.le_trans (by first | exact Nat.le_refl _ | (simp; done) | (simp; omega)) (hb2.size)
    have hB259 := hB256.trans (hb2.mono hB256.size)
    have x260 := x257.below hb2 x257.lt
    have r261 := r258.below hb2 r258.lt
    clear hB256 x257 r258
    clear p0 p1 p2 p3 pl pf q0 q1 q2 q3 ql qf ne_pq ne_qp
    have hsx := (h.on hB259)
    have hsd := hsx.drew
    have xd := x260.drew
    have rd := r261.drew
    have bd := hB259.drew
    obtain ⟨p0, p1, p2, p3, pl, pf⟩ := (⟨x260.cell 0, x260.cell 1, x260.cell 2, x260.cell 3, x260.lt, x260.frozen⟩ : _ ∧ _ ∧ _ ∧ _ ∧ _ ∧ _)
    obtain ⟨q0, q1, q2, q3, ql, qf⟩ := (⟨r261.cell 0, r261.cell 1, r261.cell 2, r261.cell 3, r261.lt, r261.frozen⟩ : _ ∧ _ ∧ _ ∧ _ ∧ _ ∧ _)
    have ne_pq : ¬ w.heap.size = w.heap.size + 1 := by omega
    have ne_qp : ¬ w.heap.size + 1 = w.heap.size := by omega
    go_upto_region 3 with fail
    go_cut [6] from 17 to 26 (fun v6 wx => ∃ (g8 : Nat) (Aa : Option Addr) (ca : Nat), v6 = .pointer (some ⟨g8, 0, none⟩) ∧ At wx g8 25 #[.int .i64 s.d, .int .i64 s.w, .slice Aa s.m.length ca, .bool s.b] ∧ At wx w.heap.size 25 #[.int .i64 s.d, .int .i64 s.w, .slice (some ⟨b, o, none⟩) s.m.length c1, .bool s.b] ∧ At wx (w.heap.size + 1) 25 #[.int .i64 0, .int .i64 0, .slice none 0 0, .bool false] ∧ OwnM wx (w.heap.size + 2) Aa ca s ∧ Below w.heap.size w wx ∧ w.heap.size + 2 ≤ g8)
    case first =>
      have hzd : w.heap.size + 2 ≤ w2.heap.size := by have := r261.lt; omega
      have nz1 : ¬ w.heap.size = w2.heap.size := by omega
      have nz2 : ¬ w2.heap.size = w.heap.size := by omega
      go_region_held3 (fun w' => w'.cell? ⟨w.heap.size, 0, none⟩ = some (.int .i64 s.d) ∧ w'.cell? ⟨w.heap.size, 1, none⟩ = some (.int .i64 s.w) ∧ w'.cell? ⟨w.heap.size, 2, none⟩ = some (.slice (some ⟨b, o, none⟩) s.m.length c1) ∧ w'.cell? ⟨w.heap.size, 3, none⟩ = some (.bool s.b))
        (first | with_reducible exact ⟨p0, p1, p2, p3⟩ | with_reducible exact ⟨a0, a1, a2, a3⟩ | go_keep)
        (first
          | (go_at_call 32; (with_reducible refine (copyNumbers_any (some ⟨b, o, none⟩) c1 s.m _ (by first | exact hsd.marks | exact ((hsx.alloc _).drew).marks) H1.out).mono ?_); rintro e wa ⟨va, rfl, hoa, hba⟩; obtain ⟨Aa, ca, rfl, _⟩ := hoa.form; have pxa := (by first | exact xd.below hba xd.lt | exact ((x260.alloc _).drew).below hba ((x260.alloc _).drew).lt : At wa w.heap.size 25 #[.int .i64 s.d, .int .i64 s.w, .slice (some ⟨b, o, none⟩) s.m.length c1, .bool s.b]); have pra := (by first | exact rd.below hba rd.lt | exact ((r261.alloc _).drew).below hba ((r261.alloc _).drew).lt : At wa (w.heap.size + 1) 25 #[.int .i64 0, .int .i64 0, .slice none 0 0, .bool false]); have hoam := (by first | exact OwnM.mono (show OwnM wa _ Aa ca s from hoa) hzd | exact OwnM.mono (show OwnM wa _ Aa ca s from hoa) (Nat.le_trans hzd (Nat.le_of_lt (by simp))) : OwnM wa (w.heap.size + 2) Aa ca s); have hbA := (by first | exact bd.trans (hba.mono bd.size) | exact ((hB259.alloc hB259.size _).drew).trans (hba.mono ((hB259.alloc hB259.size _).drew).size) : Below w.heap.size w wa); have hza := (by first | exact hba.size | exact Nat.le_trans (Nat.le_of_lt (by simp)) hba.size : w2.heap.size ≤ wa.heap.size); obtain ⟨a0, a1, a2, a3, al, af⟩ := pxa.four; have na1 : ¬ w.heap.size = wa.heap.size := Nat.ne_of_lt al; have na2 : ¬ wa.heap.size = w.heap.size := fun e => Nat.ne_of_lt al e.symm; (try have pza := ((At.newAt 25 #[.int .i64 0, .int .i64 0, .slice none 0 0, .bool false] rfl).drew : At ((w2.alloc (.cells #[.int .i64 0, .int .i64 0, .slice none 0 0, .bool false] 25)).drew) w2.heap.size 25 #[.int .i64 0, .int .i64 0, .slice none 0 0, .bool false]).below hba (by simp)); (try have pzc := pza.cell); (try have pzf := pza.frozen))
          | fail)
      all_goals
        go_wp2_with fail
        clear a0 a1 a2 a3 af hoa
        go_meet
        first
          | (obtain ⟨hp8, hg8⟩ := four_put (.int .i64 s.d) (.int .i64 s.w) (.slice Aa s.m.length ca) (.bool s.b) pza rfl
             exact ⟨_, _, _, rfl, hp8, pxa.past hg8 (by omega), pra.past hg8 (by omega), hoam.past4 pza hg8, below_put hbA hg8 (by omega) hbA.size, by omega⟩)
          | exact ⟨_, _, _, rfl, At.newAt _ _ rfl, pxa.alloc _, pra.alloc _, hoam.alloc _, hbA.alloc hbA.size _, by omega⟩
    case rest =>
      obtain ⟨g8, Aa, ca, rfl, pt8, px8, pr8, hO8, hB8, hz8⟩ := hcut
      have hzc : w.heap.size + 2 ≤ wc.heap.size := by have := pr8.lt; omega
      clear hsx hsd xd rd bd x260 r261 hB259 p0 p1 p2 p3 pl pf q0 q1 q2 q3 ql qf ne_pq ne_qp
      have t262 := pt8
      clear pt8
      have x263 := px8
      clear px8
      have r264 := pr8
      clear pr8
      have o265 := hO8
      clear hO8
      have hB266 := hB8
      clear hB8
      go_wp2_with fail
      refine wp_region_still_tail 8 (by kernel_rfl) (by kernel_rfl) ?_
      simp only [List.take_succ_cons, List.take_zero, List.drop_succ_cons, List.drop_zero]
      change wpStill _ _ (World.drew wc) (fun a' => wpList _ _ _ _ a' (World.drew wc)) _ _
      have sz3 : wc.heap.size ≤ (World.drew wc).heap.size := by first | exact Nat.le_refl _ | (simp; done)
      have t267 := t262.drew
      clear t262
      have x268 := x263.drew
      clear x263
      have r269 := r264.drew
      clear r264
      have o270 := o265.drew
      clear o265
      have hB271 := hB266.drew
      clear hB266
      obtain ⟨w3, hwz⟩ : ∃ w3, w3 = World.drew wc := ⟨_, rfl⟩
      rw [← hwz] at sz3 t267 x268 r269 o270 hB271 ⊢
      clear hwz
      obtain ⟨t0, t1, t2, t3, tl, tf⟩ := (⟨t267.cell 0, t267.cell 1, t267.cell 2, t267.cell 3, t267.lt, t267.frozen⟩ : _ ∧ _ ∧ _ ∧ _ ∧ _ ∧ _)
      obtain ⟨p0, p1, p2, p3, pl, pf⟩ := (⟨x268.cell 0, x268.cell 1, x268.cell 2, x268.cell 3, x268.lt, x268.frozen⟩ : _ ∧ _ ∧ _ ∧ _ ∧ _ ∧ _)
      obtain ⟨q0, q1, q2, q3, ql, qf⟩ := (⟨r269.cell 0, r269.cell 1, r269.cell 2, r269.cell 3, r269.lt, r269.frozen⟩ : _ ∧ _ ∧ _ ∧ _ ∧ _ ∧ _)
      have ne_tp : ¬ g8 = w.heap.size := by omega
      have ne_pt : ¬ w.heap.size = g8 := by omega
      have ne_tq : ¬ g8 = w.heap.size + 1 := by omega
      have ne_qt : ¬ w.heap.size + 1 = g8 := by omega
      have ne_pq : ¬ w.heap.size = w.heap.size + 1 := by omega
      have ne_qp : ¬ w.heap.size + 1 = w.heap.size := by omega
      have hcm := Sees.cellAt (h.on hB271).marks HNL.out
      rw [HLN.out] at hcm
      repeat still_step
      refine wpStill_nil ?_
      go_wp2_with fail
      with_reducible refine (closeInnermost_any s V (some ⟨b, o, none⟩) c1 _ (h.on hB271) HC.out HDP.out HD4.out HML.out).mono ?_
      rintro e w4 ⟨A4, c4, he, ho4, hb4⟩
      rw [HSH.out] at he ho4
      subst he
      have sz4 : w3.heap.size ≤ w4.heap.size := Nat.le_trans (by first | exact Nat.le_refl _ | (simp; done) | (simp; omega)) (hb4.size)
      have t272 := t267.below hb4 t267.lt
      have x273 := x268.below hb4 x268.lt
      have r274 := r269.below hb4 r269.lt
      have o275 := o270.below hb4
      have hB276 := hB271.trans (hb4.mono hB271.size)
      clear t267 x268 r269 o270 hB271
      clear t0 t1 t2 t3 tl tf p0 p1 p2 p3 pl pf q0 q1 q2 q3 ql qf ne_tp ne_pt ne_tq ne_qt ne_pq ne_qp
      skip
      clear o275
      have o277 := ho4
      clear ho4
      obtain ⟨t0, t1, t2, t3, tl, tf⟩ := (⟨t272.cell 0, t272.cell 1, t272.cell 2, t272.cell 3, t272.lt, t272.frozen⟩ : _ ∧ _ ∧ _ ∧ _ ∧ _ ∧ _)
      obtain ⟨p0, p1, p2, p3, pl, pf⟩ := (⟨x273.cell 0, x273.cell 1, x273.cell 2, x273.cell 3, x273.lt, x273.frozen⟩ : _ ∧ _ ∧ _ ∧ _ ∧ _ ∧ _)
      obtain ⟨q0, q1, q2, q3, ql, qf⟩ := (⟨r274.cell 0, r274.cell 1, r274.cell 2, r274.cell 3, r274.lt, r274.frozen⟩ : _ ∧ _ ∧ _ ∧ _ ∧ _ ∧ _)
      have ne_tp : ¬ g8 = w.heap.size := by omega
      have ne_pt : ¬ w.heap.size = g8 := by omega
      have ne_tq : ¬ g8 = w.heap.size + 1 := by omega
      have ne_qt : ¬ w.heap.size + 1 = g8 := by omega
      have ne_pq : ¬ w.heap.size = w.heap.size + 1 := by omega
      have ne_qp : ¬ w.heap.size + 1 = w.heap.size := by omega
      have x278 := x273.past (grown_set w4 (g8) 0 (.int .i64 R.d)) (by omega)
      have r279 := r274.past (grown_set w4 (g8) 0 (.int .i64 R.d)) (by omega)
      have hB280 := below_put hB276 (grown_set w4 (g8) 0 (.int .i64 R.d)) (by omega) (by have := hB276.size; omega)
      have o281 := o277.past4 t272 (grown_set w4 (g8) 0 (.int .i64 R.d))
      have t282 : At (w4.setCell ⟨g8, 0, none⟩ (.int .i64 R.d)) (g8) 25 #[.int .i64 R.d, .int .i64 s.w, .slice Aa s.m.length ca, .bool s.b] := by simpa using t272.set 0 (.int .i64 R.d)
      clear x273 r274 hB276 o277 t272
      have x283 := x278.past (grown_set (w4.setCell ⟨g8, 0, none⟩ (.int .i64 R.d)) (g8) 1 (.int .i64 R.w)) (by omega)
      have r284 := r279.past (grown_set (w4.setCell ⟨g8, 0, none⟩ (.int .i64 R.d)) (g8) 1 (.int .i64 R.w)) (by omega)
      have hB285 := below_put hB280 (grown_set (w4.setCell ⟨g8, 0, none⟩ (.int .i64 R.d)) (g8) 1 (.int .i64 R.w)) (by omega) (by have := hB280.size; omega)
      have o286 := o281.past4 t282 (grown_set (w4.setCell ⟨g8, 0, none⟩ (.int .i64 R.d)) (g8) 1 (.int .i64 R.w))
      have t287 : At ((w4.setCell ⟨g8, 0, none⟩ (.int .i64 R.d)).setCell ⟨g8, 1, none⟩ (.int .i64 R.w)) (g8) 25 #[.int .i64 R.d, .int .i64 R.w, .slice Aa s.m.length ca, .bool s.b] := by simpa using t282.set 1 (.int .i64 R.w)
      clear x278 r279 hB280 o281 t282
      have x288 := x283.past (grown_set ((w4.setCell ⟨g8, 0, none⟩ (.int .i64 R.d)).setCell ⟨g8, 1, none⟩ (.int .i64 R.w)) (g8) 2 (.slice A4 R.m.length c4)) (by omega)
      have r289 := r284.past (grown_set ((w4.setCell ⟨g8, 0, none⟩ (.int .i64 R.d)).setCell ⟨g8, 1, none⟩ (.int .i64 R.w)) (g8) 2 (.slice A4 R.m.length c4)) (by omega)
      have hB290 := below_put hB285 (grown_set ((w4.setCell ⟨g8, 0, none⟩ (.int .i64 R.d)).setCell ⟨g8, 1, none⟩ (.int .i64 R.w)) (g8) 2 (.slice A4 R.m.length c4)) (by omega) (by have := hB285.size; omega)
      have o291 := o286.past4 t287 (grown_set ((w4.setCell ⟨g8, 0, none⟩ (.int .i64 R.d)).setCell ⟨g8, 1, none⟩ (.int .i64 R.w)) (g8) 2 (.slice A4 R.m.length c4))
      have t292 : At (((w4.setCell ⟨g8, 0, none⟩ (.int .i64 R.d)).setCell ⟨g8, 1, none⟩ (.int .i64 R.w)).setCell ⟨g8, 2, none⟩ (.slice A4 R.m.length c4)) (g8) 25 #[.int .i64 R.d, .int .i64 R.w, .slice A4 R.m.length c4, .bool s.b] := by simpa using t287.set 2 (.slice A4 R.m.length c4)
      clear x283 r284 hB285 o286 t287
      have x293 := x288.past (grown_set (((w4.setCell ⟨g8, 0, none⟩ (.int .i64 R.d)).setCell ⟨g8, 1, none⟩ (.int .i64 R.w)).setCell ⟨g8, 2, none⟩ (.slice A4 R.m.length c4)) (g8) 3 (.bool R.b)) (by omega)
      have r294 := r289.past (grown_set (((w4.setCell ⟨g8, 0, none⟩ (.int .i64 R.d)).setCell ⟨g8, 1, none⟩ (.int .i64 R.w)).setCell ⟨g8, 2, none⟩ (.slice A4 R.m.length c4)) (g8) 3 (.bool R.b)) (by omega)
      have hB295 := below_put hB290 (grown_set (((w4.setCell ⟨g8, 0, none⟩ (.int .i64 R.d)).setCell ⟨g8, 1, none⟩ (.int .i64 R.w)).setCell ⟨g8, 2, none⟩ (.slice A4 R.m.length c4)) (g8) 3 (.bool R.b)) (by omega) (by have := hB290.size; omega)
      have o296 := o291.past4 t292 (grown_set (((w4.setCell ⟨g8, 0, none⟩ (.int .i64 R.d)).setCell ⟨g8, 1, none⟩ (.int .i64 R.w)).setCell ⟨g8, 2, none⟩ (.slice A4 R.m.length c4)) (g8) 3 (.bool R.b))
      have t297 : At ((((w4.setCell ⟨g8, 0, none⟩ (.int .i64 R.d)).setCell ⟨g8, 1, none⟩ (.int .i64 R.w)).setCell ⟨g8, 2, none⟩ (.slice A4 R.m.length c4)).setCell ⟨g8, 3, none⟩ (.bool R.b)) (g8) 25 #[.int .i64 R.d, .int .i64 R.w, .slice A4 R.m.length c4, .bool R.b] := by simpa using t292.set 3 (.bool R.b)
      clear x288 r289 hB290 o291 t292
      obtain ⟨t0, t1, t2, t3, tl, tf⟩ := (⟨t297.cell 0, t297.cell 1, t297.cell 2, t297.cell 3, t297.lt, t297.frozen⟩ : _ ∧ _ ∧ _ ∧ _ ∧ _ ∧ _)
      obtain ⟨p0, p1, p2, p3, pl, pf⟩ := (⟨x293.cell 0, x293.cell 1, x293.cell 2, x293.cell 3, x293.lt, x293.frozen⟩ : _ ∧ _ ∧ _ ∧ _ ∧ _ ∧ _)
      obtain ⟨q0, q1, q2, q3, ql, qf⟩ := (⟨r294.cell 0, r294.cell 1, r294.cell 2, r294.cell 3, r294.lt, r294.frozen⟩ : _ ∧ _ ∧ _ ∧ _ ∧ _ ∧ _)
      have ne_tp : ¬ g8 = w.heap.size := by omega
      have ne_pt : ¬ w.heap.size = g8 := by omega
      have ne_tq : ¬ g8 = w.heap.size + 1 := by omega
      have ne_qt : ¬ w.heap.size + 1 = g8 := by omega
      have ne_pq : ¬ w.heap.size = w.heap.size + 1 := by omega
      have ne_qp : ¬ w.heap.size + 1 = w.heap.size := by omega
      have t298 := t297.past (grown_set ((((w4.setCell ⟨g8, 0, none⟩ (.int .i64 R.d)).setCell ⟨g8, 1, none⟩ (.int .i64 R.w)).setCell ⟨g8, 2, none⟩ (.slice A4 R.m.length c4)).setCell ⟨g8, 3, none⟩ (.bool R.b)) (w.heap.size + 1) 0 (.int .i64 R.d)) (by omega)
      have x299 := x293.past (grown_set ((((w4.setCell ⟨g8, 0, none⟩ (.int .i64 R.d)).setCell ⟨g8, 1, none⟩ (.int .i64 R.w)).setCell ⟨g8, 2, none⟩ (.slice A4 R.m.length c4)).setCell ⟨g8, 3, none⟩ (.bool R.b)) (w.heap.size + 1) 0 (.int .i64 R.d)) (by omega)
      have hB300 := below_put hB295 (grown_set ((((w4.setCell ⟨g8, 0, none⟩ (.int .i64 R.d)).setCell ⟨g8, 1, none⟩ (.int .i64 R.w)).setCell ⟨g8, 2, none⟩ (.slice A4 R.m.length c4)).setCell ⟨g8, 3, none⟩ (.bool R.b)) (w.heap.size + 1) 0 (.int .i64 R.d)) (by omega) (by have := hB295.size; omega)
      have o301 := o296.past4 r294 (grown_set ((((w4.setCell ⟨g8, 0, none⟩ (.int .i64 R.d)).setCell ⟨g8, 1, none⟩ (.int .i64 R.w)).setCell ⟨g8, 2, none⟩ (.slice A4 R.m.length c4)).setCell ⟨g8, 3, none⟩ (.bool R.b)) (w.heap.size + 1) 0 (.int .i64 R.d))
      have r302 : At (((((w4.setCell ⟨g8, 0, none⟩ (.int .i64 R.d)).setCell ⟨g8, 1, none⟩ (.int .i64 R.w)).setCell ⟨g8, 2, none⟩ (.slice A4 R.m.length c4)).setCell ⟨g8, 3, none⟩ (.bool R.b)).setCell ⟨w.heap.size + 1, 0, none⟩ (.int .i64 R.d)) (w.heap.size + 1) 25 #[.int .i64 R.d, .int .i64 0, .slice none 0 0, .bool false] := by simpa using r294.set 0 (.int .i64 R.d)
      clear t297 x293 hB295 o296 r294
      have t303 := t298.past (grown_set (((((w4.setCell ⟨g8, 0, none⟩ (.int .i64 R.d)).setCell ⟨g8, 1, none⟩ (.int .i64 R.w)).setCell ⟨g8, 2, none⟩ (.slice A4 R.m.length c4)).setCell ⟨g8, 3, none⟩ (.bool R.b)).setCell ⟨w.heap.size + 1, 0, none⟩ (.int .i64 R.d)) (w.heap.size + 1) 1 (.int .i64 R.w)) (by omega)
      have x304 := x299.past (grown_set (((((w4.setCell ⟨g8, 0, none⟩ (.int .i64 R.d)).setCell ⟨g8, 1, none⟩ (.int .i64 R.w)).setCell ⟨g8, 2, none⟩ (.slice A4 R.m.length c4)).setCell ⟨g8, 3, none⟩ (.bool R.b)).setCell ⟨w.heap.size + 1, 0, none⟩ (.int .i64 R.d)) (w.heap.size + 1) 1 (.int .i64 R.w)) (by omega)
      have hB305 := below_put hB300 (grown_set (((((w4.setCell ⟨g8, 0, none⟩ (.int .i64 R.d)).setCell ⟨g8, 1, none⟩ (.int .i64 R.w)).setCell ⟨g8, 2, none⟩ (.slice A4 R.m.length c4)).setCell ⟨g8, 3, none⟩ (.bool R.b)).setCell ⟨w.heap.size + 1, 0, none⟩ (.int .i64 R.d)) (w.heap.size + 1) 1 (.int .i64 R.w)) (by omega) (by have := hB300.size; omega)
      have o306 := o301.past4 r302 (grown_set (((((w4.setCell ⟨g8, 0, none⟩ (.int .i64 R.d)).setCell ⟨g8, 1, none⟩ (.int .i64 R.w)).setCell ⟨g8, 2, none⟩ (.slice A4 R.m.length c4)).setCell ⟨g8, 3, none⟩ (.bool R.b)).setCell ⟨w.heap.size + 1, 0, none⟩ (.int .i64 R.d)) (w.heap.size + 1) 1 (.int .i64 R.w))
      have r307 : At ((((((w4.setCell ⟨g8, 0, none⟩ (.int .i64 R.d)).setCell ⟨g8, 1, none⟩ (.int .i64 R.w)).setCell ⟨g8, 2, none⟩ (.slice A4 R.m.length c4)).setCell ⟨g8, 3, none⟩ (.bool R.b)).setCell ⟨w.heap.size + 1, 0, none⟩ (.int .i64 R.d)).setCell ⟨w.heap.size + 1, 1, none⟩ (.int .i64 R.w)) (w.heap.size + 1) 25 #[.int .i64 R.d, .int .i64 R.w, .slice none 0 0, .bool false] := by simpa using r302.set 1 (.int .i64 R.w)
      clear t298 x299 hB300 o301 r302
      have t308 := t303.past (grown_set ((((((w4.setCell ⟨g8, 0, none⟩ (.int .i64 R.d)).setCell ⟨g8, 1, none⟩ (.int .i64 R.w)).setCell ⟨g8, 2, none⟩ (.slice A4 R.m.length c4)).setCell ⟨g8, 3, none⟩ (.bool R.b)).setCell ⟨w.heap.size + 1, 0, none⟩ (.int .i64 R.d)).setCell ⟨w.heap.size + 1, 1, none⟩ (.int .i64 R.w)) (w.heap.size + 1) 2 (.slice A4 R.m.length c4)) (by omega)
      have x309 := x304.past (grown_set ((((((w4.setCell ⟨g8, 0, none⟩ (.int .i64 R.d)).setCell ⟨g8, 1, none⟩ (.int .i64 R.w)).setCell ⟨g8, 2, none⟩ (.slice A4 R.m.length c4)).setCell ⟨g8, 3, none⟩ (.bool R.b)).setCell ⟨w.heap.size + 1, 0, none⟩ (.int .i64 R.d)).setCell ⟨w.heap.size + 1, 1, none⟩ (.int .i64 R.w)) (w.heap.size + 1) 2 (.slice A4 R.m.length c4)) (by omega)
      have hB310 := below_put hB305 (grown_set ((((((w4.setCell ⟨g8, 0, none⟩ (.int .i64 R.d)).setCell ⟨g8, 1, none⟩ (.int .i64 R.w)).setCell ⟨g8, 2, none⟩ (.slice A4 R.m.length c4)).setCell ⟨g8, 3, none⟩ (.bool R.b)).setCell ⟨w.heap.size + 1, 0, none⟩ (.int .i64 R.d)).setCell ⟨w.heap.size + 1, 1, none⟩ (.int .i64 R.w)) (w.heap.size + 1) 2 (.slice A4 R.m.length c4)) (by omega) (by have := hB305.size; omega)
      have o311 := o306.past4 r307 (grown_set ((((((w4.setCell ⟨g8, 0, none⟩ (.int .i64 R.d)).setCell ⟨g8, 1, none⟩ (.int .i64 R.w)).setCell ⟨g8, 2, none⟩ (.slice A4 R.m.length c4)).setCell ⟨g8, 3, none⟩ (.bool R.b)).setCell ⟨w.heap.size + 1, 0, none⟩ (.int .i64 R.d)).setCell ⟨w.heap.size + 1, 1, none⟩ (.int .i64 R.w)) (w.heap.size + 1) 2 (.slice A4 R.m.length c4))
      have r312 : At (((((((w4.setCell ⟨g8, 0, none⟩ (.int .i64 R.d)).setCell ⟨g8, 1, none⟩ (.int .i64 R.w)).setCell ⟨g8, 2, none⟩ (.slice A4 R.m.length c4)).setCell ⟨g8, 3, none⟩ (.bool R.b)).setCell ⟨w.heap.size + 1, 0, none⟩ (.int .i64 R.d)).setCell ⟨w.heap.size + 1, 1, none⟩ (.int .i64 R.w)).setCell ⟨w.heap.size + 1, 2, none⟩ (.slice A4 R.m.length c4)) (w.heap.size + 1) 25 #[.int .i64 R.d, .int .i64 R.w, .slice A4 R.m.length c4, .bool false] := by simpa using r307.set 2 (.slice A4 R.m.length c4)
      clear t303 x304 hB305 o306 r307
      have t313 := t308.past (grown_set (((((((w4.setCell ⟨g8, 0, none⟩ (.int .i64 R.d)).setCell ⟨g8, 1, none⟩ (.int .i64 R.w)).setCell ⟨g8, 2, none⟩ (.slice A4 R.m.length c4)).setCell ⟨g8, 3, none⟩ (.bool R.b)).setCell ⟨w.heap.size + 1, 0, none⟩ (.int .i64 R.d)).setCell ⟨w.heap.size + 1, 1, none⟩ (.int .i64 R.w)).setCell ⟨w.heap.size + 1, 2, none⟩ (.slice A4 R.m.length c4)) (w.heap.size + 1) 3 (.bool R.b)) (by omega)
      have x314 := x309.past (grown_set (((((((w4.setCell ⟨g8, 0, none⟩ (.int .i64 R.d)).setCell ⟨g8, 1, none⟩ (.int .i64 R.w)).setCell ⟨g8, 2, none⟩ (.slice A4 R.m.length c4)).setCell ⟨g8, 3, none⟩ (.bool R.b)).setCell ⟨w.heap.size + 1, 0, none⟩ (.int .i64 R.d)).setCell ⟨w.heap.size + 1, 1, none⟩ (.int .i64 R.w)).setCell ⟨w.heap.size + 1, 2, none⟩ (.slice A4 R.m.length c4)) (w.heap.size + 1) 3 (.bool R.b)) (by omega)
      have hB315 := below_put hB310 (grown_set (((((((w4.setCell ⟨g8, 0, none⟩ (.int .i64 R.d)).setCell ⟨g8, 1, none⟩ (.int .i64 R.w)).setCell ⟨g8, 2, none⟩ (.slice A4 R.m.length c4)).setCell ⟨g8, 3, none⟩ (.bool R.b)).setCell ⟨w.heap.size + 1, 0, none⟩ (.int .i64 R.d)).setCell ⟨w.heap.size + 1, 1, none⟩ (.int .i64 R.w)).setCell ⟨w.heap.size + 1, 2, none⟩ (.slice A4 R.m.length c4)) (w.heap.size + 1) 3 (.bool R.b)) (by omega) (by have := hB310.size; omega)
      have o316 := o311.past4 r312 (grown_set (((((((w4.setCell ⟨g8, 0, none⟩ (.int .i64 R.d)).setCell ⟨g8, 1, none⟩ (.int .i64 R.w)).setCell ⟨g8, 2, none⟩ (.slice A4 R.m.length c4)).setCell ⟨g8, 3, none⟩ (.bool R.b)).setCell ⟨w.heap.size + 1, 0, none⟩ (.int .i64 R.d)).setCell ⟨w.heap.size + 1, 1, none⟩ (.int .i64 R.w)).setCell ⟨w.heap.size + 1, 2, none⟩ (.slice A4 R.m.length c4)) (w.heap.size + 1) 3 (.bool R.b))
      have r317 : At ((((((((w4.setCell ⟨g8, 0, none⟩ (.int .i64 R.d)).setCell ⟨g8, 1, none⟩ (.int .i64 R.w)).setCell ⟨g8, 2, none⟩ (.slice A4 R.m.length c4)).setCell ⟨g8, 3, none⟩ (.bool R.b)).setCell ⟨w.heap.size + 1, 0, none⟩ (.int .i64 R.d)).setCell ⟨w.heap.size + 1, 1, none⟩ (.int .i64 R.w)).setCell ⟨w.heap.size + 1, 2, none⟩ (.slice A4 R.m.length c4)).setCell ⟨w.heap.size + 1, 3, none⟩ (.bool R.b)) (w.heap.size + 1) 25 #[.int .i64 R.d, .int .i64 R.w, .slice A4 R.m.length c4, .bool R.b] := by simpa using r312.set 3 (.bool R.b)
      clear t308 x309 hB310 o311 r312
      go_wp2
      refine bodyPost_ret (v := .tuple #[.agg #[.int .i64 R.d, .int .i64 R.w, .slice A4 R.m.length c4, .bool R.b], .bool true]) (by simp [results, Try.results13, go_sem, r317.cell]) rfl ?_
      exact ⟨A4, c4, by rw [E.out, E2.out], by rw [E2.out]; exact o316.mono (by omega), hB315⟩

end Go.Proofs.Ytocaddibdiikpaa

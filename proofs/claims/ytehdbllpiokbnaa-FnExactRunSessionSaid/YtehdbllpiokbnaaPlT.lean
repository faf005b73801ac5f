/-
  What the model's ReleaseConn answers: all cases. Condition: the lists lie in memory.
-/
import Derived.Test.YtehdbllpiokbnaaPlT1
import Derived.Test.YtehdbllpiokbnaaPlT2
import Derived.Test.YtehdbllpiokbnaaPlT3
import Derived.StillTailTactics
import Derived.Deep.RegionHeld3
import Derived.Deep.RegionLaw
import Derived.Deep.CutRange

namespace Go.Proofs.Ytehdbllpiokbnaa
open Go.RowKit Pol

set_option maxRecDepth 16384 in
set_option maxHeartbeats 4000000 in
theorem sReleaseConn_any (p : Pl) (A1 A2 A3 : Option Addr) (c1 c2 c3 : Nat) (o : Int) (w : World) (h : SeesP w w.heap.size A1 A2 A3 p) (hcap : p.wait.length ≤ c3) (hcap2 : p.held.length ≤ c2) (h1 : p.idle.length ≤ 2097152) (h2 : p.held.length ≤ 2097152) (h3 : p.wait.length ≤ 2097152) :
    Calls Try.prog 87 #[.agg #[.int .i64 p.mx, .slice A1 p.idle.length c1, .slice A2 p.held.length c2, .slice A3 p.wait.length c3], .int .i64 o] w (PAns3 (relR p o) (relN p o) (relB p o) w) := by
  by_cases hok : Ok p
  · skip
    by_cases hm : o ∈ p.held.map Ho.c
    · skip
      rcases Nat.eq_zero_or_pos p.wait.length with hI | hI
      · exact sReleaseConn_m0 p A1 A2 A3 c1 c2 c3 o w h hcap hcap2 h1 h2 h3 hok hm hI
      by_cases hc1 : c3 = 1
      · exact sReleaseConn_m1 p A1 A2 A3 c1 c2 c3 o w h hcap hcap2 h1 h2 h3 hok hm hI hc1
      · exact sReleaseConn_m2 p A1 A2 A3 c1 c2 c3 o w h hcap hcap2 h1 h2 h3 hok hm hI hc1
    have H1 := hid h1
    have H2 := hid h2
    have H3 := hid h3
    clear h1 h2 h3
    have HK := hid (okB_iff.2 hok)
    have EB := hid (show relB p o = false from Bool.eq_false_iff.2 fun e => hm (relB_iff.1 e).2)
    have HP := hid (Line.place_no hm)
    clear hm hok
    have hB1 := Below.refl w.heap.size w
    have hB2 := hB1.alloc hB1.size (.cells #[.int .i64 p.mx, .slice A1 p.idle.length c1, .slice A2 p.held.length c2, .slice A3 p.wait.length c3] 30)
    clear hB1
    have x3 : At (w.alloc (.cells #[.int .i64 p.mx, .slice A1 p.idle.length c1, .slice A2 p.held.length c2, .slice A3 p.wait.length c3] 30)) (w.heap.size) 30 #[.int .i64 p.mx, .slice A1 p.idle.length c1, .slice A2 p.held.length c2, .slice A3 p.wait.length c3] := At.newAt _ _ (by first | rfl | (simp; done) | (simp; omega))
    have hB4 := hB2.alloc hB2.size (.cells #[.int .i64 0, .slice none 0 0, .slice none 0 0, .slice none 0 0] 30)
    have x5 := x3.alloc (.cells #[.int .i64 0, .slice none 0 0, .slice none 0 0, .slice none 0 0] 30)
    clear hB2 x3
    have r6 : At ((w.alloc (.cells #[.int .i64 p.mx, .slice A1 p.idle.length c1, .slice A2 p.held.length c2, .slice A3 p.wait.length c3] 30)).alloc (.cells #[.int .i64 0, .slice none 0 0, .slice none 0 0, .slice none 0 0] 30)) (w.heap.size + 1) 30 #[.int .i64 0, .slice none 0 0, .slice none 0 0, .slice none 0 0] := At.newAt _ _ (by first | rfl | (simp; done) | (simp; omega))
    go_enter Try.func87, Try.ntmps87
    obtain ⟨p0, p1, p2, p3, pl, pf⟩ := (⟨x5.cell 0, x5.cell 1, x5.cell 2, x5.cell 3, x5.lt, x5.frozen⟩ : _ ∧ _ ∧ _ ∧ _ ∧ _ ∧ _)
    obtain ⟨q0, q1, q2, q3, ql, qf⟩ := (⟨r6.cell 0, r6.cell 1, r6.cell 2, r6.cell 3, r6.lt, r6.frozen⟩ : _ ∧ _ ∧ _ ∧ _ ∧ _ ∧ _)
    go_wp2_with fail
    with_reducible refine (svalidPool_any p A1 A2 A3 c1 c2 c3 _ (h.on hB4) H1.out H2.out (Nat.le_trans H3.out (by decide))).mono ?_
    rintro e w1 ⟨he, hb1⟩
    rw [HK.out] at he
    subst he
    have sz1 : w.heap.size + 2 ≤ w1.heap.size := Nat.le_trans (by first | exact Nat.le_refl _ | (simp; done) | (simp; omega)) (hb1.size)
    have hB7 := hB4.trans (hb1.mono hB4.size)
    have x8 := x5.below hb1 x5.lt
    have r9 := r6.below hb1 r6.lt
    clear hB4 x5 r6
    clear p0 p1 p2 p3 pl pf q0 q1 q2 q3 ql qf
    obtain ⟨p0, p1, p2, p3, pl, pf⟩ := (⟨x8.cell 0, x8.cell 1, x8.cell 2, x8.cell 3, x8.lt, x8.frozen⟩ : _ ∧ _ ∧ _ ∧ _ ∧ _ ∧ _)
    obtain ⟨q0, q1, q2, q3, ql, qf⟩ := (⟨r9.cell 0, r9.cell 1, r9.cell 2, r9.cell 3, r9.lt, r9.frozen⟩ : _ ∧ _ ∧ _ ∧ _ ∧ _ ∧ _)
    go_wp2_with fail
    with_reducible refine (sholder_any p A1 A2 A3 c1 c2 c3 o _ (h.on hB7).held (Nat.le_trans H2.out (by decide))).mono ?_
    rintro e w2 ⟨he, hb2⟩
    rw [HP.out] at he
    subst he
    have sz2 : w1.heap.size ≤ w2.heap.size := Nat.le_trans (by first | exact Nat.le_refl _ | (simp; done) | (simp; omega)) (hb2.size)
    have hB10 := hB7.trans (hb2.mono hB7.size)
    have x11 := x8.below hb2 x8.lt
    have r12 := r9.below hb2 r9.lt
    clear hB7 x8 r9
    clear p0 p1 p2 p3 pl pf q0 q1 q2 q3 ql qf
    obtain ⟨p0, p1, p2, p3, pl, pf⟩ := (⟨x11.cell 0, x11.cell 1, x11.cell 2, x11.cell 3, x11.lt, x11.frozen⟩ : _ ∧ _ ∧ _ ∧ _ ∧ _ ∧ _)
    obtain ⟨q0, q1, q2, q3, ql, qf⟩ := (⟨r12.cell 0, r12.cell 1, r12.cell 2, r12.cell 3, r12.lt, r12.frozen⟩ : _ ∧ _ ∧ _ ∧ _ ∧ _ ∧ _)
    have hB13 := below_put hB10 (grown_set w2 (w.heap.size + 1) 0 (.int .i64 0)) (by omega) (by have := hB10.size; omega)
    have x14 := x11.past (grown_set w2 (w.heap.size + 1) 0 (.int .i64 0)) (by omega)
    have r15 : At (w2.setCell ⟨w.heap.size + 1, 0, none⟩ (.int .i64 0)) (w.heap.size + 1) 30 #[.int .i64 0, .slice none 0 0, .slice none 0 0, .slice none 0 0] := by simpa using r12.set 0 (.int .i64 0)
    clear hB10 x11 r12
    have hB16 := below_put hB13 (grown_set (w2.setCell ⟨w.heap.size + 1, 0, none⟩ (.int .i64 0)) (w.heap.size + 1) 1 (.slice none 0 0)) (by omega) (by have := hB13.size; omega)
    have x17 := x14.past (grown_set (w2.setCell ⟨w.heap.size + 1, 0, none⟩ (.int .i64 0)) (w.heap.size + 1) 1 (.slice none 0 0)) (by omega)
    have r18 : At ((w2.setCell ⟨w.heap.size + 1, 0, none⟩ (.int .i64 0)).setCell ⟨w.heap.size + 1, 1, none⟩ (.slice none 0 0)) (w.heap.size + 1) 30 #[.int .i64 0, .slice none 0 0, .slice none 0 0, .slice none 0 0] := by simpa using r15.set 1 (.slice none 0 0)
    clear hB13 x14 r15
    have hB19 := below_put hB16 (grown_set ((w2.setCell ⟨w.heap.size + 1, 0, none⟩ (.int .i64 0)).setCell ⟨w.heap.size + 1, 1, none⟩ (.slice none 0 0)) (w.heap.size + 1) 2 (.slice none 0 0)) (by omega) (by have := hB16.size; omega)
    have x20 := x17.past (grown_set ((w2.setCell ⟨w.heap.size + 1, 0, none⟩ (.int .i64 0)).setCell ⟨w.heap.size + 1, 1, none⟩ (.slice none 0 0)) (w.heap.size + 1) 2 (.slice none 0 0)) (by omega)
    have r21 : At (((w2.setCell ⟨w.heap.size + 1, 0, none⟩ (.int .i64 0)).setCell ⟨w.heap.size + 1, 1, none⟩ (.slice none 0 0)).setCell ⟨w.heap.size + 1, 2, none⟩ (.slice none 0 0)) (w.heap.size + 1) 30 #[.int .i64 0, .slice none 0 0, .slice none 0 0, .slice none 0 0] := by simpa using r18.set 2 (.slice none 0 0)
    clear hB16 x17 r18
    have hB22 := below_put hB19 (grown_set (((w2.setCell ⟨w.heap.size + 1, 0, none⟩ (.int .i64 0)).setCell ⟨w.heap.size + 1, 1, none⟩ (.slice none 0 0)).setCell ⟨w.heap.size + 1, 2, none⟩ (.slice none 0 0)) (w.heap.size + 1) 3 (.slice none 0 0)) (by omega) (by have := hB19.size; omega)
    have x23 := x20.past (grown_set (((w2.setCell ⟨w.heap.size + 1, 0, none⟩ (.int .i64 0)).setCell ⟨w.heap.size + 1, 1, none⟩ (.slice none 0 0)).setCell ⟨w.heap.size + 1, 2, none⟩ (.slice none 0 0)) (w.heap.size + 1) 3 (.slice none 0 0)) (by omega)
    have r24 : At ((((w2.setCell ⟨w.heap.size + 1, 0, none⟩ (.int .i64 0)).setCell ⟨w.heap.size + 1, 1, none⟩ (.slice none 0 0)).setCell ⟨w.heap.size + 1, 2, none⟩ (.slice none 0 0)).setCell ⟨w.heap.size + 1, 3, none⟩ (.slice none 0 0)) (w.heap.size + 1) 30 #[.int .i64 0, .slice none 0 0, .slice none 0 0, .slice none 0 0] := by simpa using r21.set 3 (.slice none 0 0)
    clear hB19 x20 r21
    go_wp2
    refine bodyPost_ret (v := .tuple #[.agg #[.int .i64 0, .slice none 0 0, .slice none 0 0, .slice none 0 0], .int .i64 (-1), .bool false]) (by simp [results, Try.results87, go_sem, r24.cell]) rfl ?_
    exact (by rw [(rel_no EB.out).1, (rel_no EB.out).2, EB.out]; exact pans3_zero hB22)
  · skip
    have H1 := hid h1
    have H2 := hid h2
    have H3 := hid h3
    clear h1 h2 h3
    have HK := hid (ok_no hok)
    have EB := hid (show relB p o = false from Bool.eq_false_iff.2 fun e => hok (relB_iff.1 e).1)
    have hB25 := Below.refl w.heap.size w
    have hB26 := hB25.alloc hB25.size (.cells #[.int .i64 p.mx, .slice A1 p.idle.length c1, .slice A2 p.held.length c2, .slice A3 p.wait.length c3] 30)
    clear hB25
    have x27 : At (w.alloc (.cells #[.int .i64 p.mx, .slice A1 p.idle.length c1, .slice A2 p.held.length c2, .slice A3 p.wait.length c3] 30)) (w.heap.size) 30 #[.int .i64 p.mx, .slice A1 p.idle.length c1, .slice A2 p.held.length c2, .slice A3 p.wait.length c3] := At.newAt _ _ (by first | rfl | (simp; done) | (simp; omega))
    have hB28 := hB26.alloc hB26.size (.cells #[.int .i64 0, .slice none 0 0, .slice none 0 0, .slice none 0 0] 30)
    have x29 := x27.alloc (.cells #[.int .i64 0, .slice none 0 0, .slice none 0 0, .slice none 0 0] 30)
    clear hB26 x27
    have r30 : At ((w.alloc (.cells #[.int .i64 p.mx, .slice A1 p.idle.length c1, .slice A2 p.held.length c2, .slice A3 p.wait.length c3] 30)).alloc (.cells #[.int .i64 0, .slice none 0 0, .slice none 0 0, .slice none 0 0] 30)) (w.heap.size + 1) 30 #[.int .i64 0, .slice none 0 0, .slice none 0 0, .slice none 0 0] := At.newAt _ _ (by first | rfl | (simp; done) | (simp; omega))
    go_enter Try.func87, Try.ntmps87
    obtain ⟨p0, p1, p2, p3, pl, pf⟩ := (⟨x29.cell 0, x29.cell 1, x29.cell 2, x29.cell 3, x29.lt, x29.frozen⟩ : _ ∧ _ ∧ _ ∧ _ ∧ _ ∧ _)
    obtain ⟨q0, q1, q2, q3, ql, qf⟩ := (⟨r30.cell 0, r30.cell 1, r30.cell 2, r30.cell 3, r30.lt, r30.frozen⟩ : _ ∧ _ ∧ _ ∧ _ ∧ _ ∧ _)
    go_wp2_with fail
    with_reducible refine (svalidPool_any p A1 A2 A3 c1 c2 c3 _ (h.on hB28) H1.out H2.out (Nat.le_trans H3.out (by decide))).mono ?_
    rintro e w1 ⟨he, hb1⟩
    rw [HK.out] at he
    subst he
    have sz1 : w.heap.size + 2 ≤ w1.heap.size := Nat.le_trans (by first | exact Nat.le_refl _ | (simp; done) | (simp; omega)) (hb1.size)
    have hB31 := hB28.trans (hb1.mono hB28.size)
    have x32 := x29.below hb1 x29.lt
    have r33 := r30.below hb1 r30.lt
    clear hB28 x29 r30
    clear p0 p1 p2 p3 pl pf q0 q1 q2 q3 ql qf
    obtain ⟨p0, p1, p2, p3, pl, pf⟩ := (⟨x32.cell 0, x32.cell 1, x32.cell 2, x32.cell 3, x32.lt, x32.frozen⟩ : _ ∧ _ ∧ _ ∧ _ ∧ _ ∧ _)
    obtain ⟨q0, q1, q2, q3, ql, qf⟩ := (⟨r33.cell 0, r33.cell 1, r33.cell 2, r33.cell 3, r33.lt, r33.frozen⟩ : _ ∧ _ ∧ _ ∧ _ ∧ _ ∧ _)
    have hB34 := below_put hB31 (grown_set w1 (w.heap.size + 1) 0 (.int .i64 0)) (by omega) (by have := hB31.size; omega)
    have x35 := x32.past (grown_set w1 (w.heap.size + 1) 0 (.int .i64 0)) (by omega)
    have r36 : At (w1.setCell ⟨w.heap.size + 1, 0, none⟩ (.int .i64 0)) (w.heap.size + 1) 30 #[.int .i64 0, .slice none 0 0, .slice none 0 0, .slice none 0 0] := by simpa using r33.set 0 (.int .i64 0)
    clear hB31 x32 r33
    have hB37 := below_put hB34 (grown_set (w1.setCell ⟨w.heap.size + 1, 0, none⟩ (.int .i64 0)) (w.heap.size + 1) 1 (.slice none 0 0)) (by omega) (by have := hB34.size; omega)
    have x38 := x35.past (grown_set (w1.setCell ⟨w.heap.size + 1, 0, none⟩ (.int .i64 0)) (w.heap.size + 1) 1 (.slice none 0 0)) (by omega)
    have r39 : At ((w1.setCell ⟨w.heap.size + 1, 0, none⟩ (.int .i64 0)).setCell ⟨w.heap.size + 1, 1, none⟩ (.slice none 0 0)) (w.heap.size + 1) 30 #[.int .i64 0, .slice none 0 0, .slice none 0 0, .slice none 0 0] := by simpa using r36.set 1 (.slice none 0 0)
    clear hB34 x35 r36
    have hB40 := below_put hB37 (grown_set ((w1.setCell ⟨w.heap.size + 1, 0, none⟩ (.int .i64 0)).setCell ⟨w.heap.size + 1, 1, none⟩ (.slice none 0 0)) (w.heap.size + 1) 2 (.slice none 0 0)) (by omega) (by have := hB37.size; omega)
    have x41 := x38.past (grown_set ((w1.setCell ⟨w.heap.size + 1, 0, none⟩ (.int .i64 0)).setCell ⟨w.heap.size + 1, 1, none⟩ (.slice none 0 0)) (w.heap.size + 1) 2 (.slice none 0 0)) (by omega)
    have r42 : At (((w1.setCell ⟨w.heap.size + 1, 0, none⟩ (.int .i64 0)).setCell ⟨w.heap.size + 1, 1, none⟩ (.slice none 0 0)).setCell ⟨w.heap.size + 1, 2, none⟩ (.slice none 0 0)) (w.heap.size + 1) 30 #[.int .i64 0, .slice none 0 0, .slice none 0 0, .slice none 0 0] := by simpa using r39.set 2 (.slice none 0 0)
    clear hB37 x38 r39
    have hB43 := below_put hB40 (grown_set (((w1.setCell ⟨w.heap.size + 1, 0, none⟩ (.int .i64 0)).setCell ⟨w.heap.size + 1, 1, none⟩ (.slice none 0 0)).setCell ⟨w.heap.size + 1, 2, none⟩ (.slice none 0 0)) (w.heap.size + 1) 3 (.slice none 0 0)) (by omega) (by have := hB40.size; omega)
    have x44 := x41.past (grown_set (((w1.setCell ⟨w.heap.size + 1, 0, none⟩ (.int .i64 0)).setCell ⟨w.heap.size + 1, 1, none⟩ (.slice none 0 0)).setCell ⟨w.heap.size + 1, 2, none⟩ (.slice none 0 0)) (w.heap.size + 1) 3 (.slice none 0 0)) (by omega)
    have r45 : At ((((w1.setCell ⟨w.heap.size + 1, 0, none⟩ (.int .i64 0)).setCell ⟨w.heap.size + 1, 1, none⟩ (.slice none 0 0)).setCell ⟨w.heap.size + 1, 2, none⟩ (.slice none 0 0)).setCell ⟨w.heap.size + 1, 3, none⟩ (.slice none 0 0)) (w.heap.size + 1) 30 #[.int .i64 0, .slice none 0 0, .slice none 0 0, .slice none 0 0] := by simpa using r42.set 3 (.slice none 0 0)
    clear hB40 x41 r42
    go_wp2
    refine bodyPost_ret (v := .tuple #[.agg #[.int .i64 0, .slice none 0 0, .slice none 0 0, .slice none 0 0], .int .i64 (-1), .bool false]) (by simp [results, Try.results87, go_sem, r45.cell]) rfl ?_
    exact (by rw [(rel_no EB.out).1, (rel_no EB.out).2, EB.out]; exact pans3_zero hB43)

end Go.Proofs.Ytehdbllpiokbnaa

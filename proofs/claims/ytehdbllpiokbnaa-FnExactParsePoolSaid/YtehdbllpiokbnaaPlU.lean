/-
  What the exact laws' helper toPool answers. Condition: the lists lie in memory.
-/
import Derived.Test.YtehdbllpiokbnaaPlE
import Derived.Test.YtehdbllpiokbnaaPlM
namespace Go.Proofs.Ytehdbllpiokbnaa
open Go.RowKit Pol

theorem own_of {w : World} {base : Nat} {v : Value} {ys : List Int} (h : w.ownsRow base 3 1 v ys.length (ints ys)) : Own w base v ys := h
set_option maxHeartbeats 4000000 in
theorem toPool_any (p : Pl) (A1 A2 A3 : Option Addr) (c1 c2 c3 : Nat) (w : World) (h : SeesP w w.heap.size A1 A2 A3 p) (h1 : p.idle.length ≤ 4194304) (h2 : p.held.length ≤ 4194304) (h3 : p.wait.length ≤ 4194304) :
    Calls Try.prog 10 #[.agg #[.int .i64 p.mx, .slice A1 p.idle.length c1, .slice A2 p.held.length c2, .slice A3 p.wait.length c3]] w (CopyAns p w) := by
  obtain ⟨i0, hi0, hz0, hz1, hz2⟩ := info_parts intInfo
  obtain ⟨ih0, hih0, hzh0, hzh1, hzh2⟩ := info_parts holdInfo
  have H1 := hid h1
  have H2 := hid h2
  have H3 := hid h3
  clear h1 h2 h3
  have hB1 := Below.refl w.heap.size w
  have hB2 := hB1.alloc hB1.size (.cells #[.int .i64 p.mx, .slice A1 p.idle.length c1, .slice A2 p.held.length c2, .slice A3 p.wait.length c3] 25)
  clear hB1
  have x3 : At (w.alloc (.cells #[.int .i64 p.mx, .slice A1 p.idle.length c1, .slice A2 p.held.length c2, .slice A3 p.wait.length c3] 25)) (w.heap.size) 25 #[.int .i64 p.mx, .slice A1 p.idle.length c1, .slice A2 p.held.length c2, .slice A3 p.wait.length c3] := At.newAt _ _ (by first | rfl | (simp; done) | (simp; omega))
  have hB4 := hB2.alloc hB2.size (.cells #[.int .i64 0, .slice none 0 0, .slice none 0 0, .slice none 0 0] 30)
  have x5 := x3.alloc (.cells #[.int .i64 0, .slice none 0 0, .slice none 0 0, .slice none 0 0] 30)
  clear hB2 x3
  have r6 : At ((w.alloc (.cells #[.int .i64 p.mx, .slice A1 p.idle.length c1, .slice A2 p.held.length c2, .slice A3 p.wait.length c3] 25)).alloc (.cells #[.int .i64 0, .slice none 0 0, .slice none 0 0, .slice none 0 0] 30)) (w.heap.size + 1) 30 #[.int .i64 0, .slice none 0 0, .slice none 0 0, .slice none 0 0] := At.newAt _ _ (by first | rfl | (simp; done) | (simp; omega))
  have hB7 := hB4.alloc hB4.size (.cells #[.int .i64 p.mx, .slice none 0 0, .slice none 0 0, .slice none 0 0] 30)
  have x8 := x5.alloc (.cells #[.int .i64 p.mx, .slice none 0 0, .slice none 0 0, .slice none 0 0] 30)
  have r9 := r6.alloc (.cells #[.int .i64 p.mx, .slice none 0 0, .slice none 0 0, .slice none 0 0] 30)
  clear hB4 x5 r6
  have t10 : At (((w.alloc (.cells #[.int .i64 p.mx, .slice A1 p.idle.length c1, .slice A2 p.held.length c2, .slice A3 p.wait.length c3] 25)).alloc (.cells #[.int .i64 0, .slice none 0 0, .slice none 0 0, .slice none 0 0] 30)).alloc (.cells #[.int .i64 p.mx, .slice none 0 0, .slice none 0 0, .slice none 0 0] 30)) (w.heap.size + 2) 30 #[.int .i64 p.mx, .slice none 0 0, .slice none 0 0, .slice none 0 0] := At.newAt _ _ (by first | rfl | (simp; done) | (simp; omega))
  go_enter Try.func10, Try.ntmps10
  obtain ⟨p0, p1, p2, p3, pl, pf⟩ := (⟨x8.cell 0, x8.cell 1, x8.cell 2, x8.cell 3, x8.lt, x8.frozen⟩ : _ ∧ _ ∧ _ ∧ _ ∧ _ ∧ _)
  obtain ⟨q0, q1, q2, q3, ql, qf⟩ := (⟨r9.cell 0, r9.cell 1, r9.cell 2, r9.cell 3, r9.lt, r9.frozen⟩ : _ ∧ _ ∧ _ ∧ _ ∧ _ ∧ _)
  obtain ⟨t0, t1, t2, t3, tl, tf⟩ := (⟨t10.cell 0, t10.cell 1, t10.cell 2, t10.cell 3, t10.lt, t10.frozen⟩ : _ ∧ _ ∧ _ ∧ _ ∧ _ ∧ _)
  have ne_pq : ¬ w.heap.size = w.heap.size + 1 := by omega
  have ne_qp : ¬ w.heap.size + 1 = w.heap.size := by omega
  have ne_pt : ¬ w.heap.size = w.heap.size + 2 := by omega
  have ne_tp : ¬ w.heap.size + 2 = w.heap.size := by omega
  have ne_qt : ¬ w.heap.size + 1 = w.heap.size + 2 := by omega
  have ne_tq : ¬ w.heap.size + 2 = w.heap.size + 1 := by omega
  go_wp2_with fail
  with_reducible refine (toIntS_any A1 c1 p.idle _ (h.on hB7).idle H1.out).mono ?_
  rintro e w1 ⟨v1, rfl, hn1, hb1⟩
  obtain ⟨An1, cn1, rfl, _⟩ := hn1.form
  have sz1 : w.heap.size + 3 ≤ w1.heap.size := Nat.le_trans (by first | exact Nat.le_refl _ | (simp; done) | (simp; omega)) (hb1.size)
  have lo1 := (own_mono hn1.out (show w.heap.size + 3 ≤ _ by first | exact Nat.le_refl _ | (simp; done))).lt
  have hB11 := hB7.trans (hb1.mono hB7.size)
  have x12 := x8.below hb1 x8.lt
  have r13 := r9.below hb1 r9.lt
  have t14 := t10.below hb1 t10.lt
  clear hB7 x8 r9 t10
  clear p0 p1 p2 p3 pl pf q0 q1 q2 q3 ql qf t0 t1 t2 t3 tl tf ne_pq ne_qp ne_pt ne_tp ne_qt ne_tq
  have l115 := hn1.out
  clear hn1
  obtain ⟨p0, p1, p2, p3, pl, pf⟩ := (⟨x12.cell 0, x12.cell 1, x12.cell 2, x12.cell 3, x12.lt, x12.frozen⟩ : _ ∧ _ ∧ _ ∧ _ ∧ _ ∧ _)
  obtain ⟨q0, q1, q2, q3, ql, qf⟩ := (⟨r13.cell 0, r13.cell 1, r13.cell 2, r13.cell 3, r13.lt, r13.frozen⟩ : _ ∧ _ ∧ _ ∧ _ ∧ _ ∧ _)
  obtain ⟨t0, t1, t2, t3, tl, tf⟩ := (⟨t14.cell 0, t14.cell 1, t14.cell 2, t14.cell 3, t14.lt, t14.frozen⟩ : _ ∧ _ ∧ _ ∧ _ ∧ _ ∧ _)
  have ne_pq : ¬ w.heap.size = w.heap.size + 1 := by omega
  have ne_qp : ¬ w.heap.size + 1 = w.heap.size := by omega
  have ne_pt : ¬ w.heap.size = w.heap.size + 2 := by omega
  have ne_tp : ¬ w.heap.size + 2 = w.heap.size := by omega
  have ne_qt : ¬ w.heap.size + 1 = w.heap.size + 2 := by omega
  have ne_tq : ¬ w.heap.size + 2 = w.heap.size + 1 := by omega
  have hB16 := below_put hB11 (grown_set w1 (w.heap.size + 2) 1 (.slice An1 p.idle.length cn1)) (by omega) (by have := hB11.size; omega)
  have x17 := x12.past (grown_set w1 (w.heap.size + 2) 1 (.slice An1 p.idle.length cn1)) (by omega)
  have r18 := r13.past (grown_set w1 (w.heap.size + 2) 1 (.slice An1 p.idle.length cn1)) (by omega)
  have l119 := row_past l115 t14 (by decide) (grown_set w1 (w.heap.size + 2) 1 (.slice An1 p.idle.length cn1))
  have t20 : At (w1.setCell ⟨w.heap.size + 2, 1, none⟩ (.slice An1 p.idle.length cn1)) (w.heap.size + 2) 30 #[.int .i64 p.mx, .slice An1 p.idle.length cn1, .slice none 0 0, .slice none 0 0] := by simpa using t14.set 1 (.slice An1 p.idle.length cn1)
  clear hB11 x12 r13 l115 t14
  go_wp2_with fail
  with_reducible refine (toHoldS_any A2 c2 p.held _ (h.on hB16).held H2.out).mono ?_
  rintro e w2 ⟨v2, rfl, hn2, hb2⟩
  obtain ⟨An2, cn2, rfl, _⟩ := hn2.form
  have sz2 : w1.heap.size ≤ w2.heap.size := Nat.le_trans (by first | exact Nat.le_refl _ | (simp; done) | (simp; omega)) (hb2.size)
  have lo2 := (own_mono hn2.out (show w1.heap.size ≤ _ by first | exact Nat.le_refl _ | (simp; done))).lt
  have hB21 := hB16.trans (hb2.mono hB16.size)
  have x22 := x17.below hb2 x17.lt
  have r23 := r18.below hb2 r18.lt
  have t24 := t20.below hb2 t20.lt
  have l125 := own_below l119 hb2
  clear hB16 x17 r18 t20 l119
  clear p0 p1 p2 p3 pl pf q0 q1 q2 q3 ql qf t0 t1 t2 t3 tl tf ne_pq ne_qp ne_pt ne_tp ne_qt ne_tq
  have l226 := hn2.out
  clear hn2
  obtain ⟨p0, p1, p2, p3, pl, pf⟩ := (⟨x22.cell 0, x22.cell 1, x22.cell 2, x22.cell 3, x22.lt, x22.frozen⟩ : _ ∧ _ ∧ _ ∧ _ ∧ _ ∧ _)
  obtain ⟨q0, q1, q2, q3, ql, qf⟩ := (⟨r23.cell 0, r23.cell 1, r23.cell 2, r23.cell 3, r23.lt, r23.frozen⟩ : _ ∧ _ ∧ _ ∧ _ ∧ _ ∧ _)
  obtain ⟨t0, t1, t2, t3, tl, tf⟩ := (⟨t24.cell 0, t24.cell 1, t24.cell 2, t24.cell 3, t24.lt, t24.frozen⟩ : _ ∧ _ ∧ _ ∧ _ ∧ _ ∧ _)
  have ne_pq : ¬ w.heap.size = w.heap.size + 1 := by omega
  have ne_qp : ¬ w.heap.size + 1 = w.heap.size := by omega
  have ne_pt : ¬ w.heap.size = w.heap.size + 2 := by omega
  have ne_tp : ¬ w.heap.size + 2 = w.heap.size := by omega
  have ne_qt : ¬ w.heap.size + 1 = w.heap.size + 2 := by omega
  have ne_tq : ¬ w.heap.size + 2 = w.heap.size + 1 := by omega
  have hB27 := below_put hB21 (grown_set w2 (w.heap.size + 2) 2 (.slice An2 p.held.length cn2)) (by omega) (by have := hB21.size; omega)
  have x28 := x22.past (grown_set w2 (w.heap.size + 2) 2 (.slice An2 p.held.length cn2)) (by omega)
  have r29 := r23.past (grown_set w2 (w.heap.size + 2) 2 (.slice An2 p.held.length cn2)) (by omega)
  have l130 := row_past l125 t24 (by decide) (grown_set w2 (w.heap.size + 2) 2 (.slice An2 p.held.length cn2))
  have l231 := row_past l226 t24 (by decide) (grown_set w2 (w.heap.size + 2) 2 (.slice An2 p.held.length cn2))
  have t32 : At (w2.setCell ⟨w.heap.size + 2, 2, none⟩ (.slice An2 p.held.length cn2)) (w.heap.size + 2) 30 #[.int .i64 p.mx, .slice An1 p.idle.length cn1, .slice An2 p.held.length cn2, .slice none 0 0] := by simpa using t24.set 2 (.slice An2 p.held.length cn2)
  clear hB21 x22 r23 l125 l226 t24
  go_wp2_with fail
  with_reducible refine (toIntS_any A3 c3 p.wait _ (h.on hB27).wait H3.out).mono ?_
  rintro e w3 ⟨v3, rfl, hn3, hb3⟩
  obtain ⟨An3, cn3, rfl, _⟩ := hn3.form
  have sz3 : w2.heap.size ≤ w3.heap.size := Nat.le_trans (by first | exact Nat.le_refl _ | (simp; done) | (simp; omega)) (hb3.size)
  have lo3 := (own_mono hn3.out (show w2.heap.size ≤ _ by first | exact Nat.le_refl _ | (simp; done))).lt
  have hB33 := hB27.trans (hb3.mono hB27.size)
  have x34 := x28.below hb3 x28.lt
  have r35 := r29.below hb3 r29.lt
  have t36 := t32.below hb3 t32.lt
  have l137 := own_below l130 hb3
  have l238 := own_below l231 hb3
  clear hB27 x28 r29 t32 l130 l231
  clear p0 p1 p2 p3 pl pf q0 q1 q2 q3 ql qf t0 t1 t2 t3 tl tf ne_pq ne_qp ne_pt ne_tp ne_qt ne_tq
  have l339 := hn3.out
  clear hn3
  obtain ⟨p0, p1, p2, p3, pl, pf⟩ := (⟨x34.cell 0, x34.cell 1, x34.cell 2, x34.cell 3, x34.lt, x34.frozen⟩ : _ ∧ _ ∧ _ ∧ _ ∧ _ ∧ _)
  obtain ⟨q0, q1, q2, q3, ql, qf⟩ := (⟨r35.cell 0, r35.cell 1, r35.cell 2, r35.cell 3, r35.lt, r35.frozen⟩ : _ ∧ _ ∧ _ ∧ _ ∧ _ ∧ _)
  obtain ⟨t0, t1, t2, t3, tl, tf⟩ := (⟨t36.cell 0, t36.cell 1, t36.cell 2, t36.cell 3, t36.lt, t36.frozen⟩ : _ ∧ _ ∧ _ ∧ _ ∧ _ ∧ _)
  have ne_pq : ¬ w.heap.size = w.heap.size + 1 := by omega
  have ne_qp : ¬ w.heap.size + 1 = w.heap.size := by omega
  have ne_pt : ¬ w.heap.size = w.heap.size + 2 := by omega
  have ne_tp : ¬ w.heap.size + 2 = w.heap.size := by omega
  have ne_qt : ¬ w.heap.size + 1 = w.heap.size + 2 := by omega
  have ne_tq : ¬ w.heap.size + 2 = w.heap.size + 1 := by omega
  have hB40 := below_put hB33 (grown_set w3 (w.heap.size + 2) 3 (.slice An3 p.wait.length cn3)) (by omega) (by have := hB33.size; omega)
  have x41 := x34.past (grown_set w3 (w.heap.size + 2) 3 (.slice An3 p.wait.length cn3)) (by omega)
  have r42 := r35.past (grown_set w3 (w.heap.size + 2) 3 (.slice An3 p.wait.length cn3)) (by omega)
  have l143 := row_past l137 t36 (by decide) (grown_set w3 (w.heap.size + 2) 3 (.slice An3 p.wait.length cn3))
  have l244 := row_past l238 t36 (by decide) (grown_set w3 (w.heap.size + 2) 3 (.slice An3 p.wait.length cn3))
  have l345 := row_past l339 t36 (by decide) (grown_set w3 (w.heap.size + 2) 3 (.slice An3 p.wait.length cn3))
  have t46 : At (w3.setCell ⟨w.heap.size + 2, 3, none⟩ (.slice An3 p.wait.length cn3)) (w.heap.size + 2) 30 #[.int .i64 p.mx, .slice An1 p.idle.length cn1, .slice An2 p.held.length cn2, .slice An3 p.wait.length cn3] := by simpa using t36.set 3 (.slice An3 p.wait.length cn3)
  clear hB33 x34 r35 l137 l238 l339 t36
  have hO : OwnP (w3.setCell ⟨w.heap.size + 2, 3, none⟩ (.slice An3 p.wait.length cn3)) w.heap.size An1 An2 An3 cn1 cn2 cn3 p := ⟨own_mono l143 (by first | omega | (simp; omega)), own_mono l244 (by first | omega | (simp; omega)), own_mono l345 (by first | omega | (simp; omega)), far_of lo1 lo2 (.inl (by first | omega | (simp; omega))), far_of lo1 lo3 (.inl (by first | omega | (simp; omega))), far_of lo2 lo3 (.inl (by first | omega | (simp; omega)))⟩
  clear l143
  clear l244
  clear l345
  have o47 := hO
  have hB48 := below_put hB40 (grown_set (w3.setCell ⟨w.heap.size + 2, 3, none⟩ (.slice An3 p.wait.length cn3)) (w.heap.size + 1) 0 (.int .i64 p.mx)) (by omega) (by have := hB40.size; omega)
  have x49 := x41.past (grown_set (w3.setCell ⟨w.heap.size + 2, 3, none⟩ (.slice An3 p.wait.length cn3)) (w.heap.size + 1) 0 (.int .i64 p.mx)) (by omega)
  have t50 := t46.past (grown_set (w3.setCell ⟨w.heap.size + 2, 3, none⟩ (.slice An3 p.wait.length cn3)) (w.heap.size + 1) 0 (.int .i64 p.mx)) (by omega)
  have o51 := o47.past r42 (grown_set (w3.setCell ⟨w.heap.size + 2, 3, none⟩ (.slice An3 p.wait.length cn3)) (w.heap.size + 1) 0 (.int .i64 p.mx))
  have r52 : At ((w3.setCell ⟨w.heap.size + 2, 3, none⟩ (.slice An3 p.wait.length cn3)).setCell ⟨w.heap.size + 1, 0, none⟩ (.int .i64 p.mx)) (w.heap.size + 1) 30 #[.int .i64 p.mx, .slice none 0 0, .slice none 0 0, .slice none 0 0] := by simpa using r42.set 0 (.int .i64 p.mx)
  clear hB40 x41 t46 o47 r42
  have hB53 := below_put hB48 (grown_set ((w3.setCell ⟨w.heap.size + 2, 3, none⟩ (.slice An3 p.wait.length cn3)).setCell ⟨w.heap.size + 1, 0, none⟩ (.int .i64 p.mx)) (w.heap.size + 1) 1 (.slice An1 p.idle.length cn1)) (by omega) (by have := hB48.size; omega)
  have x54 := x49.past (grown_set ((w3.setCell ⟨w.heap.size + 2, 3, none⟩ (.slice An3 p.wait.length cn3)).setCell ⟨w.heap.size + 1, 0, none⟩ (.int .i64 p.mx)) (w.heap.size + 1) 1 (.slice An1 p.idle.length cn1)) (by omega)
  have t55 := t50.past (grown_set ((w3.setCell ⟨w.heap.size + 2, 3, none⟩ (.slice An3 p.wait.length cn3)).setCell ⟨w.heap.size + 1, 0, none⟩ (.int .i64 p.mx)) (w.heap.size + 1) 1 (.slice An1 p.idle.length cn1)) (by omega)
  have o56 := o51.past r52 (grown_set ((w3.setCell ⟨w.heap.size + 2, 3, none⟩ (.slice An3 p.wait.length cn3)).setCell ⟨w.heap.size + 1, 0, none⟩ (.int .i64 p.mx)) (w.heap.size + 1) 1 (.slice An1 p.idle.length cn1))
  have r57 : At (((w3.setCell ⟨w.heap.size + 2, 3, none⟩ (.slice An3 p.wait.length cn3)).setCell ⟨w.heap.size + 1, 0, none⟩ (.int .i64 p.mx)).setCell ⟨w.heap.size + 1, 1, none⟩ (.slice An1 p.idle.length cn1)) (w.heap.size + 1) 30 #[.int .i64 p.mx, .slice An1 p.idle.length cn1, .slice none 0 0, .slice none 0 0] := by simpa using r52.set 1 (.slice An1 p.idle.length cn1)
  clear hB48 x49 t50 o51 r52
  have hB58 := below_put hB53 (grown_set (((w3.setCell ⟨w.heap.size + 2, 3, none⟩ (.slice An3 p.wait.length cn3)).setCell ⟨w.heap.size + 1, 0, none⟩ (.int .i64 p.mx)).setCell ⟨w.heap.size + 1, 1, none⟩ (.slice An1 p.idle.length cn1)) (w.heap.size + 1) 2 (.slice An2 p.held.length cn2)) (by omega) (by have := hB53.size; omega)
  have x59 := x54.past (grown_set (((w3.setCell ⟨w.heap.size + 2, 3, none⟩ (.slice An3 p.wait.length cn3)).setCell ⟨w.heap.size + 1, 0, none⟩ (.int .i64 p.mx)).setCell ⟨w.heap.size + 1, 1, none⟩ (.slice An1 p.idle.length cn1)) (w.heap.size + 1) 2 (.slice An2 p.held.length cn2)) (by omega)
  have t60 := t55.past (grown_set (((w3.setCell ⟨w.heap.size + 2, 3, none⟩ (.slice An3 p.wait.length cn3)).setCell ⟨w.heap.size + 1, 0, none⟩ (.int .i64 p.mx)).setCell ⟨w.heap.size + 1, 1, none⟩ (.slice An1 p.idle.length cn1)) (w.heap.size + 1) 2 (.slice An2 p.held.length cn2)) (by omega)
  have o61 := o56.past r57 (grown_set (((w3.setCell ⟨w.heap.size + 2, 3, none⟩ (.slice An3 p.wait.length cn3)).setCell ⟨w.heap.size + 1, 0, none⟩ (.int .i64 p.mx)).setCell ⟨w.heap.size + 1, 1, none⟩ (.slice An1 p.idle.length cn1)) (w.heap.size + 1) 2 (.slice An2 p.held.length cn2))
  have r62 : At ((((w3.setCell ⟨w.heap.size + 2, 3, none⟩ (.slice An3 p.wait.length cn3)).setCell ⟨w.heap.size + 1, 0, none⟩ (.int .i64 p.mx)).setCell ⟨w.heap.size + 1, 1, none⟩ (.slice An1 p.idle.length cn1)).setCell ⟨w.heap.size + 1, 2, none⟩ (.slice An2 p.held.length cn2)) (w.heap.size + 1) 30 #[.int .i64 p.mx, .slice An1 p.idle.length cn1, .slice An2 p.held.length cn2, .slice none 0 0] := by simpa using r57.set 2 (.slice An2 p.held.length cn2)
  clear hB53 x54 t55 o56 r57
  have hB63 := below_put hB58 (grown_set ((((w3.setCell ⟨w.heap.size + 2, 3, none⟩ (.slice An3 p.wait.length cn3)).setCell ⟨w.heap.size + 1, 0, none⟩ (.int .i64 p.mx)).setCell ⟨w.heap.size + 1, 1, none⟩ (.slice An1 p.idle.length cn1)).setCell ⟨w.heap.size + 1, 2, none⟩ (.slice An2 p.held.length cn2)) (w.heap.size + 1) 3 (.slice An3 p.wait.length cn3)) (by omega) (by have := hB58.size; omega)
  have x64 := x59.past (grown_set ((((w3.setCell ⟨w.heap.size + 2, 3, none⟩ (.slice An3 p.wait.length cn3)).setCell ⟨w.heap.size + 1, 0, none⟩ (.int .i64 p.mx)).setCell ⟨w.heap.size + 1, 1, none⟩ (.slice An1 p.idle.length cn1)).setCell ⟨w.heap.size + 1, 2, none⟩ (.slice An2 p.held.length cn2)) (w.heap.size + 1) 3 (.slice An3 p.wait.length cn3)) (by omega)
  have t65 := t60.past (grown_set ((((w3.setCell ⟨w.heap.size + 2, 3, none⟩ (.slice An3 p.wait.length cn3)).setCell ⟨w.heap.size + 1, 0, none⟩ (.int .i64 p.mx)).setCell ⟨w.heap.size + 1, 1, none⟩ (.slice An1 p.idle.length cn1)).setCell ⟨w.heap.size + 1, 2, none⟩ (.slice An2 p.held.length cn2)) (w.heap.size + 1) 3 (.slice An3 p.wait.length cn3)) (by omega)
  have o66 := o61.past r62 (grown_set ((((w3.setCell ⟨w.heap.size + 2, 3, none⟩ (.slice An3 p.wait.length cn3)).setCell ⟨w.heap.size + 1, 0, none⟩ (.int .i64 p.mx)).setCell ⟨w.heap.size + 1, 1, none⟩ (.slice An1 p.idle.length cn1)).setCell ⟨w.heap.size + 1, 2, none⟩ (.slice An2 p.held.length cn2)) (w.heap.size + 1) 3 (.slice An3 p.wait.length cn3))
  have r67 : At (((((w3.setCell ⟨w.heap.size + 2, 3, none⟩ (.slice An3 p.wait.length cn3)).setCell ⟨w.heap.size + 1, 0, none⟩ (.int .i64 p.mx)).setCell ⟨w.heap.size + 1, 1, none⟩ (.slice An1 p.idle.length cn1)).setCell ⟨w.heap.size + 1, 2, none⟩ (.slice An2 p.held.length cn2)).setCell ⟨w.heap.size + 1, 3, none⟩ (.slice An3 p.wait.length cn3)) (w.heap.size + 1) 30 #[.int .i64 p.mx, .slice An1 p.idle.length cn1, .slice An2 p.held.length cn2, .slice An3 p.wait.length cn3] := by simpa using r62.set 3 (.slice An3 p.wait.length cn3)
  clear hB58 x59 t60 o61 r62
  go_wp2
  refine bodyPost_ret (v := .agg #[.int .i64 p.mx, .slice An1 p.idle.length cn1, .slice An2 p.held.length cn2, .slice An3 p.wait.length cn3]) (by simp [results, Try.results10, go_sem, r67.cell]) rfl ⟨_, _, _, _, _, _, rfl, o66, hB63⟩

end Go.Proofs.Ytehdbllpiokbnaa

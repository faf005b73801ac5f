/-
  What the program's joinWait answers. Condition: the lists lie in memory.
-/
import Derived.Test.YtehdbllpiokbnaaPlF

namespace Go.Proofs.Ytehdbllpiokbnaa
open Go.RowKit Pol

/-- The call answers a pool of its own, a number and a truth value. -/
def PAns3 (R : Pl) (n : Int) (b : Bool) (w : World) (e : Ending) (w' : World) : Prop := ∃ B1 B2 B3 d1 d2 d3, e = .returned (.tuple #[.agg #[.int .i64 R.mx, .slice B1 R.idle.length d1, .slice B2 R.held.length d2, .slice B3 R.wait.length d3], .int .i64 n, .bool b]) ∧ OwnP w' w.heap.size B1 B2 B3 d1 d2 d3 R ∧ Below w.heap.size w w'
def PAns2 (R : Pl) (n : Int) (w : World) (e : Ending) (w' : World) : Prop := ∃ B1 B2 B3 d1 d2 d3, e = .returned (.tuple #[.agg #[.int .i64 R.mx, .slice B1 R.idle.length d1, .slice B2 R.held.length d2, .slice B3 R.wait.length d3], .int .i64 n]) ∧ OwnP w' w.heap.size B1 B2 B3 d1 d2 d3 R ∧ Below w.heap.size w w'
theorem pans3_zero {n : Int} {b : Bool} {w w' : World} (h : Below w.heap.size w w') : PAns3 Pl.zero n b w (.returned (.tuple #[.agg #[.int .i64 0, .slice none 0 0, .slice none 0 0, .slice none 0 0], .int .i64 n, .bool b])) w' := ⟨none, none, none, 0, 0, 0, rfl, OwnP.zero _ _, h⟩
theorem pans2_zero {n : Int} {w w' : World} (h : Below w.heap.size w w') : PAns2 Pl.zero n w (.returned (.tuple #[.agg #[.int .i64 0, .slice none 0 0, .slice none 0 0, .slice none 0 0], .int .i64 n])) w' := ⟨none, none, none, 0, 0, 0, rfl, OwnP.zero _ _, h⟩

set_option maxHeartbeats 4000000 in
theorem joinWait_full (p : Pl) (A1 A2 A3 : Option Addr) (c1 c2 c3 : Nat) (o : Int) (w : World) (_h : SeesP w w.heap.size A1 A2 A3 p) (hw : (p.wait.length : Int) = 12) :
    Calls Try.prog 103 #[.agg #[.int .i64 p.mx, .slice A1 p.idle.length c1, .slice A2 p.held.length c2, .slice A3 p.wait.length c3], .int .i64 o] w (fun e w' => e = .returned (.tuple #[.agg #[.int .i64 0, .slice none 0 0, .slice none 0 0, .slice none 0 0], .int .i64 (-1), .bool false]) ∧ Below w.heap.size w w') := by
  obtain ⟨i0, hi0, hz0, hz1, hz2⟩ := info_parts intInfo
  obtain ⟨ih0, hih0, hzh0, hzh1, hzh2⟩ := info_parts holdInfo
  have hwb : ((p.wait.length : Int) == 12) = true := by simpa using hw
  clear hw
  have hB1 := Below.refl w.heap.size w
  have hB2 := hB1.alloc hB1.size (.cells #[.int .i64 p.mx, .slice A1 p.idle.length c1, .slice A2 p.held.length c2, .slice A3 p.wait.length c3] 30)
  clear hB1
  have x3 : At (w.alloc (.cells #[.int .i64 p.mx, .slice A1 p.idle.length c1, .slice A2 p.held.length c2, .slice A3 p.wait.length c3] 30)) (w.heap.size) 30 #[.int .i64 p.mx, .slice A1 p.idle.length c1, .slice A2 p.held.length c2, .slice A3 p.wait.length c3] := At.newAt _ _ (by first | rfl | (simp; done) | (simp; omega))
  have hB4 := hB2.alloc hB2.size (.cells #[.int .i64 0, .slice none 0 0, .slice none 0 0, .slice none 0 0] 30)
  have x5 := x3.alloc (.cells #[.int .i64 0, .slice none 0 0, .slice none 0 0, .slice none 0 0] 30)
  clear hB2 x3
  have r6 : At ((w.alloc (.cells #[.int .i64 p.mx, .slice A1 p.idle.length c1, .slice A2 p.held.length c2, .slice A3 p.wait.length c3] 30)).alloc (.cells #[.int .i64 0, .slice none 0 0, .slice none 0 0, .slice none 0 0] 30)) (w.heap.size + 1) 30 #[.int .i64 0, .slice none 0 0, .slice none 0 0, .slice none 0 0] := At.newAt _ _ (by first | rfl | (simp; done) | (simp; omega))
  go_enter Try.func103, Try.ntmps103
  obtain ⟨p0, p1, p2, p3, pl, pf⟩ := (⟨x5.cell 0, x5.cell 1, x5.cell 2, x5.cell 3, x5.lt, x5.frozen⟩ : _ ∧ _ ∧ _ ∧ _ ∧ _ ∧ _)
  obtain ⟨q0, q1, q2, q3, ql, qf⟩ := (⟨r6.cell 0, r6.cell 1, r6.cell 2, r6.cell 3, r6.lt, r6.frozen⟩ : _ ∧ _ ∧ _ ∧ _ ∧ _ ∧ _)
  go_wp2
  refine bodyPost_ret (v := .tuple #[.agg #[.int .i64 0, .slice none 0 0, .slice none 0 0, .slice none 0 0], .int .i64 (-1), .bool false]) (by simp [results, Try.results103, go_sem]) rfl ⟨rfl, by go_grown⟩

set_option maxHeartbeats 4000000 in
theorem joinWait_ok (p : Pl) (A1 A2 A3 : Option Addr) (c1 c2 c3 : Nat) (o : Int) (w : World) (h : SeesP w w.heap.size A1 A2 A3 p) (hw : ¬ (p.wait.length : Int) = 12) (h1 : p.idle.length ≤ 2097152) (h2 : p.held.length ≤ 2097152) (h3 : p.wait.length ≤ 2097152) :
    Calls Try.prog 103 #[.agg #[.int .i64 p.mx, .slice A1 p.idle.length c1, .slice A2 p.held.length c2, .slice A3 p.wait.length c3], .int .i64 o] w (PAns3 ⟨p.mx, p.idle, p.held, p.wait ++ [o]⟩ (-1) true w) := by
  obtain ⟨i0, hi0, hz0, hz1, hz2⟩ := info_parts intInfo
  obtain ⟨ih0, hih0, hzh0, hzh1, hzh2⟩ := info_parts holdInfo
  have hwb : ((p.wait.length : Int) == 12) = false := by simpa using hw
  clear hw
  have H1 := hid h1
  have H2 := hid h2
  have H3 := hid h3
  clear h1 h2 h3
  have hB1 := Below.refl w.heap.size w
  have hB2 := hB1.alloc hB1.size (.cells #[.int .i64 p.mx, .slice A1 p.idle.length c1, .slice A2 p.held.length c2, .slice A3 p.wait.length c3] 30)
  clear hB1
  have x3 : At (w.alloc (.cells #[.int .i64 p.mx, .slice A1 p.idle.length c1, .slice A2 p.held.length c2, .slice A3 p.wait.length c3] 30)) (w.heap.size) 30 #[.int .i64 p.mx, .slice A1 p.idle.length c1, .slice A2 p.held.length c2, .slice A3 p.wait.length c3] := At.newAt _ _ (by first | rfl | (simp; done) | (simp; omega))
  have hB4 := hB2.alloc hB2.size (.cells #[.int .i64 0, .slice none 0 0, .slice none 0 0, .slice none 0 0] 30)
  have x5 := x3.alloc (.cells #[.int .i64 0, .slice none 0 0, .slice none 0 0, .slice none 0 0] 30)
  clear hB2 x3
  have r6 : At ((w.alloc (.cells #[.int .i64 p.mx, .slice A1 p.idle.length c1, .slice A2 p.held.length c2, .slice A3 p.wait.length c3] 30)).alloc (.cells #[.int .i64 0, .slice none 0 0, .slice none 0 0, .slice none 0 0] 30)) (w.heap.size + 1) 30 #[.int .i64 0, .slice none 0 0, .slice none 0 0, .slice none 0 0] := At.newAt _ _ (by first | rfl | (simp; done) | (simp; omega))
  go_enter Try.func103, Try.ntmps103
  obtain ⟨p0, p1, p2, p3, pl, pf⟩ := (⟨x5.cell 0, x5.cell 1, x5.cell 2, x5.cell 3, x5.lt, x5.frozen⟩ : _ ∧ _ ∧ _ ∧ _ ∧ _ ∧ _)
  obtain ⟨q0, q1, q2, q3, ql, qf⟩ := (⟨r6.cell 0, r6.cell 1, r6.cell 2, r6.cell 3, r6.lt, r6.frozen⟩ : _ ∧ _ ∧ _ ∧ _ ∧ _ ∧ _)
  go_wp2_with fail
  with_reducible refine (icopyPool_any p A1 A2 A3 c1 c2 c3 _ (h.on hB4) (Nat.le_trans H1.out (by decide)) (Nat.le_trans H2.out (by decide)) (Nat.le_trans H3.out (by decide))).mono ?_
  rintro e w1 ⟨B1, B2, B3, d1, d2, d3, rfl, ho, hb1⟩
  have sz1 : w.heap.size + 2 ≤ w1.heap.size := Nat.le_trans (by first | exact Nat.le_refl _ | (simp; done) | (simp; omega)) (hb1.size)
  have hB7 := hB4.trans (hb1.mono hB4.size)
  have x8 := x5.below hb1 x5.lt
  have r9 := r6.below hb1 r6.lt
  clear hB4 x5 r6
  clear p0 p1 p2 p3 pl pf q0 q1 q2 q3 ql qf
  have o10 := ho.mono (show w.heap.size + 2 ≤ _ by simp)
  clear ho
  obtain ⟨p0, p1, p2, p3, pl, pf⟩ := (⟨x8.cell 0, x8.cell 1, x8.cell 2, x8.cell 3, x8.lt, x8.frozen⟩ : _ ∧ _ ∧ _ ∧ _ ∧ _ ∧ _)
  obtain ⟨q0, q1, q2, q3, ql, qf⟩ := (⟨r9.cell 0, r9.cell 1, r9.cell 2, r9.cell 3, r9.lt, r9.frozen⟩ : _ ∧ _ ∧ _ ∧ _ ∧ _ ∧ _)
  have hB11 := hB7.alloc hB7.size (.cells #[.int .i64 p.mx, .slice B1 p.idle.length d1, .slice B2 p.held.length d2, .slice B3 p.wait.length d3] 30)
  have x12 := x8.alloc (.cells #[.int .i64 p.mx, .slice B1 p.idle.length d1, .slice B2 p.held.length d2, .slice B3 p.wait.length d3] 30)
  have r13 := r9.alloc (.cells #[.int .i64 p.mx, .slice B1 p.idle.length d1, .slice B2 p.held.length d2, .slice B3 p.wait.length d3] 30)
  have o14 := o10.alloc (.cells #[.int .i64 p.mx, .slice B1 p.idle.length d1, .slice B2 p.held.length d2, .slice B3 p.wait.length d3] 30)
  clear hB7 x8 r9 o10
  have t15 : At (w1.alloc (.cells #[.int .i64 p.mx, .slice B1 p.idle.length d1, .slice B2 p.held.length d2, .slice B3 p.wait.length d3] 30)) (w1.heap.size) 30 #[.int .i64 p.mx, .slice B1 p.idle.length d1, .slice B2 p.held.length d2, .slice B3 p.wait.length d3] := At.newAt _ _ (by first | rfl | (simp; done) | (simp; omega))
  have hB16 := hB11.alloc hB11.size (.cells #[.int .i64 o] 3)
  have x17 := x12.alloc (.cells #[.int .i64 o] 3)
  have r18 := r13.alloc (.cells #[.int .i64 o] 3)
  have o19 := o14.alloc (.cells #[.int .i64 o] 3)
  have t20 := t15.alloc (.cells #[.int .i64 o] 3)
  clear hB11 x12 r13 o14 t15
  have hown := o19.2.2.1.out
  have hlow := o19.low.2.2
  go_wp2_with (at_builtin; refine wpList_append_own_at _ rfl _ _ 22 rfl (w.heap.size + 2) 3 i0 (.int .i64 0) 1 8 Try.underlying22 hi0 hz0 hz1 hz2 rfl (by decide) _ _ _ rfl hown ⟨w1.heap.size + 1, 0, none⟩ 1 1 [.int .i64 o] rfl rfl (by simpa using cell_one_new (w1.alloc (.cells #[.int .i64 p.mx, .slice B1 p.idle.length d1, .slice B2 p.held.length d2, .slice B3 p.wait.length d3] 30)) (.int .i64 o) 3) ?c2 ?c3 ?c4 ?c5 ?_)
  case c2 => simp [Value.oneCell']
  case c3 => have := H3.out; unfold maxLen; omega
  case c4 => have := H3.out; omega
  case c5 => first | omega | (simp; omega) | (simp; done)
  case _ =>
    intro va w2 h1 hg1 _ hat
    obtain ⟨A21, c21, rfl, _, _⟩ := own_form h1
    have sz2 : w1.heap.size + 2 ≤ w2.heap.size := Nat.le_trans (by first | exact Nat.le_refl _ | (simp; done) | (simp; omega)) (hg1.size)
    have hB22 := hB16.grown hg1 hB16.size (fun q hq => Nat.le_trans (by omega) (hlow q hq))
    have x23 := x17.beside hown (by decide) hg1
    have r24 := r18.beside hown (by decide) hg1
    have t25 := t20.beside hown (by decide) hg1
    have o26 := o19.addWait (x := o) h1 hg1 (by simpa using hat)
    clear h1 hg1 hat hown hlow hB16 x17 r18 t20 o19
    clear p0 p1 p2 p3 pl pf q0 q1 q2 q3 ql qf
    obtain ⟨p0, p1, p2, p3, pl, pf⟩ := (⟨x23.cell 0, x23.cell 1, x23.cell 2, x23.cell 3, x23.lt, x23.frozen⟩ : _ ∧ _ ∧ _ ∧ _ ∧ _ ∧ _)
    obtain ⟨q0, q1, q2, q3, ql, qf⟩ := (⟨r24.cell 0, r24.cell 1, r24.cell 2, r24.cell 3, r24.lt, r24.frozen⟩ : _ ∧ _ ∧ _ ∧ _ ∧ _ ∧ _)
    obtain ⟨t0, t1, t2, t3, tl, tf⟩ := (⟨t25.cell 0, t25.cell 1, t25.cell 2, t25.cell 3, t25.lt, t25.frozen⟩ : _ ∧ _ ∧ _ ∧ _ ∧ _ ∧ _)
    have ne_pq : ¬ w.heap.size = w.heap.size + 1 := by omega
    have ne_qp : ¬ w.heap.size + 1 = w.heap.size := by omega
    have ne_pt : ¬ w.heap.size = w1.heap.size := by omega
    have ne_tp : ¬ w1.heap.size = w.heap.size := by omega
    have ne_qt : ¬ w.heap.size + 1 = w1.heap.size := by omega
    have ne_tq : ¬ w1.heap.size = w.heap.size + 1 := by omega
    have hB27 := below_put hB22 (grown_set w2 (w1.heap.size) 3 (.slice A21 (p.wait.length + 1) c21)) (by omega) (by have := hB22.size; omega)
    have x28 := x23.past (grown_set w2 (w1.heap.size) 3 (.slice A21 (p.wait.length + 1) c21)) (by omega)
    have r29 := r24.past (grown_set w2 (w1.heap.size) 3 (.slice A21 (p.wait.length + 1) c21)) (by omega)
    have o30 := o26.past t25 (grown_set w2 (w1.heap.size) 3 (.slice A21 (p.wait.length + 1) c21))
    have t31 : At (w2.setCell ⟨w1.heap.size, 3, none⟩ (.slice A21 (p.wait.length + 1) c21)) (w1.heap.size) 30 #[.int .i64 p.mx, .slice B1 p.idle.length d1, .slice B2 p.held.length d2, .slice A21 (p.wait.length + 1) c21] := by simpa using t25.set 3 (.slice A21 (p.wait.length + 1) c21)
    clear hB22 x23 r24 o26 t25
    have hB32 := below_put hB27 (grown_set (w2.setCell ⟨w1.heap.size, 3, none⟩ (.slice A21 (p.wait.length + 1) c21)) (w.heap.size + 1) 0 (.int .i64 p.mx)) (by omega) (by have := hB27.size; omega)
    have x33 := x28.past (grown_set (w2.setCell ⟨w1.heap.size, 3, none⟩ (.slice A21 (p.wait.length + 1) c21)) (w.heap.size + 1) 0 (.int .i64 p.mx)) (by omega)
    have o34 := o30.past r29 (grown_set (w2.setCell ⟨w1.heap.size, 3, none⟩ (.slice A21 (p.wait.length + 1) c21)) (w.heap.size + 1) 0 (.int .i64 p.mx))
    have t35 := t31.past (grown_set (w2.setCell ⟨w1.heap.size, 3, none⟩ (.slice A21 (p.wait.length + 1) c21)) (w.heap.size + 1) 0 (.int .i64 p.mx)) (by omega)
    have r36 : At ((w2.setCell ⟨w1.heap.size, 3, none⟩ (.slice A21 (p.wait.length + 1) c21)).setCell ⟨w.heap.size + 1, 0, none⟩ (.int .i64 p.mx)) (w.heap.size + 1) 30 #[.int .i64 p.mx, .slice none 0 0, .slice none 0 0, .slice none 0 0] := by simpa using r29.set 0 (.int .i64 p.mx)
    clear hB27 x28 o30 t31 r29
    have hB37 := below_put hB32 (grown_set ((w2.setCell ⟨w1.heap.size, 3, none⟩ (.slice A21 (p.wait.length + 1) c21)).setCell ⟨w.heap.size + 1, 0, none⟩ (.int .i64 p.mx)) (w.heap.size + 1) 1 (.slice B1 p.idle.length d1)) (by omega) (by have := hB32.size; omega)
    have x38 := x33.past (grown_set ((w2.setCell ⟨w1.heap.size, 3, none⟩ (.slice A21 (p.wait.length + 1) c21)).setCell ⟨w.heap.size + 1, 0, none⟩ (.int .i64 p.mx)) (w.heap.size + 1) 1 (.slice B1 p.idle.length d1)) (by omega)
    have o39 := o34.past r36 (grown_set ((w2.setCell ⟨w1.heap.size, 3, none⟩ (.slice A21 (p.wait.length + 1) c21)).setCell ⟨w.heap.size + 1, 0, none⟩ (.int .i64 p.mx)) (w.heap.size + 1) 1 (.slice B1 p.idle.length d1))
    have t40 := t35.past (grown_set ((w2.setCell ⟨w1.heap.size, 3, none⟩ (.slice A21 (p.wait.length + 1) c21)).setCell ⟨w.heap.size + 1, 0, none⟩ (.int .i64 p.mx)) (w.heap.size + 1) 1 (.slice B1 p.idle.length d1)) (by omega)
    have r41 : At (((w2.setCell ⟨w1.heap.size, 3, none⟩ (.slice A21 (p.wait.length + 1) c21)).setCell ⟨w.heap.size + 1, 0, none⟩ (.int .i64 p.mx)).setCell ⟨w.heap.size + 1, 1, none⟩ (.slice B1 p.idle.length d1)) (w.heap.size + 1) 30 #[.int .i64 p.mx, .slice B1 p.idle.length d1, .slice none 0 0, .slice none 0 0] := by simpa using r36.set 1 (.slice B1 p.idle.length d1)
    clear hB32 x33 o34 t35 r36
    have hB42 := below_put hB37 (grown_set (((w2.setCell ⟨w1.heap.size, 3, none⟩ (.slice A21 (p.wait.length + 1) c21)).setCell ⟨w.heap.size + 1, 0, none⟩ (.int .i64 p.mx)).setCell ⟨w.heap.size + 1, 1, none⟩ (.slice B1 p.idle.length d1)) (w.heap.size + 1) 2 (.slice B2 p.held.length d2)) (by omega) (by have := hB37.size; omega)
    have x43 := x38.past (grown_set (((w2.setCell ⟨w1.heap.size, 3, none⟩ (.slice A21 (p.wait.length + 1) c21)).setCell ⟨w.heap.size + 1, 0, none⟩ (.int .i64 p.mx)).setCell ⟨w.heap.size + 1, 1, none⟩ (.slice B1 p.idle.length d1)) (w.heap.size + 1) 2 (.slice B2 p.held.length d2)) (by omega)
    have o44 := o39.past r41 (grown_set (((w2.setCell ⟨w1.heap.size, 3, none⟩ (.slice A21 (p.wait.length + 1) c21)).setCell ⟨w.heap.size + 1, 0, none⟩ (.int .i64 p.mx)).setCell ⟨w.heap.size + 1, 1, none⟩ (.slice B1 p.idle.length d1)) (w.heap.size + 1) 2 (.slice B2 p.held.length d2))
    have t45 := t40.past (grown_set (((w2.setCell ⟨w1.heap.size, 3, none⟩ (.slice A21 (p.wait.length + 1) c21)).setCell ⟨w.heap.size + 1, 0, none⟩ (.int .i64 p.mx)).setCell ⟨w.heap.size + 1, 1, none⟩ (.slice B1 p.idle.length d1)) (w.heap.size + 1) 2 (.slice B2 p.held.length d2)) (by omega)
    have r46 : At ((((w2.setCell ⟨w1.heap.size, 3, none⟩ (.slice A21 (p.wait.length + 1) c21)).setCell ⟨w.heap.size + 1, 0, none⟩ (.int .i64 p.mx)).setCell ⟨w.heap.size + 1, 1, none⟩ (.slice B1 p.idle.length d1)).setCell ⟨w.heap.size + 1, 2, none⟩ (.slice B2 p.held.length d2)) (w.heap.size + 1) 30 #[.int .i64 p.mx, .slice B1 p.idle.length d1, .slice B2 p.held.length d2, .slice none 0 0] := by simpa using r41.set 2 (.slice B2 p.held.length d2)
    clear hB37 x38 o39 t40 r41
    have hB47 := below_put hB42 (grown_set ((((w2.setCell ⟨w1.heap.size, 3, none⟩ (.slice A21 (p.wait.length + 1) c21)).setCell ⟨w.heap.size + 1, 0, none⟩ (.int .i64 p.mx)).setCell ⟨w.heap.size + 1, 1, none⟩ (.slice B1 p.idle.length d1)).setCell ⟨w.heap.size + 1, 2, none⟩ (.slice B2 p.held.length d2)) (w.heap.size + 1) 3 (.slice A21 (p.wait.length + 1) c21)) (by omega) (by have := hB42.size; omega)
    have x48 := x43.past (grown_set ((((w2.setCell ⟨w1.heap.size, 3, none⟩ (.slice A21 (p.wait.length + 1) c21)).setCell ⟨w.heap.size + 1, 0, none⟩ (.int .i64 p.mx)).setCell ⟨w.heap.size + 1, 1, none⟩ (.slice B1 p.idle.length d1)).setCell ⟨w.heap.size + 1, 2, none⟩ (.slice B2 p.held.length d2)) (w.heap.size + 1) 3 (.slice A21 (p.wait.length + 1) c21)) (by omega)
    have o49 := o44.past r46 (grown_set ((((w2.setCell ⟨w1.heap.size, 3, none⟩ (.slice A21 (p.wait.length + 1) c21)).setCell ⟨w.heap.size + 1, 0, none⟩ (.int .i64 p.mx)).setCell ⟨w.heap.size + 1, 1, none⟩ (.slice B1 p.idle.length d1)).setCell ⟨w.heap.size + 1, 2, none⟩ (.slice B2 p.held.length d2)) (w.heap.size + 1) 3 (.slice A21 (p.wait.length + 1) c21))
    have t50 := t45.past (grown_set ((((w2.setCell ⟨w1.heap.size, 3, none⟩ (.slice A21 (p.wait.length + 1) c21)).setCell ⟨w.heap.size + 1, 0, none⟩ (.int .i64 p.mx)).setCell ⟨w.heap.size + 1, 1, none⟩ (.slice B1 p.idle.length d1)).setCell ⟨w.heap.size + 1, 2, none⟩ (.slice B2 p.held.length d2)) (w.heap.size + 1) 3 (.slice A21 (p.wait.length + 1) c21)) (by omega)
    have r51 : At (((((w2.setCell ⟨w1.heap.size, 3, none⟩ (.slice A21 (p.wait.length + 1) c21)).setCell ⟨w.heap.size + 1, 0, none⟩ (.int .i64 p.mx)).setCell ⟨w.heap.size + 1, 1, none⟩ (.slice B1 p.idle.length d1)).setCell ⟨w.heap.size + 1, 2, none⟩ (.slice B2 p.held.length d2)).setCell ⟨w.heap.size + 1, 3, none⟩ (.slice A21 (p.wait.length + 1) c21)) (w.heap.size + 1) 30 #[.int .i64 p.mx, .slice B1 p.idle.length d1, .slice B2 p.held.length d2, .slice A21 (p.wait.length + 1) c21] := by simpa using r46.set 3 (.slice A21 (p.wait.length + 1) c21)
    clear hB42 x43 o44 t45 r46
    go_wp2
    refine bodyPost_ret (v := .tuple #[.agg #[.int .i64 p.mx, .slice B1 p.idle.length d1, .slice B2 p.held.length d2, .slice A21 (p.wait.length + 1) c21], .int .i64 (-1), .bool true]) (by simp [results, Try.results103, go_sem, r51.cell]) rfl ?_
    skip
    exact ⟨B1, B2, A21, d1, d2, c21, by simp [List.length_append], (by simpa [List.length_append] using o49.mono (show w.heap.size ≤ w.heap.size + 2 by omega)), hB47⟩

end Go.Proofs.Ytehdbllpiokbnaa

/-
  What the program's ReleaseConn answers. Condition: the lists lie in memory.
-/
import Derived.Test.YtehdbllpiokbnaaPlI

namespace Go.Proofs.Ytehdbllpiokbnaa
open Go.RowKit Pol

theorem holdsWithout_to {A : Option Addr} {c : Nat} {l X : List Ho} {q : Int} {w : World} (hX : without l q = X) (h : Sees w w.heap.size A (strip hcells l)) (hn : l.length ≤ 4194304) :
    Calls Try.prog 105 #[.slice A l.length c, .int .i64 q] w fun e w' => ∃ v, e = .returned v ∧ OwnS 91 2 hcells w' w.heap.size v X ∧ Below w.heap.size w w' := by
  subst hX; exact holdsWithout_any A c l q w h hn
set_option maxRecDepth 16384 in
set_option maxHeartbeats 4000000 in
theorem iReleaseConn_any (p : Pl) (A1 A2 A3 : Option Addr) (c1 c2 c3 : Nat) (o : Int) (w : World) (h : SeesP w w.heap.size A1 A2 A3 p) (hcap : p.wait.length ≤ c3) (h1 : p.idle.length ≤ 2097152) (h2 : p.held.length ≤ 2097152) (h3 : p.wait.length ≤ 2097152) :
    Calls Try.prog 99 #[.agg #[.int .i64 p.mx, .slice A1 p.idle.length c1, .slice A2 p.held.length c2, .slice A3 p.wait.length c3], .int .i64 o] w (PAns3 (relR p o) (relN p o) (relB p o) w) := by
  obtain ⟨i0, hi0, hz0, hz1, hz2⟩ := info_parts intInfo
  obtain ⟨ih0, hih0, hzh0, hzh1, hzh2⟩ := info_parts holdInfo
  have H1 := hid h1
  have H2 := hid h2
  have H3 := hid h3
  clear h1 h2 h3
  rcases hk : okB p with _ | _
  · skip
    have EB := hid (show relB p o = false from Bool.eq_false_iff.2 fun e => by have := okB_iff.2 (relB_iff.1 e).1; rw [this] at hk; cases hk)
    have HK := hid hk
    clear hk
    have hB1 := Below.refl w.heap.size w
    have hB2 := hB1.alloc hB1.size (.cells #[.int .i64 p.mx, .slice A1 p.idle.length c1, .slice A2 p.held.length c2, .slice A3 p.wait.length c3] 30)
    clear hB1
    have x3 : At (w.alloc (.cells #[.int .i64 p.mx, .slice A1 p.idle.length c1, .slice A2 p.held.length c2, .slice A3 p.wait.length c3] 30)) (w.heap.size) 30 #[.int .i64 p.mx, .slice A1 p.idle.length c1, .slice A2 p.held.length c2, .slice A3 p.wait.length c3] := At.newAt _ _ (by first | rfl | (simp; done) | (simp; omega))
    have hB4 := hB2.alloc hB2.size (.cells #[.int .i64 0, .slice none 0 0, .slice none 0 0, .slice none 0 0] 30)
    have x5 := x3.alloc (.cells #[.int .i64 0, .slice none 0 0, .slice none 0 0, .slice none 0 0] 30)
    clear hB2 x3
    have r6 : At ((w.alloc (.cells #[.int .i64 p.mx, .slice A1 p.idle.length c1, .slice A2 p.held.length c2, .slice A3 p.wait.length c3] 30)).alloc (.cells #[.int .i64 0, .slice none 0 0, .slice none 0 0, .slice none 0 0] 30)) (w.heap.size + 1) 30 #[.int .i64 0, .slice none 0 0, .slice none 0 0, .slice none 0 0] := At.newAt _ _ (by first | rfl | (simp; done) | (simp; omega))
    go_enter Try.func99, Try.ntmps99
    obtain ⟨p0, p1, p2, p3, pl, pf⟩ := (⟨x5.cell 0, x5.cell 1, x5.cell 2, x5.cell 3, x5.lt, x5.frozen⟩ : _ ∧ _ ∧ _ ∧ _ ∧ _ ∧ _)
    obtain ⟨q0, q1, q2, q3, ql, qf⟩ := (⟨r6.cell 0, r6.cell 1, r6.cell 2, r6.cell 3, r6.lt, r6.frozen⟩ : _ ∧ _ ∧ _ ∧ _ ∧ _ ∧ _)
    go_wp2_with fail
    with_reducible refine (iValidPool_any p A1 A2 A3 c1 c2 c3 _ (h.on hB4) H1.out H2.out (Nat.le_trans H3.out (by decide))).mono ?_
    rintro e w1 ⟨he, hb1⟩
    rw [HK.out] at he
    subst he
    have sz1 : w.heap.size + 2 ≤ w1.heap.size := Nat.le_trans (by first | exact Nat.le_refl _ | (simp; done) | (simp; omega)) (hb1.size)
    have hB7 := hB4.trans (hb1.mono hB4.size)
    have x8 := x5.below hb1 x5.lt
    have r9 := r6.below hb1 r6.lt
    clear hB4 x5 r6
    clear p0 p1 p2 p3 pl pf q0 q1 q2 q3 ql qf
    obtain ⟨p0, p1, p2, p3, pl, pf⟩ := (⟨x8.cell 0, x8.cell 1, x8.cell 2, x8.cell 3, x8.lt, x8.frozen⟩ : _ ∧ _ ∧ _ ∧ _ ∧ _ ∧ _)
    obtain ⟨q0, q1, q2, q3, ql, qf⟩ := (⟨r9.cell 0, r9.cell 1, r9.cell 2, r9.cell 3, r9.lt, r9.frozen⟩ : _ ∧ _ ∧ _ ∧ _ ∧ _ ∧ _)
    have hB10 := below_put hB7 (grown_set w1 (w.heap.size + 1) 0 (.int .i64 0)) (by omega) (by have := hB7.size; omega)
    have x11 := x8.past (grown_set w1 (w.heap.size + 1) 0 (.int .i64 0)) (by omega)
    have r12 : At (w1.setCell ⟨w.heap.size + 1, 0, none⟩ (.int .i64 0)) (w.heap.size + 1) 30 #[.int .i64 0, .slice none 0 0, .slice none 0 0, .slice none 0 0] := by simpa using r9.set 0 (.int .i64 0)
    clear hB7 x8 r9
    have hB13 := below_put hB10 (grown_set (w1.setCell ⟨w.heap.size + 1, 0, none⟩ (.int .i64 0)) (w.heap.size + 1) 1 (.slice none 0 0)) (by omega) (by have := hB10.size; omega)
    have x14 := x11.past (grown_set (w1.setCell ⟨w.heap.size + 1, 0, none⟩ (.int .i64 0)) (w.heap.size + 1) 1 (.slice none 0 0)) (by omega)
    have r15 : At ((w1.setCell ⟨w.heap.size + 1, 0, none⟩ (.int .i64 0)).setCell ⟨w.heap.size + 1, 1, none⟩ (.slice none 0 0)) (w.heap.size + 1) 30 #[.int .i64 0, .slice none 0 0, .slice none 0 0, .slice none 0 0] := by simpa using r12.set 1 (.slice none 0 0)
    clear hB10 x11 r12
    have hB16 := below_put hB13 (grown_set ((w1.setCell ⟨w.heap.size + 1, 0, none⟩ (.int .i64 0)).setCell ⟨w.heap.size + 1, 1, none⟩ (.slice none 0 0)) (w.heap.size + 1) 2 (.slice none 0 0)) (by omega) (by have := hB13.size; omega)
    have x17 := x14.past (grown_set ((w1.setCell ⟨w.heap.size + 1, 0, none⟩ (.int .i64 0)).setCell ⟨w.heap.size + 1, 1, none⟩ (.slice none 0 0)) (w.heap.size + 1) 2 (.slice none 0 0)) (by omega)
    have r18 : At (((w1.setCell ⟨w.heap.size + 1, 0, none⟩ (.int .i64 0)).setCell ⟨w.heap.size + 1, 1, none⟩ (.slice none 0 0)).setCell ⟨w.heap.size + 1, 2, none⟩ (.slice none 0 0)) (w.heap.size + 1) 30 #[.int .i64 0, .slice none 0 0, .slice none 0 0, .slice none 0 0] := by simpa using r15.set 2 (.slice none 0 0)
    clear hB13 x14 r15
    have hB19 := below_put hB16 (grown_set (((w1.setCell ⟨w.heap.size + 1, 0, none⟩ (.int .i64 0)).setCell ⟨w.heap.size + 1, 1, none⟩ (.slice none 0 0)).setCell ⟨w.heap.size + 1, 2, none⟩ (.slice none 0 0)) (w.heap.size + 1) 3 (.slice none 0 0)) (by omega) (by have := hB16.size; omega)
    have x20 := x17.past (grown_set (((w1.setCell ⟨w.heap.size + 1, 0, none⟩ (.int .i64 0)).setCell ⟨w.heap.size + 1, 1, none⟩ (.slice none 0 0)).setCell ⟨w.heap.size + 1, 2, none⟩ (.slice none 0 0)) (w.heap.size + 1) 3 (.slice none 0 0)) (by omega)
    have r21 : At ((((w1.setCell ⟨w.heap.size + 1, 0, none⟩ (.int .i64 0)).setCell ⟨w.heap.size + 1, 1, none⟩ (.slice none 0 0)).setCell ⟨w.heap.size + 1, 2, none⟩ (.slice none 0 0)).setCell ⟨w.heap.size + 1, 3, none⟩ (.slice none 0 0)) (w.heap.size + 1) 30 #[.int .i64 0, .slice none 0 0, .slice none 0 0, .slice none 0 0] := by simpa using r18.set 3 (.slice none 0 0)
    clear hB16 x17 r18
    go_wp2
    refine bodyPost_ret (v := .tuple #[.agg #[.int .i64 0, .slice none 0 0, .slice none 0 0, .slice none 0 0], .int .i64 (-1), .bool false]) (by simp [results, Try.results99, go_sem, r21.cell]) rfl ?_
    exact (by rw [(rel_no EB.out).1, (rel_no EB.out).2, EB.out]; exact pans3_zero hB19)
  have hok := okB_iff.1 hk
  have HK := hid hk
  clear hk
  have HMl := hid (show (p.held.map Ho.c).length = p.held.length from List.length_map _)
  have HMn := hid (show (p.held.map Ho.c).length ≤ 4611686018427387904 by rw [HMl.out]; exact Nat.le_trans H2.out (by decide))
  by_cases hm : o ∈ p.held.map Ho.c
  · skip
    have hb : relB p o = true := relB_iff.2 ⟨hok, hm⟩
    have EB := hid hb
    have hp := Line.place_lt hm
    obtain ⟨V, hV⟩ : ∃ V, V = Line.place (p.held.map Ho.c) o := ⟨_, rfl⟩
    have HP := hid hV.symm
    rw [← hV] at hp
    have hne : (V == -1) = false := by simp; omega
    clear hV hp hm hok
    obtain ⟨X, hX⟩ : ∃ X, X = without p.held o := ⟨_, rfl⟩
    have HX := hid hX.symm
    have HXn := hid (show X.length ≤ 2097152 by rw [hX]; unfold without; exact Nat.le_trans (List.length_filter_le _ _) H2.out)
    clear hX
    rcases Nat.eq_zero_or_pos p.wait.length with hI | hI
    · skip
      have hw0 := List.eq_nil_of_length_eq_zero hI
      obtain ⟨e1, e2, _⟩ := rel_none hb hw0
      have E1 := hid e1
      have E2 := hid (show relR p o = ⟨p.mx, p.idle ++ [o], without p.held o, p.wait⟩ by rw [e2, hw0])
      have hwl : ((p.wait.length : Int) == 0) = true := beq_iff_eq.2 (by omega)
      clear hI hw0 e1 e2 hb
      have hB22 := Below.refl w.heap.size w
      have hB23 := hB22.alloc hB22.size (.cells #[.int .i64 p.mx, .slice A1 p.idle.length c1, .slice A2 p.held.length c2, .slice A3 p.wait.length c3] 30)
      clear hB22
      have x24 : At (w.alloc (.cells #[.int .i64 p.mx, .slice A1 p.idle.length c1, .slice A2 p.held.length c2, .slice A3 p.wait.length c3] 30)) (w.heap.size) 30 #[.int .i64 p.mx, .slice A1 p.idle.length c1, .slice A2 p.held.length c2, .slice A3 p.wait.length c3] := At.newAt _ _ (by first | rfl | (simp; done) | (simp; omega))
      have hB25 := hB23.alloc hB23.size (.cells #[.int .i64 0, .slice none 0 0, .slice none 0 0, .slice none 0 0] 30)
      have x26 := x24.alloc (.cells #[.int .i64 0, .slice none 0 0, .slice none 0 0, .slice none 0 0] 30)
      clear hB23 x24
      have r27 : At ((w.alloc (.cells #[.int .i64 p.mx, .slice A1 p.idle.length c1, .slice A2 p.held.length c2, .slice A3 p.wait.length c3] 30)).alloc (.cells #[.int .i64 0, .slice none 0 0, .slice none 0 0, .slice none 0 0] 30)) (w.heap.size + 1) 30 #[.int .i64 0, .slice none 0 0, .slice none 0 0, .slice none 0 0] := At.newAt _ _ (by first | rfl | (simp; done) | (simp; omega))
      go_enter Try.func99, Try.ntmps99
      obtain ⟨p0, p1, p2, p3, pl, pf⟩ := (⟨x26.cell 0, x26.cell 1, x26.cell 2, x26.cell 3, x26.lt, x26.frozen⟩ : _ ∧ _ ∧ _ ∧ _ ∧ _ ∧ _)
      obtain ⟨q0, q1, q2, q3, ql, qf⟩ := (⟨r27.cell 0, r27.cell 1, r27.cell 2, r27.cell 3, r27.lt, r27.frozen⟩ : _ ∧ _ ∧ _ ∧ _ ∧ _ ∧ _)
      go_wp2_with fail
      with_reducible refine (iValidPool_any p A1 A2 A3 c1 c2 c3 _ (h.on hB25) H1.out H2.out (Nat.le_trans H3.out (by decide))).mono ?_
      rintro e w1 ⟨he, hb1⟩
      rw [HK.out] at he
      subst he
      have sz1 : w.heap.size + 2 ≤ w1.heap.size := Nat.le_trans (by first | exact Nat.le_refl _ | (simp; done) | (simp; omega)) (hb1.size)
      have hB28 := hB25.trans (hb1.mono hB25.size)
      have x29 := x26.below hb1 x26.lt
      have r30 := r27.below hb1 r27.lt
      clear hB25 x26 r27
      clear p0 p1 p2 p3 pl pf q0 q1 q2 q3 ql qf
      obtain ⟨p0, p1, p2, p3, pl, pf⟩ := (⟨x29.cell 0, x29.cell 1, x29.cell 2, x29.cell 3, x29.lt, x29.frozen⟩ : _ ∧ _ ∧ _ ∧ _ ∧ _ ∧ _)
      obtain ⟨q0, q1, q2, q3, ql, qf⟩ := (⟨r30.cell 0, r30.cell 1, r30.cell 2, r30.cell 3, r30.lt, r30.frozen⟩ : _ ∧ _ ∧ _ ∧ _ ∧ _ ∧ _)
      go_wp2_with fail
      with_reducible refine (heldConns_any A2 c2 p.held _ (h.on hB28).held (Nat.le_trans H2.out (by decide))).mono ?_
      rintro e w2 ⟨v2, rfl, hn2, hb2⟩
      obtain ⟨An2, cn2, rfl, _⟩ := hn2.form
      have hse := Sees.of_own hn2.out
      have sz2 : w1.heap.size ≤ w2.heap.size := Nat.le_trans (by first | exact Nat.le_refl _ | (simp; done) | (simp; omega)) (hb2.size)
      have hB31 := hB28.trans (hb2.mono hB28.size)
      have x32 := x29.below hb2 x29.lt
      have r33 := r30.below hb2 r30.lt
      clear hB28 x29 r30
      clear p0 p1 p2 p3 pl pf q0 q1 q2 q3 ql qf
      clear hn2
      obtain ⟨p0, p1, p2, p3, pl, pf⟩ := (⟨x32.cell 0, x32.cell 1, x32.cell 2, x32.cell 3, x32.lt, x32.frozen⟩ : _ ∧ _ ∧ _ ∧ _ ∧ _ ∧ _)
      obtain ⟨q0, q1, q2, q3, ql, qf⟩ := (⟨r33.cell 0, r33.cell 1, r33.cell 2, r33.cell 3, r33.lt, r33.frozen⟩ : _ ∧ _ ∧ _ ∧ _ ∧ _ ∧ _)
      go_wp2_with fail
      with_reducible refine (placeOf_len HMl.out hse HMn.out).mono ?_
      rintro e w' ⟨he, rfl⟩
      rw [HP.out] at he
      subst he
      clear p0 p1 p2 p3 pl pf q0 q1 q2 q3 ql qf
      clear hse
      obtain ⟨p0, p1, p2, p3, pl, pf⟩ := (⟨x32.cell 0, x32.cell 1, x32.cell 2, x32.cell 3, x32.lt, x32.frozen⟩ : _ ∧ _ ∧ _ ∧ _ ∧ _ ∧ _)
      obtain ⟨q0, q1, q2, q3, ql, qf⟩ := (⟨r33.cell 0, r33.cell 1, r33.cell 2, r33.cell 3, r33.lt, r33.frozen⟩ : _ ∧ _ ∧ _ ∧ _ ∧ _ ∧ _)
      go_wp2_with fail
      with_reducible refine (icopyPool_any p A1 A2 A3 c1 c2 c3 _ (h.on hB31) (Nat.le_trans H1.out (by decide)) (Nat.le_trans H2.out (by decide)) (Nat.le_trans H3.out (by decide))).mono ?_
      rintro e w3 ⟨B1, B2, B3, d1, d2, d3, rfl, ho, hb3⟩
      have sz3 : w2.heap.size ≤ w3.heap.size := Nat.le_trans (by first | exact Nat.le_refl _ | (simp; done) | (simp; omega)) (hb3.size)
      have hB34 := hB31.trans (hb3.mono hB31.size)
      have x35 := x32.below hb3 x32.lt
      have r36 := r33.below hb3 r33.lt
      clear hB31 x32 r33
      clear p0 p1 p2 p3 pl pf q0 q1 q2 q3 ql qf
      have o37 := ho.mono (show w.heap.size + 2 ≤ _ by omega)
      clear ho
      obtain ⟨p0, p1, p2, p3, pl, pf⟩ := (⟨x35.cell 0, x35.cell 1, x35.cell 2, x35.cell 3, x35.lt, x35.frozen⟩ : _ ∧ _ ∧ _ ∧ _ ∧ _ ∧ _)
      obtain ⟨q0, q1, q2, q3, ql, qf⟩ := (⟨r36.cell 0, r36.cell 1, r36.cell 2, r36.cell 3, r36.lt, r36.frozen⟩ : _ ∧ _ ∧ _ ∧ _ ∧ _ ∧ _)
      have hB38 := hB34.alloc hB34.size (.cells #[.int .i64 p.mx, .slice B1 p.idle.length d1, .slice B2 p.held.length d2, .slice B3 p.wait.length d3] 30)
      have x39 := x35.alloc (.cells #[.int .i64 p.mx, .slice B1 p.idle.length d1, .slice B2 p.held.length d2, .slice B3 p.wait.length d3] 30)
      have r40 := r36.alloc (.cells #[.int .i64 p.mx, .slice B1 p.idle.length d1, .slice B2 p.held.length d2, .slice B3 p.wait.length d3] 30)
      have o41 := o37.alloc (.cells #[.int .i64 p.mx, .slice B1 p.idle.length d1, .slice B2 p.held.length d2, .slice B3 p.wait.length d3] 30)
      clear hB34 x35 r36 o37
      have t42 : At (w3.alloc (.cells #[.int .i64 p.mx, .slice B1 p.idle.length d1, .slice B2 p.held.length d2, .slice B3 p.wait.length d3] 30)) (w3.heap.size) 30 #[.int .i64 p.mx, .slice B1 p.idle.length d1, .slice B2 p.held.length d2, .slice B3 p.wait.length d3] := At.newAt _ _ (by first | rfl | (simp; done) | (simp; omega))
      go_wp2_with fail
      with_reducible refine (holdsWithout_to HX.out (h.on hB38).held (Nat.le_trans H2.out (by decide))).mono ?_
      rintro e w4 ⟨v4, rfl, hn4, hb4⟩
      obtain ⟨An4, cn4, rfl, _⟩ := hn4.form
      have sz4 : w3.heap.size + 1 ≤ w4.heap.size := Nat.le_trans (by first | exact Nat.le_refl _ | (simp; done) | (simp; omega)) (hb4.size)
      have o43 := o41.newHeld (by first | omega | (simp; omega) | (simp; done)) hn4 hb4
      have hB44 := hB38.trans (hb4.mono hB38.size)
      have x45 := x39.below hb4 x39.lt
      have r46 := r40.below hb4 r40.lt
      have t47 := t42.below hb4 t42.lt
      clear hB38 x39 r40 t42
      clear p0 p1 p2 p3 pl pf q0 q1 q2 q3 ql qf
      clear o41 hn4
      obtain ⟨p0, p1, p2, p3, pl, pf⟩ := (⟨x45.cell 0, x45.cell 1, x45.cell 2, x45.cell 3, x45.lt, x45.frozen⟩ : _ ∧ _ ∧ _ ∧ _ ∧ _ ∧ _)
      obtain ⟨q0, q1, q2, q3, ql, qf⟩ := (⟨r46.cell 0, r46.cell 1, r46.cell 2, r46.cell 3, r46.lt, r46.frozen⟩ : _ ∧ _ ∧ _ ∧ _ ∧ _ ∧ _)
      obtain ⟨t0, t1, t2, t3, tl, tf⟩ := (⟨t47.cell 0, t47.cell 1, t47.cell 2, t47.cell 3, t47.lt, t47.frozen⟩ : _ ∧ _ ∧ _ ∧ _ ∧ _ ∧ _)
      have ne_pq : ¬ w.heap.size = w.heap.size + 1 := by omega
      have ne_qp : ¬ w.heap.size + 1 = w.heap.size := by omega
      have ne_pt : ¬ w.heap.size = w3.heap.size := by omega
      have ne_tp : ¬ w3.heap.size = w.heap.size := by omega
      have ne_qt : ¬ w.heap.size + 1 = w3.heap.size := by omega
      have ne_tq : ¬ w3.heap.size = w.heap.size + 1 := by omega
      have hB48 := below_put hB44 (grown_set w4 (w3.heap.size) 2 (.slice An4 X.length cn4)) (by omega) (by have := hB44.size; omega)
      have x49 := x45.past (grown_set w4 (w3.heap.size) 2 (.slice An4 X.length cn4)) (by omega)
      have r50 := r46.past (grown_set w4 (w3.heap.size) 2 (.slice An4 X.length cn4)) (by omega)
      have o51 := o43.past t47 (grown_set w4 (w3.heap.size) 2 (.slice An4 X.length cn4))
      have t52 : At (w4.setCell ⟨w3.heap.size, 2, none⟩ (.slice An4 X.length cn4)) (w3.heap.size) 30 #[.int .i64 p.mx, .slice B1 p.idle.length d1, .slice An4 X.length cn4, .slice B3 p.wait.length d3] := by simpa using t47.set 2 (.slice An4 X.length cn4)
      clear hB44 x45 r46 o43 t47
      have hB53 := hB48.alloc hB48.size (.cells #[.int .i64 o] 3)
      have x54 := x49.alloc (.cells #[.int .i64 o] 3)
      have r55 := r50.alloc (.cells #[.int .i64 o] 3)
      have t56 := t52.alloc (.cells #[.int .i64 o] 3)
      have o57 := o51.alloc (.cells #[.int .i64 o] 3)
      clear hB48 x49 r50 t52 o51
      have hown := o57.1.out
      have hlow := o57.low.1
      go_wp2_with (at_builtin; refine wpList_append_own_at _ rfl _ _ 22 rfl (w.heap.size + 2) 3 i0 (.int .i64 0) 1 8 Try.underlying22 hi0 hz0 hz1 hz2 rfl (by decide) _ _ _ rfl hown ⟨w4.heap.size, 0, none⟩ 1 1 [.int .i64 o] rfl rfl (by simpa using cell_one_new (w4.setCell ⟨w3.heap.size, 2, none⟩ (.slice An4 X.length cn4)) (.int .i64 o) 3) ?c2 ?c3 ?c4 ?c5 ?_)
      case c2 => simp [Value.oneCell']
      case c3 => have := H1.out; unfold maxLen; omega
      case c4 => have := H1.out; omega
      case c5 => first | omega | (simp; omega) | (simp; done)
      case _ =>
        intro va w5 h1 hg1 _ hat
        obtain ⟨A58, c58, rfl, _, _⟩ := own_form h1
        have sz5 : w4.heap.size + 1 ≤ w5.heap.size := Nat.le_trans (by first | exact Nat.le_refl _ | (simp; done) | (simp; omega)) (hg1.size)
        have hB59 := hB53.grown hg1 hB53.size (fun q hq => Nat.le_trans (by omega) (hlow q hq))
        have x60 := x54.beside hown (by decide) hg1
        have r61 := r55.beside hown (by decide) hg1
        have t62 := t56.beside hown (by decide) hg1
        have o63 := o57.addIdle (x := o) h1 hg1 (by simpa using hat)
        clear h1 hg1 hat hown hlow hB53 x54 r55 t56 o57
        clear p0 p1 p2 p3 pl pf q0 q1 q2 q3 ql qf t0 t1 t2 t3 tl tf ne_pq ne_qp ne_pt ne_tp ne_qt ne_tq
        obtain ⟨p0, p1, p2, p3, pl, pf⟩ := (⟨x60.cell 0, x60.cell 1, x60.cell 2, x60.cell 3, x60.lt, x60.frozen⟩ : _ ∧ _ ∧ _ ∧ _ ∧ _ ∧ _)
        obtain ⟨q0, q1, q2, q3, ql, qf⟩ := (⟨r61.cell 0, r61.cell 1, r61.cell 2, r61.cell 3, r61.lt, r61.frozen⟩ : _ ∧ _ ∧ _ ∧ _ ∧ _ ∧ _)
        obtain ⟨t0, t1, t2, t3, tl, tf⟩ := (⟨t62.cell 0, t62.cell 1, t62.cell 2, t62.cell 3, t62.lt, t62.frozen⟩ : _ ∧ _ ∧ _ ∧ _ ∧ _ ∧ _)
        have ne_pq : ¬ w.heap.size = w.heap.size + 1 := by omega
        have ne_qp : ¬ w.heap.size + 1 = w.heap.size := by omega
        have ne_pt : ¬ w.heap.size = w3.heap.size := by omega
        have ne_tp : ¬ w3.heap.size = w.heap.size := by omega
        have ne_qt : ¬ w.heap.size + 1 = w3.heap.size := by omega
        have ne_tq : ¬ w3.heap.size = w.heap.size + 1 := by omega
        have hB64 := below_put hB59 (grown_set w5 (w3.heap.size) 1 (.slice A58 (p.idle.length + 1) c58)) (by omega) (by have := hB59.size; omega)
        have x65 := x60.past (grown_set w5 (w3.heap.size) 1 (.slice A58 (p.idle.length + 1) c58)) (by omega)
        have r66 := r61.past (grown_set w5 (w3.heap.size) 1 (.slice A58 (p.idle.length + 1) c58)) (by omega)
        have o67 := o63.past t62 (grown_set w5 (w3.heap.size) 1 (.slice A58 (p.idle.length + 1) c58))
        have t68 : At (w5.setCell ⟨w3.heap.size, 1, none⟩ (.slice A58 (p.idle.length + 1) c58)) (w3.heap.size) 30 #[.int .i64 p.mx, .slice A58 (p.idle.length + 1) c58, .slice An4 X.length cn4, .slice B3 p.wait.length d3] := by simpa using t62.set 1 (.slice A58 (p.idle.length + 1) c58)
        clear hB59 x60 r61 o63 t62
        have hB69 := below_put hB64 (grown_set (w5.setCell ⟨w3.heap.size, 1, none⟩ (.slice A58 (p.idle.length + 1) c58)) (w.heap.size + 1) 0 (.int .i64 p.mx)) (by omega) (by have := hB64.size; omega)
        have x70 := x65.past (grown_set (w5.setCell ⟨w3.heap.size, 1, none⟩ (.slice A58 (p.idle.length + 1) c58)) (w.heap.size + 1) 0 (.int .i64 p.mx)) (by omega)
        have t71 := t68.past (grown_set (w5.setCell ⟨w3.heap.size, 1, none⟩ (.slice A58 (p.idle.length + 1) c58)) (w.heap.size + 1) 0 (.int .i64 p.mx)) (by omega)
        have o72 := o67.past r66 (grown_set (w5.setCell ⟨w3.heap.size, 1, none⟩ (.slice A58 (p.idle.length + 1) c58)) (w.heap.size + 1) 0 (.int .i64 p.mx))
        have r73 : At ((w5.setCell ⟨w3.heap.size, 1, none⟩ (.slice A58 (p.idle.length + 1) c58)).setCell ⟨w.heap.size + 1, 0, none⟩ (.int .i64 p.mx)) (w.heap.size + 1) 30 #[.int .i64 p.mx, .slice none 0 0, .slice none 0 0, .slice none 0 0] := by simpa using r66.set 0 (.int .i64 p.mx)
        clear hB64 x65 t68 o67 r66
        have hB74 := below_put hB69 (grown_set ((w5.setCell ⟨w3.heap.size, 1, none⟩ (.slice A58 (p.idle.length + 1) c58)).setCell ⟨w.heap.size + 1, 0, none⟩ (.int .i64 p.mx)) (w.heap.size + 1) 1 (.slice A58 (p.idle.length + 1) c58)) (by omega) (by have := hB69.size; omega)
        have x75 := x70.past (grown_set ((w5.setCell ⟨w3.heap.size, 1, none⟩ (.slice A58 (p.idle.length + 1) c58)).setCell ⟨w.heap.size + 1, 0, none⟩ (.int .i64 p.mx)) (w.heap.size + 1) 1 (.slice A58 (p.idle.length + 1) c58)) (by omega)
        have t76 := t71.past (grown_set ((w5.setCell ⟨w3.heap.size, 1, none⟩ (.slice A58 (p.idle.length + 1) c58)).setCell ⟨w.heap.size + 1, 0, none⟩ (.int .i64 p.mx)) (w.heap.size + 1) 1 (.slice A58 (p.idle.length + 1) c58)) (by omega)
        have o77 := o72.past r73 (grown_set ((w5.setCell ⟨w3.heap.size, 1, none⟩ (.slice A58 (p.idle.length + 1) c58)).setCell ⟨w.heap.size + 1, 0, none⟩ (.int .i64 p.mx)) (w.heap.size + 1) 1 (.slice A58 (p.idle.length + 1) c58))
        have r78 : At (((w5.setCell ⟨w3.heap.size, 1, none⟩ (.slice A58 (p.idle.length + 1) c58)).setCell ⟨w.heap.size + 1, 0, none⟩ (.int .i64 p.mx)).setCell ⟨w.heap.size + 1, 1, none⟩ (.slice A58 (p.idle.length + 1) c58)) (w.heap.size + 1) 30 #[.int .i64 p.mx, .slice A58 (p.idle.length + 1) c58, .slice none 0 0, .slice none 0 0] := by simpa using r73.set 1 (.slice A58 (p.idle.length + 1) c58)
        clear hB69 x70 t71 o72 r73
        have hB79 := below_put hB74 (grown_set (((w5.setCell ⟨w3.heap.size, 1, none⟩ (.slice A58 (p.idle.length + 1) c58)).setCell ⟨w.heap.size + 1, 0, none⟩ (.int .i64 p.mx)).setCell ⟨w.heap.size + 1, 1, none⟩ (.slice A58 (p.idle.length + 1) c58)) (w.heap.size + 1) 2 (.slice An4 X.length cn4)) (by omega) (by have := hB74.size; omega)
        have x80 := x75.past (grown_set (((w5.setCell ⟨w3.heap.size, 1, none⟩ (.slice A58 (p.idle.length + 1) c58)).setCell ⟨w.heap.size + 1, 0, none⟩ (.int .i64 p.mx)).setCell ⟨w.heap.size + 1, 1, none⟩ (.slice A58 (p.idle.length + 1) c58)) (w.heap.size + 1) 2 (.slice An4 X.length cn4)) (by omega)
        have t81 := t76.past (grown_set (((w5.setCell ⟨w3.heap.size, 1, none⟩ (.slice A58 (p.idle.length + 1) c58)).setCell ⟨w.heap.size + 1, 0, none⟩ (.int .i64 p.mx)).setCell ⟨w.heap.size + 1, 1, none⟩ (.slice A58 (p.idle.length + 1) c58)) (w.heap.size + 1) 2 (.slice An4 X.length cn4)) (by omega)
        have o82 := o77.past r78 (grown_set (((w5.setCell ⟨w3.heap.size, 1, none⟩ (.slice A58 (p.idle.length + 1) c58)).setCell ⟨w.heap.size + 1, 0, none⟩ (.int .i64 p.mx)).setCell ⟨w.heap.size + 1, 1, none⟩ (.slice A58 (p.idle.length + 1) c58)) (w.heap.size + 1) 2 (.slice An4 X.length cn4))
        have r83 : At ((((w5.setCell ⟨w3.heap.size, 1, none⟩ (.slice A58 (p.idle.length + 1) c58)).setCell ⟨w.heap.size + 1, 0, none⟩ (.int .i64 p.mx)).setCell ⟨w.heap.size + 1, 1, none⟩ (.slice A58 (p.idle.length + 1) c58)).setCell ⟨w.heap.size + 1, 2, none⟩ (.slice An4 X.length cn4)) (w.heap.size + 1) 30 #[.int .i64 p.mx, .slice A58 (p.idle.length + 1) c58, .slice An4 X.length cn4, .slice none 0 0] := by simpa using r78.set 2 (.slice An4 X.length cn4)
        clear hB74 x75 t76 o77 r78
        have hB84 := below_put hB79 (grown_set ((((w5.setCell ⟨w3.heap.size, 1, none⟩ (.slice A58 (p.idle.length + 1) c58)).setCell ⟨w.heap.size + 1, 0, none⟩ (.int .i64 p.mx)).setCell ⟨w.heap.size + 1, 1, none⟩ (.slice A58 (p.idle.length + 1) c58)).setCell ⟨w.heap.size + 1, 2, none⟩ (.slice An4 X.length cn4)) (w.heap.size + 1) 3 (.slice B3 p.wait.length d3)) (by omega) (by have := hB79.size; omega)
        have x85 := x80.past (grown_set ((((w5.setCell ⟨w3.heap.size, 1, none⟩ (.slice A58 (p.idle.length + 1) c58)).setCell ⟨w.heap.size + 1, 0, none⟩ (.int .i64 p.mx)).setCell ⟨w.heap.size + 1, 1, none⟩ (.slice A58 (p.idle.length + 1) c58)).setCell ⟨w.heap.size + 1, 2, none⟩ (.slice An4 X.length cn4)) (w.heap.size + 1) 3 (.slice B3 p.wait.length d3)) (by omega)
        have t86 := t81.past (grown_set ((((w5.setCell ⟨w3.heap.size, 1, none⟩ (.slice A58 (p.idle.length + 1) c58)).setCell ⟨w.heap.size + 1, 0, none⟩ (.int .i64 p.mx)).setCell ⟨w.heap.size + 1, 1, none⟩ (.slice A58 (p.idle.length + 1) c58)).setCell ⟨w.heap.size + 1, 2, none⟩ (.slice An4 X.length cn4)) (w.heap.size + 1) 3 (.slice B3 p.wait.length d3)) (by omega)
        have o87 := o82.past r83 (grown_set ((((w5.setCell ⟨w3.heap.size, 1, none⟩ (.slice A58 (p.idle.length + 1) c58)).setCell ⟨w.heap.size + 1, 0, none⟩ (.int .i64 p.mx)).setCell ⟨w.heap.size + 1, 1, none⟩ (.slice A58 (p.idle.length + 1) c58)).setCell ⟨w.heap.size + 1, 2, none⟩ (.slice An4 X.length cn4)) (w.heap.size + 1) 3 (.slice B3 p.wait.length d3))
        have r88 : At (((((w5.setCell ⟨w3.heap.size, 1, none⟩ (.slice A58 (p.idle.length + 1) c58)).setCell ⟨w.heap.size + 1, 0, none⟩ (.int .i64 p.mx)).setCell ⟨w.heap.size + 1, 1, none⟩ (.slice A58 (p.idle.length + 1) c58)).setCell ⟨w.heap.size + 1, 2, none⟩ (.slice An4 X.length cn4)).setCell ⟨w.heap.size + 1, 3, none⟩ (.slice B3 p.wait.length d3)) (w.heap.size + 1) 30 #[.int .i64 p.mx, .slice A58 (p.idle.length + 1) c58, .slice An4 X.length cn4, .slice B3 p.wait.length d3] := by simpa using r83.set 3 (.slice B3 p.wait.length d3)
        clear hB79 x80 t81 o82 r83
        go_wp2
        refine bodyPost_ret (v := .tuple #[.agg #[.int .i64 p.mx, .slice A58 (p.idle.length + 1) c58, .slice An4 X.length cn4, .slice B3 p.wait.length d3], .int .i64 (-1), .bool true]) (by simp [results, Try.results99, go_sem, r88.cell]) rfl ?_
        rw [E1.out, E2.out, EB.out, HX.out]
        exact ⟨A58, An4, B3, c58, cn4, d3, by simp [List.length_append], (by simpa [List.length_append] using o87.mono (show w.heap.size ≤ w.heap.size + 2 by omega)), hB84⟩
    · skip
      have hwl : ((p.wait.length : Int) == 0) = false := beq_eq_false_iff_ne.2 (by omega)
      obtain ⟨b, of, rfl, hbl, hce⟩ := h.wait.int hI
      clear hce
      have HWe := hid (fun (w1 : World) (hs : Sees w1 w1.heap.size (some ⟨b, of, none⟩) (ints p.wait)) => (show w1.cell? ⟨b, of, none⟩ = some (.int .i64 p.wait[0]) by obtain ⟨b2, o2, e, _, h2⟩ := hs.int hI; injection e with e; injection e with ea eb; subst ea eb; exact h2))
      have HL := hid (show (p.wait.drop 1).length = p.wait.length - 1 from List.length_drop)
      have hwe : p.wait = p.wait[0] :: p.wait.drop 1 := (List.drop_zero (l := p.wait)).symm.trans (List.drop_eq_getElem_cons hI)
      obtain ⟨e1, e2, _⟩ := rel_some hb hwe
      have HSl := hid (fun (w1 : World) (hs : Sees w1 w1.heap.size (some ⟨b, of, none⟩) (ints p.wait)) => (show Sees w1 w1.heap.size (some ⟨b, of + 1, none⟩) (ints (p.wait.drop 1)) by have e : ints (p.wait.drop 1) = (ints p.wait).drop 1 := (by simp [ints]); rw [e]; exact hs.drop rfl))
      have HNil := hid (fun (hc : c3 = 1) => (show p.wait.drop 1 = [] from List.drop_eq_nil_of_le (by omega)))
      obtain ⟨C, hC⟩ : ∃ C, C = p.wait[0] := ⟨_, rfl⟩
      obtain ⟨L, hL⟩ : ∃ L, L = p.wait.drop 1 := ⟨_, rfl⟩
      rw [← hC] at HWe e1 e2
      rw [← hL] at HL e2 HSl HNil
      have E1 := hid e1
      have E2 := hid e2
      have HLn := hid (show L.length ≤ 4194304 by rw [HL.out]; have := H3.out; omega)
      clear hC hL hwe e1 e2 hb
      have h1l : (1 : Int) ≤ (p.wait.length : Int) := by omega
      have h0l : (0 : Int) < (p.wait.length : Int) := by omega
      have hlc : (p.wait.length : Int) ≤ (c3 : Int) := by omega
      have h1c : (1 : Int) ≤ (c3 : Int) := by omega
      have HI := hid hI
      clear hI
      by_cases hc1 : c3 = 1
      · skip
        have HN := hid (HNil.out hc1)
        have HL0 := hid (show L.length = 0 by rw [HN.out]; rfl)
        subst hc1
        have hB89 := Below.refl w.heap.size w
        have hB90 := hB89.alloc hB89.size (.cells #[.int .i64 p.mx, .slice A1 p.idle.length c1, .slice A2 p.held.length c2, .slice (some ⟨b, of, none⟩) p.wait.length 1] 30)
        clear hB89
        have x91 : At (w.alloc (.cells #[.int .i64 p.mx, .slice A1 p.idle.length c1, .slice A2 p.held.length c2, .slice (some ⟨b, of, none⟩) p.wait.length 1] 30)) (w.heap.size) 30 #[.int .i64 p.mx, .slice A1 p.idle.length c1, .slice A2 p.held.length c2, .slice (some ⟨b, of, none⟩) p.wait.length 1] := At.newAt _ _ (by first | rfl | (simp; done) | (simp; omega))
        have hB92 := hB90.alloc hB90.size (.cells #[.int .i64 0, .slice none 0 0, .slice none 0 0, .slice none 0 0] 30)
        have x93 := x91.alloc (.cells #[.int .i64 0, .slice none 0 0, .slice none 0 0, .slice none 0 0] 30)
        clear hB90 x91
        have r94 : At ((w.alloc (.cells #[.int .i64 p.mx, .slice A1 p.idle.length c1, .slice A2 p.held.length c2, .slice (some ⟨b, of, none⟩) p.wait.length 1] 30)).alloc (.cells #[.int .i64 0, .slice none 0 0, .slice none 0 0, .slice none 0 0] 30)) (w.heap.size + 1) 30 #[.int .i64 0, .slice none 0 0, .slice none 0 0, .slice none 0 0] := At.newAt _ _ (by first | rfl | (simp; done) | (simp; omega))
        go_enter Try.func99, Try.ntmps99
        obtain ⟨p0, p1, p2, p3, pl, pf⟩ := (⟨x93.cell 0, x93.cell 1, x93.cell 2, x93.cell 3, x93.lt, x93.frozen⟩ : _ ∧ _ ∧ _ ∧ _ ∧ _ ∧ _)
        obtain ⟨q0, q1, q2, q3, ql, qf⟩ := (⟨r94.cell 0, r94.cell 1, r94.cell 2, r94.cell 3, r94.lt, r94.frozen⟩ : _ ∧ _ ∧ _ ∧ _ ∧ _ ∧ _)
        go_wp2_with fail
        with_reducible refine (iValidPool_any p A1 A2 (some ⟨b, of, none⟩) c1 c2 1 _ (h.on hB92) H1.out H2.out (Nat.le_trans H3.out (by decide))).mono ?_
        rintro e w1 ⟨he, hb1⟩
        rw [HK.out] at he
        subst he
        have sz1 : w.heap.size + 2 ≤ w1.heap.size := Nat.le_trans (by first | exact Nat.le_refl _ | (simp; done) | (simp; omega)) (hb1.size)
        have hB95 := hB92.trans (hb1.mono hB92.size)
        have x96 := x93.below hb1 x93.lt
        have r97 := r94.below hb1 r94.lt
        clear hB92 x93 r94
        clear p0 p1 p2 p3 pl pf q0 q1 q2 q3 ql qf
        obtain ⟨p0, p1, p2, p3, pl, pf⟩ := (⟨x96.cell 0, x96.cell 1, x96.cell 2, x96.cell 3, x96.lt, x96.frozen⟩ : _ ∧ _ ∧ _ ∧ _ ∧ _ ∧ _)
        obtain ⟨q0, q1, q2, q3, ql, qf⟩ := (⟨r97.cell 0, r97.cell 1, r97.cell 2, r97.cell 3, r97.lt, r97.frozen⟩ : _ ∧ _ ∧ _ ∧ _ ∧ _ ∧ _)
        go_wp2_with fail
        with_reducible refine (heldConns_any A2 c2 p.held _ (h.on hB95).held (Nat.le_trans H2.out (by decide))).mono ?_
        rintro e w2 ⟨v2, rfl, hn2, hb2⟩
        obtain ⟨An2, cn2, rfl, _⟩ := hn2.form
        have hse := Sees.of_own hn2.out
        have sz2 : w1.heap.size ≤ w2.heap.size := Nat.le_trans (by first | exact Nat.le_refl _ | (simp; done) | (simp; omega)) (hb2.size)
        have hB98 := hB95.trans (hb2.mono hB95.size)
        have x99 := x96.below hb2 x96.lt
        have r100 := r97.below hb2 r97.lt
        clear hB95 x96 r97
        clear p0 p1 p2 p3 pl pf q0 q1 q2 q3 ql qf
        clear hn2
        obtain ⟨p0, p1, p2, p3, pl, pf⟩ := (⟨x99.cell 0, x99.cell 1, x99.cell 2, x99.cell 3, x99.lt, x99.frozen⟩ : _ ∧ _ ∧ _ ∧ _ ∧ _ ∧ _)
        obtain ⟨q0, q1, q2, q3, ql, qf⟩ := (⟨r100.cell 0, r100.cell 1, r100.cell 2, r100.cell 3, r100.lt, r100.frozen⟩ : _ ∧ _ ∧ _ ∧ _ ∧ _ ∧ _)
        go_wp2_with fail
        with_reducible refine (placeOf_len HMl.out hse HMn.out).mono ?_
        rintro e w' ⟨he, rfl⟩
        rw [HP.out] at he
        subst he
        clear p0 p1 p2 p3 pl pf q0 q1 q2 q3 ql qf
        clear hse
        obtain ⟨p0, p1, p2, p3, pl, pf⟩ := (⟨x99.cell 0, x99.cell 1, x99.cell 2, x99.cell 3, x99.lt, x99.frozen⟩ : _ ∧ _ ∧ _ ∧ _ ∧ _ ∧ _)
        obtain ⟨q0, q1, q2, q3, ql, qf⟩ := (⟨r100.cell 0, r100.cell 1, r100.cell 2, r100.cell 3, r100.lt, r100.frozen⟩ : _ ∧ _ ∧ _ ∧ _ ∧ _ ∧ _)
        go_wp2_with fail
        with_reducible refine (icopyPool_any p A1 A2 (some ⟨b, of, none⟩) c1 c2 1 _ (h.on hB98) (Nat.le_trans H1.out (by decide)) (Nat.le_trans H2.out (by decide)) (Nat.le_trans H3.out (by decide))).mono ?_
        rintro e w3 ⟨B1, B2, B3, d1, d2, d3, rfl, ho, hb3⟩
        have sz3 : w2.heap.size ≤ w3.heap.size := Nat.le_trans (by first | exact Nat.le_refl _ | (simp; done) | (simp; omega)) (hb3.size)
        have hB101 := hB98.trans (hb3.mono hB98.size)
        have x102 := x99.below hb3 x99.lt
        have r103 := r100.below hb3 r100.lt
        clear hB98 x99 r100
        clear p0 p1 p2 p3 pl pf q0 q1 q2 q3 ql qf
        have o104 := ho.mono (show w.heap.size + 2 ≤ _ by omega)
        clear ho
        obtain ⟨p0, p1, p2, p3, pl, pf⟩ := (⟨x102.cell 0, x102.cell 1, x102.cell 2, x102.cell 3, x102.lt, x102.frozen⟩ : _ ∧ _ ∧ _ ∧ _ ∧ _ ∧ _)
        obtain ⟨q0, q1, q2, q3, ql, qf⟩ := (⟨r103.cell 0, r103.cell 1, r103.cell 2, r103.cell 3, r103.lt, r103.frozen⟩ : _ ∧ _ ∧ _ ∧ _ ∧ _ ∧ _)
        have hB105 := hB101.alloc hB101.size (.cells #[.int .i64 p.mx, .slice B1 p.idle.length d1, .slice B2 p.held.length d2, .slice B3 p.wait.length d3] 30)
        have x106 := x102.alloc (.cells #[.int .i64 p.mx, .slice B1 p.idle.length d1, .slice B2 p.held.length d2, .slice B3 p.wait.length d3] 30)
        have r107 := r103.alloc (.cells #[.int .i64 p.mx, .slice B1 p.idle.length d1, .slice B2 p.held.length d2, .slice B3 p.wait.length d3] 30)
        have o108 := o104.alloc (.cells #[.int .i64 p.mx, .slice B1 p.idle.length d1, .slice B2 p.held.length d2, .slice B3 p.wait.length d3] 30)
        clear hB101 x102 r103 o104
        have t109 : At (w3.alloc (.cells #[.int .i64 p.mx, .slice B1 p.idle.length d1, .slice B2 p.held.length d2, .slice B3 p.wait.length d3] 30)) (w3.heap.size) 30 #[.int .i64 p.mx, .slice B1 p.idle.length d1, .slice B2 p.held.length d2, .slice B3 p.wait.length d3] := At.newAt _ _ (by first | rfl | (simp; done) | (simp; omega))
        go_wp2_with fail
        with_reducible refine (holdsWithout_to HX.out (h.on hB105).held (Nat.le_trans H2.out (by decide))).mono ?_
        rintro e w4 ⟨v4, rfl, hn4, hb4⟩
        obtain ⟨An4, cn4, rfl, _⟩ := hn4.form
        have sz4 : w3.heap.size + 1 ≤ w4.heap.size := Nat.le_trans (by first | exact Nat.le_refl _ | (simp; done) | (simp; omega)) (hb4.size)
        have o110 := o108.newHeld (by first | omega | (simp; omega) | (simp; done)) hn4 hb4
        have hB111 := hB105.trans (hb4.mono hB105.size)
        have x112 := x106.below hb4 x106.lt
        have r113 := r107.below hb4 r107.lt
        have t114 := t109.below hb4 t109.lt
        clear hB105 x106 r107 t109
        clear p0 p1 p2 p3 pl pf q0 q1 q2 q3 ql qf
        clear o108 hn4
        obtain ⟨p0, p1, p2, p3, pl, pf⟩ := (⟨x112.cell 0, x112.cell 1, x112.cell 2, x112.cell 3, x112.lt, x112.frozen⟩ : _ ∧ _ ∧ _ ∧ _ ∧ _ ∧ _)
        obtain ⟨q0, q1, q2, q3, ql, qf⟩ := (⟨r113.cell 0, r113.cell 1, r113.cell 2, r113.cell 3, r113.lt, r113.frozen⟩ : _ ∧ _ ∧ _ ∧ _ ∧ _ ∧ _)
        obtain ⟨t0, t1, t2, t3, tl, tf⟩ := (⟨t114.cell 0, t114.cell 1, t114.cell 2, t114.cell 3, t114.lt, t114.frozen⟩ : _ ∧ _ ∧ _ ∧ _ ∧ _ ∧ _)
        have ne_pq : ¬ w.heap.size = w.heap.size + 1 := by omega
        have ne_qp : ¬ w.heap.size + 1 = w.heap.size := by omega
        have ne_pt : ¬ w.heap.size = w3.heap.size := by omega
        have ne_tp : ¬ w3.heap.size = w.heap.size := by omega
        have ne_qt : ¬ w.heap.size + 1 = w3.heap.size := by omega
        have ne_tq : ¬ w3.heap.size = w.heap.size + 1 := by omega
        have hB115 := below_put hB111 (grown_set w4 (w3.heap.size) 2 (.slice An4 X.length cn4)) (by omega) (by have := hB111.size; omega)
        have x116 := x112.past (grown_set w4 (w3.heap.size) 2 (.slice An4 X.length cn4)) (by omega)
        have r117 := r113.past (grown_set w4 (w3.heap.size) 2 (.slice An4 X.length cn4)) (by omega)
        have o118 := o110.past t114 (grown_set w4 (w3.heap.size) 2 (.slice An4 X.length cn4))
        have t119 : At (w4.setCell ⟨w3.heap.size, 2, none⟩ (.slice An4 X.length cn4)) (w3.heap.size) 30 #[.int .i64 p.mx, .slice B1 p.idle.length d1, .slice An4 X.length cn4, .slice B3 p.wait.length d3] := by simpa using t114.set 2 (.slice An4 X.length cn4)
        clear hB111 x112 r113 o110 t114
        have hcell := HWe.out _ (h.on hB115).wait
        go_wp2_with fail
        with_reducible refine (copyNumbers_len (n := 0) (l := L) HL0.out (by rw [HN.out, ints_nil]; exact Sees.nil) HLn.out).mono ?_
        rintro e w5 ⟨v5, rfl, hn5, hb5⟩
        obtain ⟨An5, cn5, rfl, _⟩ := hn5.form
        have sz5 : w4.heap.size ≤ w5.heap.size := Nat.le_trans (by first | exact Nat.le_refl _ | (simp; done) | (simp; omega)) (hb5.size)
        have o120 := o118.newWait (by first | omega | (simp; omega) | (simp; done)) hn5 hb5
        have hB121 := hB115.trans (hb5.mono hB115.size)
        have x122 := x116.below hb5 x116.lt
        have r123 := r117.below hb5 r117.lt
        have t124 := t119.below hb5 t119.lt
        clear hB115 x116 r117 t119
        clear p0 p1 p2 p3 pl pf q0 q1 q2 q3 ql qf t0 t1 t2 t3 tl tf ne_pq ne_qp ne_pt ne_tp ne_qt ne_tq
        clear o118 hn5
        clear hcell
        obtain ⟨p0, p1, p2, p3, pl, pf⟩ := (⟨x122.cell 0, x122.cell 1, x122.cell 2, x122.cell 3, x122.lt, x122.frozen⟩ : _ ∧ _ ∧ _ ∧ _ ∧ _ ∧ _)
        obtain ⟨q0, q1, q2, q3, ql, qf⟩ := (⟨r123.cell 0, r123.cell 1, r123.cell 2, r123.cell 3, r123.lt, r123.frozen⟩ : _ ∧ _ ∧ _ ∧ _ ∧ _ ∧ _)
        obtain ⟨t0, t1, t2, t3, tl, tf⟩ := (⟨t124.cell 0, t124.cell 1, t124.cell 2, t124.cell 3, t124.lt, t124.frozen⟩ : _ ∧ _ ∧ _ ∧ _ ∧ _ ∧ _)
        have ne_pq : ¬ w.heap.size = w.heap.size + 1 := by omega
        have ne_qp : ¬ w.heap.size + 1 = w.heap.size := by omega
        have ne_pt : ¬ w.heap.size = w3.heap.size := by omega
        have ne_tp : ¬ w3.heap.size = w.heap.size := by omega
        have ne_qt : ¬ w.heap.size + 1 = w3.heap.size := by omega
        have ne_tq : ¬ w3.heap.size = w.heap.size + 1 := by omega
        have hB125 := below_put hB121 (grown_set w5 (w3.heap.size) 3 (.slice An5 L.length cn5)) (by omega) (by have := hB121.size; omega)
        have x126 := x122.past (grown_set w5 (w3.heap.size) 3 (.slice An5 L.length cn5)) (by omega)
        have r127 := r123.past (grown_set w5 (w3.heap.size) 3 (.slice An5 L.length cn5)) (by omega)
        have o128 := o120.past t124 (grown_set w5 (w3.heap.size) 3 (.slice An5 L.length cn5))
        have t129 : At (w5.setCell ⟨w3.heap.size, 3, none⟩ (.slice An5 L.length cn5)) (w3.heap.size) 30 #[.int .i64 p.mx, .slice B1 p.idle.length d1, .slice An4 X.length cn4, .slice An5 L.length cn5] := by simpa using t124.set 3 (.slice An5 L.length cn5)
        clear hB121 x122 r123 o120 t124
        have hB130 := hB125.alloc hB125.size (.cells #[.int .i64 o, .int .i64 C] 91)
        have x131 := x126.alloc (.cells #[.int .i64 o, .int .i64 C] 91)
        have r132 := r127.alloc (.cells #[.int .i64 o, .int .i64 C] 91)
        have t133 := t129.alloc (.cells #[.int .i64 o, .int .i64 C] 91)
        have o134 := o128.alloc (.cells #[.int .i64 o, .int .i64 C] 91)
        clear hB125 x126 r127 t129 o128
        have hown := o134.2.1.out
        have hlow := o134.low.2.1
        go_wp2_with (at_builtin; refine wpList_append_own_at _ rfl _ _ 28 rfl (w.heap.size + 2) 91 ih0 (.agg #[.int .i64 0, .int .i64 0]) 2 16 Try.underlying28 hih0 hzh0 hzh1 hzh2 rfl (by decide) _ _ _ rfl hown ⟨w5.heap.size, 0, none⟩ 1 1 [.int .i64 o, .int .i64 C] rfl rfl (by simpa using cells_new (w5.setCell ⟨w3.heap.size, 3, none⟩ (.slice An5 L.length cn5)) [.int .i64 o, .int .i64 C] 91) ?c2 ?c3 ?c4 ?c5 ?_)
        case c2 => simp [Value.oneCell']
        case c3 => have := HXn.out; unfold maxLen; omega
        case c4 => have := HXn.out; omega
        case c5 => first | omega | (simp; omega) | (simp; done)
        case _ =>
          intro va w6 h1 hg1 _ hat
          obtain ⟨A135, c135, rfl, _, _⟩ := own_form h1
          have sz6 : w5.heap.size + 1 ≤ w6.heap.size := Nat.le_trans (by first | exact Nat.le_refl _ | (simp; done) | (simp; omega)) (hg1.size)
          have hB136 := hB130.grown hg1 hB130.size (fun q hq => Nat.le_trans (by omega) (hlow q hq))
          have x137 := x131.beside hown (by decide) hg1
          have r138 := r132.beside hown (by decide) hg1
          have t139 := t133.beside hown (by decide) hg1
          have o140 := o134.addHeld (x := ⟨o, C⟩) h1 hg1 (by simpa using hat)
          clear h1 hg1 hat hown hlow hB130 x131 r132 t133 o134
          clear p0 p1 p2 p3 pl pf q0 q1 q2 q3 ql qf t0 t1 t2 t3 tl tf ne_pq ne_qp ne_pt ne_tp ne_qt ne_tq
          obtain ⟨p0, p1, p2, p3, pl, pf⟩ := (⟨x137.cell 0, x137.cell 1, x137.cell 2, x137.cell 3, x137.lt, x137.frozen⟩ : _ ∧ _ ∧ _ ∧ _ ∧ _ ∧ _)
          obtain ⟨q0, q1, q2, q3, ql, qf⟩ := (⟨r138.cell 0, r138.cell 1, r138.cell 2, r138.cell 3, r138.lt, r138.frozen⟩ : _ ∧ _ ∧ _ ∧ _ ∧ _ ∧ _)
          obtain ⟨t0, t1, t2, t3, tl, tf⟩ := (⟨t139.cell 0, t139.cell 1, t139.cell 2, t139.cell 3, t139.lt, t139.frozen⟩ : _ ∧ _ ∧ _ ∧ _ ∧ _ ∧ _)
          have ne_pq : ¬ w.heap.size = w.heap.size + 1 := by omega
          have ne_qp : ¬ w.heap.size + 1 = w.heap.size := by omega
          have ne_pt : ¬ w.heap.size = w3.heap.size := by omega
          have ne_tp : ¬ w3.heap.size = w.heap.size := by omega
          have ne_qt : ¬ w.heap.size + 1 = w3.heap.size := by omega
          have ne_tq : ¬ w3.heap.size = w.heap.size + 1 := by omega
          have hB141 := below_put hB136 (grown_set w6 (w3.heap.size) 2 (.slice A135 (X.length + 1) c135)) (by omega) (by have := hB136.size; omega)
          have x142 := x137.past (grown_set w6 (w3.heap.size) 2 (.slice A135 (X.length + 1) c135)) (by omega)
          have r143 := r138.past (grown_set w6 (w3.heap.size) 2 (.slice A135 (X.length + 1) c135)) (by omega)
          have o144 := o140.past t139 (grown_set w6 (w3.heap.size) 2 (.slice A135 (X.length + 1) c135))
          have t145 : At (w6.setCell ⟨w3.heap.size, 2, none⟩ (.slice A135 (X.length + 1) c135)) (w3.heap.size) 30 #[.int .i64 p.mx, .slice B1 p.idle.length d1, .slice A135 (X.length + 1) c135, .slice An5 L.length cn5] := by simpa using t139.set 2 (.slice A135 (X.length + 1) c135)
          clear hB136 x137 r138 o140 t139
          have hB146 := below_put hB141 (grown_set (w6.setCell ⟨w3.heap.size, 2, none⟩ (.slice A135 (X.length + 1) c135)) (w.heap.size + 1) 0 (.int .i64 p.mx)) (by omega) (by have := hB141.size; omega)
          have x147 := x142.past (grown_set (w6.setCell ⟨w3.heap.size, 2, none⟩ (.slice A135 (X.length + 1) c135)) (w.heap.size + 1) 0 (.int .i64 p.mx)) (by omega)
          have t148 := t145.past (grown_set (w6.setCell ⟨w3.heap.size, 2, none⟩ (.slice A135 (X.length + 1) c135)) (w.heap.size + 1) 0 (.int .i64 p.mx)) (by omega)
          have o149 := o144.past r143 (grown_set (w6.setCell ⟨w3.heap.size, 2, none⟩ (.slice A135 (X.length + 1) c135)) (w.heap.size + 1) 0 (.int .i64 p.mx))
          have r150 : At ((w6.setCell ⟨w3.heap.size, 2, none⟩ (.slice A135 (X.length + 1) c135)).setCell ⟨w.heap.size + 1, 0, none⟩ (.int .i64 p.mx)) (w.heap.size + 1) 30 #[.int .i64 p.mx, .slice none 0 0, .slice none 0 0, .slice none 0 0] := by simpa using r143.set 0 (.int .i64 p.mx)
          clear hB141 x142 t145 o144 r143
          have hB151 := below_put hB146 (grown_set ((w6.setCell ⟨w3.heap.size, 2, none⟩ (.slice A135 (X.length + 1) c135)).setCell ⟨w.heap.size + 1, 0, none⟩ (.int .i64 p.mx)) (w.heap.size + 1) 1 (.slice B1 p.idle.length d1)) (by omega) (by have := hB146.size; omega)
          have x152 := x147.past (grown_set ((w6.setCell ⟨w3.heap.size, 2, none⟩ (.slice A135 (X.length + 1) c135)).setCell ⟨w.heap.size + 1, 0, none⟩ (.int .i64 p.mx)) (w.heap.size + 1) 1 (.slice B1 p.idle.length d1)) (by omega)
          have t153 := t148.past (grown_set ((w6.setCell ⟨w3.heap.size, 2, none⟩ (.slice A135 (X.length + 1) c135)).setCell ⟨w.heap.size + 1, 0, none⟩ (.int .i64 p.mx)) (w.heap.size + 1) 1 (.slice B1 p.idle.length d1)) (by omega)
          have o154 := o149.past r150 (grown_set ((w6.setCell ⟨w3.heap.size, 2, none⟩ (.slice A135 (X.length + 1) c135)).setCell ⟨w.heap.size + 1, 0, none⟩ (.int .i64 p.mx)) (w.heap.size + 1) 1 (.slice B1 p.idle.length d1))
          have r155 : At (((w6.setCell ⟨w3.heap.size, 2, none⟩ (.slice A135 (X.length + 1) c135)).setCell ⟨w.heap.size + 1, 0, none⟩ (.int .i64 p.mx)).setCell ⟨w.heap.size + 1, 1, none⟩ (.slice B1 p.idle.length d1)) (w.heap.size + 1) 30 #[.int .i64 p.mx, .slice B1 p.idle.length d1, .slice none 0 0, .slice none 0 0] := by simpa using r150.set 1 (.slice B1 p.idle.length d1)
          clear hB146 x147 t148 o149 r150
          have hB156 := below_put hB151 (grown_set (((w6.setCell ⟨w3.heap.size, 2, none⟩ (.slice A135 (X.length + 1) c135)).setCell ⟨w.heap.size + 1, 0, none⟩ (.int .i64 p.mx)).setCell ⟨w.heap.size + 1, 1, none⟩ (.slice B1 p.idle.length d1)) (w.heap.size + 1) 2 (.slice A135 (X.length + 1) c135)) (by omega) (by have := hB151.size; omega)
          have x157 := x152.past (grown_set (((w6.setCell ⟨w3.heap.size, 2, none⟩ (.slice A135 (X.length + 1) c135)).setCell ⟨w.heap.size + 1, 0, none⟩ (.int .i64 p.mx)).setCell ⟨w.heap.size + 1, 1, none⟩ (.slice B1 p.idle.length d1)) (w.heap.size + 1) 2 (.slice A135 (X.length + 1) c135)) (by omega)
          have t158 := t153.past (grown_set (((w6.setCell ⟨w3.heap.size, 2, none⟩ (.slice A135 (X.length + 1) c135)).setCell ⟨w.heap.size + 1, 0, none⟩ (.int .i64 p.mx)).setCell ⟨w.heap.size + 1, 1, none⟩ (.slice B1 p.idle.length d1)) (w.heap.size + 1) 2 (.slice A135 (X.length + 1) c135)) (by omega)
          have o159 := o154.past r155 (grown_set (((w6.setCell ⟨w3.heap.size, 2, none⟩ (.slice A135 (X.length + 1) c135)).setCell ⟨w.heap.size + 1, 0, none⟩ (.int .i64 p.mx)).setCell ⟨w.heap.size + 1, 1, none⟩ (.slice B1 p.idle.length d1)) (w.heap.size + 1) 2 (.slice A135 (X.length + 1) c135))
          have r160 : At ((((w6.setCell ⟨w3.heap.size, 2, none⟩ (.slice A135 (X.length + 1) c135)).setCell ⟨w.heap.size + 1, 0, none⟩ (.int .i64 p.mx)).setCell ⟨w.heap.size + 1, 1, none⟩ (.slice B1 p.idle.length d1)).setCell ⟨w.heap.size + 1, 2, none⟩ (.slice A135 (X.length + 1) c135)) (w.heap.size + 1) 30 #[.int .i64 p.mx, .slice B1 p.idle.length d1, .slice A135 (X.length + 1) c135, .slice none 0 0] := by simpa using r155.set 2 (.slice A135 (X.length + 1) c135)
          clear hB151 x152 t153 o154 r155
          have hB161 := below_put hB156 (grown_set ((((w6.setCell ⟨w3.heap.size, 2, none⟩ (.slice A135 (X.length + 1) c135)).setCell ⟨w.heap.size + 1, 0, none⟩ (.int .i64 p.mx)).setCell ⟨w.heap.size + 1, 1, none⟩ (.slice B1 p.idle.length d1)).setCell ⟨w.heap.size + 1, 2, none⟩ (.slice A135 (X.length + 1) c135)) (w.heap.size + 1) 3 (.slice An5 L.length cn5)) (by omega) (by have := hB156.size; omega)
          have x162 := x157.past (grown_set ((((w6.setCell ⟨w3.heap.size, 2, none⟩ (.slice A135 (X.length + 1) c135)).setCell ⟨w.heap.size + 1, 0, none⟩ (.int .i64 p.mx)).setCell ⟨w.heap.size + 1, 1, none⟩ (.slice B1 p.idle.length d1)).setCell ⟨w.heap.size + 1, 2, none⟩ (.slice A135 (X.length + 1) c135)) (w.heap.size + 1) 3 (.slice An5 L.length cn5)) (by omega)
          have t163 := t158.past (grown_set ((((w6.setCell ⟨w3.heap.size, 2, none⟩ (.slice A135 (X.length + 1) c135)).setCell ⟨w.heap.size + 1, 0, none⟩ (.int .i64 p.mx)).setCell ⟨w.heap.size + 1, 1, none⟩ (.slice B1 p.idle.length d1)).setCell ⟨w.heap.size + 1, 2, none⟩ (.slice A135 (X.length + 1) c135)) (w.heap.size + 1) 3 (.slice An5 L.length cn5)) (by omega)
          have o164 := o159.past r160 (grown_set ((((w6.setCell ⟨w3.heap.size, 2, none⟩ (.slice A135 (X.length + 1) c135)).setCell ⟨w.heap.size + 1, 0, none⟩ (.int .i64 p.mx)).setCell ⟨w.heap.size + 1, 1, none⟩ (.slice B1 p.idle.length d1)).setCell ⟨w.heap.size + 1, 2, none⟩ (.slice A135 (X.length + 1) c135)) (w.heap.size + 1) 3 (.slice An5 L.length cn5))
          have r165 : At (((((w6.setCell ⟨w3.heap.size, 2, none⟩ (.slice A135 (X.length + 1) c135)).setCell ⟨w.heap.size + 1, 0, none⟩ (.int .i64 p.mx)).setCell ⟨w.heap.size + 1, 1, none⟩ (.slice B1 p.idle.length d1)).setCell ⟨w.heap.size + 1, 2, none⟩ (.slice A135 (X.length + 1) c135)).setCell ⟨w.heap.size + 1, 3, none⟩ (.slice An5 L.length cn5)) (w.heap.size + 1) 30 #[.int .i64 p.mx, .slice B1 p.idle.length d1, .slice A135 (X.length + 1) c135, .slice An5 L.length cn5] := by simpa using r160.set 3 (.slice An5 L.length cn5)
          clear hB156 x157 t158 o159 r160
          go_wp2
          refine bodyPost_ret (v := .tuple #[.agg #[.int .i64 p.mx, .slice B1 p.idle.length d1, .slice A135 (X.length + 1) c135, .slice An5 L.length cn5], .int .i64 C, .bool true]) (by simp [results, Try.results99, go_sem, r165.cell]) rfl ?_
          rw [E1.out, E2.out, EB.out, HX.out]
          exact ⟨B1, A135, An5, d1, c135, cn5, by simp [List.length_append], (by simpa [List.length_append] using o164.mono (show w.heap.size ≤ w.heap.size + 2 by omega)), hB161⟩
      · skip
        have hB166 := Below.refl w.heap.size w
        have hB167 := hB166.alloc hB166.size (.cells #[.int .i64 p.mx, .slice A1 p.idle.length c1, .slice A2 p.held.length c2, .slice (some ⟨b, of, none⟩) p.wait.length c3] 30)
        clear hB166
        have x168 : At (w.alloc (.cells #[.int .i64 p.mx, .slice A1 p.idle.length c1, .slice A2 p.held.length c2, .slice (some ⟨b, of, none⟩) p.wait.length c3] 30)) (w.heap.size) 30 #[.int .i64 p.mx, .slice A1 p.idle.length c1, .slice A2 p.held.length c2, .slice (some ⟨b, of, none⟩) p.wait.length c3] := At.newAt _ _ (by first | rfl | (simp; done) | (simp; omega))
        have hB169 := hB167.alloc hB167.size (.cells #[.int .i64 0, .slice none 0 0, .slice none 0 0, .slice none 0 0] 30)
        have x170 := x168.alloc (.cells #[.int .i64 0, .slice none 0 0, .slice none 0 0, .slice none 0 0] 30)
        clear hB167 x168
        have r171 : At ((w.alloc (.cells #[.int .i64 p.mx, .slice A1 p.idle.length c1, .slice A2 p.held.length c2, .slice (some ⟨b, of, none⟩) p.wait.length c3] 30)).alloc (.cells #[.int .i64 0, .slice none 0 0, .slice none 0 0, .slice none 0 0] 30)) (w.heap.size + 1) 30 #[.int .i64 0, .slice none 0 0, .slice none 0 0, .slice none 0 0] := At.newAt _ _ (by first | rfl | (simp; done) | (simp; omega))
        go_enter Try.func99, Try.ntmps99
        obtain ⟨p0, p1, p2, p3, pl, pf⟩ := (⟨x170.cell 0, x170.cell 1, x170.cell 2, x170.cell 3, x170.lt, x170.frozen⟩ : _ ∧ _ ∧ _ ∧ _ ∧ _ ∧ _)
        obtain ⟨q0, q1, q2, q3, ql, qf⟩ := (⟨r171.cell 0, r171.cell 1, r171.cell 2, r171.cell 3, r171.lt, r171.frozen⟩ : _ ∧ _ ∧ _ ∧ _ ∧ _ ∧ _)
        go_wp2_with fail
        with_reducible refine (iValidPool_any p A1 A2 (some ⟨b, of, none⟩) c1 c2 c3 _ (h.on hB169) H1.out H2.out (Nat.le_trans H3.out (by decide))).mono ?_
        rintro e w1 ⟨he, hb1⟩
        rw [HK.out] at he
        subst he
        have sz1 : w.heap.size + 2 ≤ w1.heap.size := Nat.le_trans (by first | exact Nat.le_refl _ | (simp; done) | (simp; omega)) (hb1.size)
        have hB172 := hB169.trans (hb1.mono hB169.size)
        have x173 := x170.below hb1 x170.lt
        have r174 := r171.below hb1 r171.lt
        clear hB169 x170 r171
        clear p0 p1 p2 p3 pl pf q0 q1 q2 q3 ql qf
        obtain ⟨p0, p1, p2, p3, pl, pf⟩ := (⟨x173.cell 0, x173.cell 1, x173.cell 2, x173.cell 3, x173.lt, x173.frozen⟩ : _ ∧ _ ∧ _ ∧ _ ∧ _ ∧ _)
        obtain ⟨q0, q1, q2, q3, ql, qf⟩ := (⟨r174.cell 0, r174.cell 1, r174.cell 2, r174.cell 3, r174.lt, r174.frozen⟩ : _ ∧ _ ∧ _ ∧ _ ∧ _ ∧ _)
        go_wp2_with fail
        with_reducible refine (heldConns_any A2 c2 p.held _ (h.on hB172).held (Nat.le_trans H2.out (by decide))).mono ?_
        rintro e w2 ⟨v2, rfl, hn2, hb2⟩
        obtain ⟨An2, cn2, rfl, _⟩ := hn2.form
        have hse := Sees.of_own hn2.out
        have sz2 : w1.heap.size ≤ w2.heap.size := Nat.le_trans (by first | exact Nat.le_refl _ | (simp; done) | (simp; omega)) (hb2.size)
        have hB175 := hB172.trans (hb2.mono hB172.size)
        have x176 := x173.below hb2 x173.lt
        have r177 := r174.below hb2 r174.lt
        clear hB172 x173 r174
        clear p0 p1 p2 p3 pl pf q0 q1 q2 q3 ql qf
        clear hn2
        obtain ⟨p0, p1, p2, p3, pl, pf⟩ := (⟨x176.cell 0, x176.cell 1, x176.cell 2, x176.cell 3, x176.lt, x176.frozen⟩ : _ ∧ _ ∧ _ ∧ _ ∧ _ ∧ _)
        obtain ⟨q0, q1, q2, q3, ql, qf⟩ := (⟨r177.cell 0, r177.cell 1, r177.cell 2, r177.cell 3, r177.lt, r177.frozen⟩ : _ ∧ _ ∧ _ ∧ _ ∧ _ ∧ _)
        go_wp2_with fail
        with_reducible refine (placeOf_len HMl.out hse HMn.out).mono ?_
        rintro e w' ⟨he, rfl⟩
        rw [HP.out] at he
        subst he
        clear p0 p1 p2 p3 pl pf q0 q1 q2 q3 ql qf
        clear hse
        obtain ⟨p0, p1, p2, p3, pl, pf⟩ := (⟨x176.cell 0, x176.cell 1, x176.cell 2, x176.cell 3, x176.lt, x176.frozen⟩ : _ ∧ _ ∧ _ ∧ _ ∧ _ ∧ _)
        obtain ⟨q0, q1, q2, q3, ql, qf⟩ := (⟨r177.cell 0, r177.cell 1, r177.cell 2, r177.cell 3, r177.lt, r177.frozen⟩ : _ ∧ _ ∧ _ ∧ _ ∧ _ ∧ _)
        go_wp2_with fail
        with_reducible refine (icopyPool_any p A1 A2 (some ⟨b, of, none⟩) c1 c2 c3 _ (h.on hB175) (Nat.le_trans H1.out (by decide)) (Nat.le_trans H2.out (by decide)) (Nat.le_trans H3.out (by decide))).mono ?_
        rintro e w3 ⟨B1, B2, B3, d1, d2, d3, rfl, ho, hb3⟩
        have sz3 : w2.heap.size ≤ w3.heap.size := Nat.le_trans (by first | exact Nat.le_refl _ | (simp; done) | (simp; omega)) (hb3.size)
        have hB178 := hB175.trans (hb3.mono hB175.size)
        have x179 := x176.below hb3 x176.lt
        have r180 := r177.below hb3 r177.lt
        clear hB175 x176 r177
        clear p0 p1 p2 p3 pl pf q0 q1 q2 q3 ql qf
        have o181 := ho.mono (show w.heap.size + 2 ≤ _ by omega)
        clear ho
        obtain ⟨p0, p1, p2, p3, pl, pf⟩ := (⟨x179.cell 0, x179.cell 1, x179.cell 2, x179.cell 3, x179.lt, x179.frozen⟩ : _ ∧ _ ∧ _ ∧ _ ∧ _ ∧ _)
        obtain ⟨q0, q1, q2, q3, ql, qf⟩ := (⟨r180.cell 0, r180.cell 1, r180.cell 2, r180.cell 3, r180.lt, r180.frozen⟩ : _ ∧ _ ∧ _ ∧ _ ∧ _ ∧ _)
        have hB182 := hB178.alloc hB178.size (.cells #[.int .i64 p.mx, .slice B1 p.idle.length d1, .slice B2 p.held.length d2, .slice B3 p.wait.length d3] 30)
        have x183 := x179.alloc (.cells #[.int .i64 p.mx, .slice B1 p.idle.length d1, .slice B2 p.held.length d2, .slice B3 p.wait.length d3] 30)
        have r184 := r180.alloc (.cells #[.int .i64 p.mx, .slice B1 p.idle.length d1, .slice B2 p.held.length d2, .slice B3 p.wait.length d3] 30)
        have o185 := o181.alloc (.cells #[.int .i64 p.mx, .slice B1 p.idle.length d1, .slice B2 p.held.length d2, .slice B3 p.wait.length d3] 30)
        clear hB178 x179 r180 o181
        have t186 : At (w3.alloc (.cells #[.int .i64 p.mx, .slice B1 p.idle.length d1, .slice B2 p.held.length d2, .slice B3 p.wait.length d3] 30)) (w3.heap.size) 30 #[.int .i64 p.mx, .slice B1 p.idle.length d1, .slice B2 p.held.length d2, .slice B3 p.wait.length d3] := At.newAt _ _ (by first | rfl | (simp; done) | (simp; omega))
        go_wp2_with fail
        with_reducible refine (holdsWithout_to HX.out (h.on hB182).held (Nat.le_trans H2.out (by decide))).mono ?_
        rintro e w4 ⟨v4, rfl, hn4, hb4⟩
        obtain ⟨An4, cn4, rfl, _⟩ := hn4.form
        have sz4 : w3.heap.size + 1 ≤ w4.heap.size := Nat.le_trans (by first | exact Nat.le_refl _ | (simp; done) | (simp; omega)) (hb4.size)
        have o187 := o185.newHeld (by first | omega | (simp; omega) | (simp; done)) hn4 hb4
        have hB188 := hB182.trans (hb4.mono hB182.size)
        have x189 := x183.below hb4 x183.lt
        have r190 := r184.below hb4 r184.lt
        have t191 := t186.below hb4 t186.lt
        clear hB182 x183 r184 t186
        clear p0 p1 p2 p3 pl pf q0 q1 q2 q3 ql qf
        clear o185 hn4
        obtain ⟨p0, p1, p2, p3, pl, pf⟩ := (⟨x189.cell 0, x189.cell 1, x189.cell 2, x189.cell 3, x189.lt, x189.frozen⟩ : _ ∧ _ ∧ _ ∧ _ ∧ _ ∧ _)
        obtain ⟨q0, q1, q2, q3, ql, qf⟩ := (⟨r190.cell 0, r190.cell 1, r190.cell 2, r190.cell 3, r190.lt, r190.frozen⟩ : _ ∧ _ ∧ _ ∧ _ ∧ _ ∧ _)
        obtain ⟨t0, t1, t2, t3, tl, tf⟩ := (⟨t191.cell 0, t191.cell 1, t191.cell 2, t191.cell 3, t191.lt, t191.frozen⟩ : _ ∧ _ ∧ _ ∧ _ ∧ _ ∧ _)
        have ne_pq : ¬ w.heap.size = w.heap.size + 1 := by omega
        have ne_qp : ¬ w.heap.size + 1 = w.heap.size := by omega
        have ne_pt : ¬ w.heap.size = w3.heap.size := by omega
        have ne_tp : ¬ w3.heap.size = w.heap.size := by omega
        have ne_qt : ¬ w.heap.size + 1 = w3.heap.size := by omega
        have ne_tq : ¬ w3.heap.size = w.heap.size + 1 := by omega
        have hB192 := below_put hB188 (grown_set w4 (w3.heap.size) 2 (.slice An4 X.length cn4)) (by omega) (by have := hB188.size; omega)
        have x193 := x189.past (grown_set w4 (w3.heap.size) 2 (.slice An4 X.length cn4)) (by omega)
        have r194 := r190.past (grown_set w4 (w3.heap.size) 2 (.slice An4 X.length cn4)) (by omega)
        have o195 := o187.past t191 (grown_set w4 (w3.heap.size) 2 (.slice An4 X.length cn4))
        have t196 : At (w4.setCell ⟨w3.heap.size, 2, none⟩ (.slice An4 X.length cn4)) (w3.heap.size) 30 #[.int .i64 p.mx, .slice B1 p.idle.length d1, .slice An4 X.length cn4, .slice B3 p.wait.length d3] := by simpa using t191.set 2 (.slice An4 X.length cn4)
        clear hB188 x189 r190 o187 t191
        have hcell := HWe.out _ (h.on hB192).wait
        go_wp2_with fail
        with_reducible refine (copyNumbers_len HL.out (HSl.out _ (h.on hB192).wait) HLn.out).mono ?_
        rintro e w5 ⟨v5, rfl, hn5, hb5⟩
        obtain ⟨An5, cn5, rfl, _⟩ := hn5.form
        have sz5 : w4.heap.size ≤ w5.heap.size := Nat.le_trans (by first | exact Nat.le_refl _ | (simp; done) | (simp; omega)) (hb5.size)
        have o197 := o195.newWait (by first | omega | (simp; omega) | (simp; done)) hn5 hb5
        have hB198 := hB192.trans (hb5.mono hB192.size)
        have x199 := x193.below hb5 x193.lt
        have r200 := r194.below hb5 r194.lt
        have t201 := t196.below hb5 t196.lt
        clear hB192 x193 r194 t196
        clear p0 p1 p2 p3 pl pf q0 q1 q2 q3 ql qf t0 t1 t2 t3 tl tf ne_pq ne_qp ne_pt ne_tp ne_qt ne_tq
        clear o195 hn5
        clear hcell
        obtain ⟨p0, p1, p2, p3, pl, pf⟩ := (⟨x199.cell 0, x199.cell 1, x199.cell 2, x199.cell 3, x199.lt, x199.frozen⟩ : _ ∧ _ ∧ _ ∧ _ ∧ _ ∧ _)
        obtain ⟨q0, q1, q2, q3, ql, qf⟩ := (⟨r200.cell 0, r200.cell 1, r200.cell 2, r200.cell 3, r200.lt, r200.frozen⟩ : _ ∧ _ ∧ _ ∧ _ ∧ _ ∧ _)
        obtain ⟨t0, t1, t2, t3, tl, tf⟩ := (⟨t201.cell 0, t201.cell 1, t201.cell 2, t201.cell 3, t201.lt, t201.frozen⟩ : _ ∧ _ ∧ _ ∧ _ ∧ _ ∧ _)
        have ne_pq : ¬ w.heap.size = w.heap.size + 1 := by omega
        have ne_qp : ¬ w.heap.size + 1 = w.heap.size := by omega
        have ne_pt : ¬ w.heap.size = w3.heap.size := by omega
        have ne_tp : ¬ w3.heap.size = w.heap.size := by omega
        have ne_qt : ¬ w.heap.size + 1 = w3.heap.size := by omega
        have ne_tq : ¬ w3.heap.size = w.heap.size + 1 := by omega
        have hB202 := below_put hB198 (grown_set w5 (w3.heap.size) 3 (.slice An5 L.length cn5)) (by omega) (by have := hB198.size; omega)
        have x203 := x199.past (grown_set w5 (w3.heap.size) 3 (.slice An5 L.length cn5)) (by omega)
        have r204 := r200.past (grown_set w5 (w3.heap.size) 3 (.slice An5 L.length cn5)) (by omega)
        have o205 := o197.past t201 (grown_set w5 (w3.heap.size) 3 (.slice An5 L.length cn5))
        have t206 : At (w5.setCell ⟨w3.heap.size, 3, none⟩ (.slice An5 L.length cn5)) (w3.heap.size) 30 #[.int .i64 p.mx, .slice B1 p.idle.length d1, .slice An4 X.length cn4, .slice An5 L.length cn5] := by simpa using t201.set 3 (.slice An5 L.length cn5)
        clear hB198 x199 r200 o197 t201
        have hB207 := hB202.alloc hB202.size (.cells #[.int .i64 o, .int .i64 C] 91)
        have x208 := x203.alloc (.cells #[.int .i64 o, .int .i64 C] 91)
        have r209 := r204.alloc (.cells #[.int .i64 o, .int .i64 C] 91)
        have t210 := t206.alloc (.cells #[.int .i64 o, .int .i64 C] 91)
        have o211 := o205.alloc (.cells #[.int .i64 o, .int .i64 C] 91)
        clear hB202 x203 r204 t206 o205
        have hown := o211.2.1.out
        have hlow := o211.low.2.1
        go_wp2_with (at_builtin; refine wpList_append_own_at _ rfl _ _ 28 rfl (w.heap.size + 2) 91 ih0 (.agg #[.int .i64 0, .int .i64 0]) 2 16 Try.underlying28 hih0 hzh0 hzh1 hzh2 rfl (by decide) _ _ _ rfl hown ⟨w5.heap.size, 0, none⟩ 1 1 [.int .i64 o, .int .i64 C] rfl rfl (by simpa using cells_new (w5.setCell ⟨w3.heap.size, 3, none⟩ (.slice An5 L.length cn5)) [.int .i64 o, .int .i64 C] 91) ?c2 ?c3 ?c4 ?c5 ?_)
        case c2 => simp [Value.oneCell']
        case c3 => have := HXn.out; unfold maxLen; omega
        case c4 => have := HXn.out; omega
        case c5 => first | omega | (simp; omega) | (simp; done)
        case _ =>
          intro va w6 h1 hg1 _ hat
          obtain ⟨A212, c212, rfl, _, _⟩ := own_form h1
          have sz6 : w5.heap.size + 1 ≤ w6.heap.size := Nat.le_trans (by first | exact Nat.le_refl _ | (simp; done) | (simp; omega)) (hg1.size)
          have hB213 := hB207.grown hg1 hB207.size (fun q hq => Nat.le_trans (by omega) (hlow q hq))
          have x214 := x208.beside hown (by decide) hg1
          have r215 := r209.beside hown (by decide) hg1
          have t216 := t210.beside hown (by decide) hg1
          have o217 := o211.addHeld (x := ⟨o, C⟩) h1 hg1 (by simpa using hat)
          clear h1 hg1 hat hown hlow hB207 x208 r209 t210 o211
          clear p0 p1 p2 p3 pl pf q0 q1 q2 q3 ql qf t0 t1 t2 t3 tl tf ne_pq ne_qp ne_pt ne_tp ne_qt ne_tq
          obtain ⟨p0, p1, p2, p3, pl, pf⟩ := (⟨x214.cell 0, x214.cell 1, x214.cell 2, x214.cell 3, x214.lt, x214.frozen⟩ : _ ∧ _ ∧ _ ∧ _ ∧ _ ∧ _)
          obtain ⟨q0, q1, q2, q3, ql, qf⟩ := (⟨r215.cell 0, r215.cell 1, r215.cell 2, r215.cell 3, r215.lt, r215.frozen⟩ : _ ∧ _ ∧ _ ∧ _ ∧ _ ∧ _)
          obtain ⟨t0, t1, t2, t3, tl, tf⟩ := (⟨t216.cell 0, t216.cell 1, t216.cell 2, t216.cell 3, t216.lt, t216.frozen⟩ : _ ∧ _ ∧ _ ∧ _ ∧ _ ∧ _)
          have ne_pq : ¬ w.heap.size = w.heap.size + 1 := by omega
          have ne_qp : ¬ w.heap.size + 1 = w.heap.size := by omega
          have ne_pt : ¬ w.heap.size = w3.heap.size := by omega
          have ne_tp : ¬ w3.heap.size = w.heap.size := by omega
          have ne_qt : ¬ w.heap.size + 1 = w3.heap.size := by omega
          have ne_tq : ¬ w3.heap.size = w.heap.size + 1 := by omega
          have hB218 := below_put hB213 (grown_set w6 (w3.heap.size) 2 (.slice A212 (X.length + 1) c212)) (by omega) (by have := hB213.size; omega)
          have x219 := x214.past (grown_set w6 (w3.heap.size) 2 (.slice A212 (X.length + 1) c212)) (by omega)
          have r220 := r215.past (grown_set w6 (w3.heap.size) 2 (.slice A212 (X.length + 1) c212)) (by omega)
          have o221 := o217.past t216 (grown_set w6 (w3.heap.size) 2 (.slice A212 (X.length + 1) c212))
          have t222 : At (w6.setCell ⟨w3.heap.size, 2, none⟩ (.slice A212 (X.length + 1) c212)) (w3.heap.size) 30 #[.int .i64 p.mx, .slice B1 p.idle.length d1, .slice A212 (X.length + 1) c212, .slice An5 L.length cn5] := by simpa using t216.set 2 (.slice A212 (X.length + 1) c212)
          clear hB213 x214 r215 o217 t216
          have hB223 := below_put hB218 (grown_set (w6.setCell ⟨w3.heap.size, 2, none⟩ (.slice A212 (X.length + 1) c212)) (w.heap.size + 1) 0 (.int .i64 p.mx)) (by omega) (by have := hB218.size; omega)
          have x224 := x219.past (grown_set (w6.setCell ⟨w3.heap.size, 2, none⟩ (.slice A212 (X.length + 1) c212)) (w.heap.size + 1) 0 (.int .i64 p.mx)) (by omega)
          have t225 := t222.past (grown_set (w6.setCell ⟨w3.heap.size, 2, none⟩ (.slice A212 (X.length + 1) c212)) (w.heap.size + 1) 0 (.int .i64 p.mx)) (by omega)
          have o226 := o221.past r220 (grown_set (w6.setCell ⟨w3.heap.size, 2, none⟩ (.slice A212 (X.length + 1) c212)) (w.heap.size + 1) 0 (.int .i64 p.mx))
          have r227 : At ((w6.setCell ⟨w3.heap.size, 2, none⟩ (.slice A212 (X.length + 1) c212)).setCell ⟨w.heap.size + 1, 0, none⟩ (.int .i64 p.mx)) (w.heap.size + 1) 30 #[.int .i64 p.mx, .slice none 0 0, .slice none 0 0, .slice none 0 0] := by simpa using r220.set 0 (.int .i64 p.mx)
          clear hB218 x219 t222 o221 r220
          have hB228 := below_put hB223 (grown_set ((w6.setCell ⟨w3.heap.size, 2, none⟩ (.slice A212 (X.length + 1) c212)).setCell ⟨w.heap.size + 1, 0, none⟩ (.int .i64 p.mx)) (w.heap.size + 1) 1 (.slice B1 p.idle.length d1)) (by omega) (by have := hB223.size; omega)
          have x229 := x224.past (grown_set ((w6.setCell ⟨w3.heap.size, 2, none⟩ (.slice A212 (X.length + 1) c212)).setCell ⟨w.heap.size + 1, 0, none⟩ (.int .i64 p.mx)) (w.heap.size + 1) 1 (.slice B1 p.idle.length d1)) (by omega)
          have t230 := t225.past (grown_set ((w6.setCell ⟨w3.heap.size, 2, none⟩ (.slice A212 (X.length + 1) c212)).setCell ⟨w.heap.size + 1, 0, none⟩ (.int .i64 p.mx)) (w.heap.size + 1) 1 (.slice B1 p.idle.length d1)) (by omega)
          have o231 := o226.past r227 (grown_set ((w6.setCell ⟨w3.heap.size, 2, none⟩ (.slice A212 (X.length + 1) c212)).setCell ⟨w.heap.size + 1, 0, none⟩ (.int .i64 p.mx)) (w.heap.size + 1) 1 (.slice B1 p.idle.length d1))
          have r232 : At (((w6.setCell ⟨w3.heap.size, 2, none⟩ (.slice A212 (X.length + 1) c212)).setCell ⟨w.heap.size + 1, 0, none⟩ (.int .i64 p.mx)).setCell ⟨w.heap.size + 1, 1, none⟩ (.slice B1 p.idle.length d1)) (w.heap.size + 1) 30 #[.int .i64 p.mx, .slice B1 p.idle.length d1, .slice none 0 0, .slice none 0 0] := by simpa using r227.set 1 (.slice B1 p.idle.length d1)
          clear hB223 x224 t225 o226 r227
          have hB233 := below_put hB228 (grown_set (((w6.setCell ⟨w3.heap.size, 2, none⟩ (.slice A212 (X.length + 1) c212)).setCell ⟨w.heap.size + 1, 0, none⟩ (.int .i64 p.mx)).setCell ⟨w.heap.size + 1, 1, none⟩ (.slice B1 p.idle.length d1)) (w.heap.size + 1) 2 (.slice A212 (X.length + 1) c212)) (by omega) (by have := hB228.size; omega)
          have x234 := x229.past (grown_set (((w6.setCell ⟨w3.heap.size, 2, none⟩ (.slice A212 (X.length + 1) c212)).setCell ⟨w.heap.size + 1, 0, none⟩ (.int .i64 p.mx)).setCell ⟨w.heap.size + 1, 1, none⟩ (.slice B1 p.idle.length d1)) (w.heap.size + 1) 2 (.slice A212 (X.length + 1) c212)) (by omega)
          have t235 := t230.past (grown_set (((w6.setCell ⟨w3.heap.size, 2, none⟩ (.slice A212 (X.length + 1) c212)).setCell ⟨w.heap.size + 1, 0, none⟩ (.int .i64 p.mx)).setCell ⟨w.heap.size + 1, 1, none⟩ (.slice B1 p.idle.length d1)) (w.heap.size + 1) 2 (.slice A212 (X.length + 1) c212)) (by omega)
          have o236 := o231.past r232 (grown_set (((w6.setCell ⟨w3.heap.size, 2, none⟩ (.slice A212 (X.length + 1) c212)).setCell ⟨w.heap.size + 1, 0, none⟩ (.int .i64 p.mx)).setCell ⟨w.heap.size + 1, 1, none⟩ (.slice B1 p.idle.length d1)) (w.heap.size + 1) 2 (.slice A212 (X.length + 1) c212))
          have r237 : At ((((w6.setCell ⟨w3.heap.size, 2, none⟩ (.slice A212 (X.length + 1) c212)).setCell ⟨w.heap.size + 1, 0, none⟩ (.int .i64 p.mx)).setCell ⟨w.heap.size + 1, 1, none⟩ (.slice B1 p.idle.length d1)).setCell ⟨w.heap.size + 1, 2, none⟩ (.slice A212 (X.length + 1) c212)) (w.heap.size + 1) 30 #[.int .i64 p.mx, .slice B1 p.idle.length d1, .slice A212 (X.length + 1) c212, .slice none 0 0] := by simpa using r232.set 2 (.slice A212 (X.length + 1) c212)
          clear hB228 x229 t230 o231 r232
          have hB238 := below_put hB233 (grown_set ((((w6.setCell ⟨w3.heap.size, 2, none⟩ (.slice A212 (X.length + 1) c212)).setCell ⟨w.heap.size + 1, 0, none⟩ (.int .i64 p.mx)).setCell ⟨w.heap.size + 1, 1, none⟩ (.slice B1 p.idle.length d1)).setCell ⟨w.heap.size + 1, 2, none⟩ (.slice A212 (X.length + 1) c212)) (w.heap.size + 1) 3 (.slice An5 L.length cn5)) (by omega) (by have := hB233.size; omega)
          have x239 := x234.past (grown_set ((((w6.setCell ⟨w3.heap.size, 2, none⟩ (.slice A212 (X.length + 1) c212)).setCell ⟨w.heap.size + 1, 0, none⟩ (.int .i64 p.mx)).setCell ⟨w.heap.size + 1, 1, none⟩ (.slice B1 p.idle.length d1)).setCell ⟨w.heap.size + 1, 2, none⟩ (.slice A212 (X.length + 1) c212)) (w.heap.size + 1) 3 (.slice An5 L.length cn5)) (by omega)
          have t240 := t235.past (grown_set ((((w6.setCell ⟨w3.heap.size, 2, none⟩ (.slice A212 (X.length + 1) c212)).setCell ⟨w.heap.size + 1, 0, none⟩ (.int .i64 p.mx)).setCell ⟨w.heap.size + 1, 1, none⟩ (.slice B1 p.idle.length d1)).setCell ⟨w.heap.size + 1, 2, none⟩ (.slice A212 (X.length + 1) c212)) (w.heap.size + 1) 3 (.slice An5 L.length cn5)) (by omega)
          have o241 := o236.past r237 (grown_set ((((w6.setCell ⟨w3.heap.size, 2, none⟩ (.slice A212 (X.length + 1) c212)).setCell ⟨w.heap.size + 1, 0, none⟩ (.int .i64 p.mx)).setCell ⟨w.heap.size + 1, 1, none⟩ (.slice B1 p.idle.length d1)).setCell ⟨w.heap.size + 1, 2, none⟩ (.slice A212 (X.length + 1) c212)) (w.heap.size + 1) 3 (.slice An5 L.length cn5))
          have r242 : At (((((w6.setCell ⟨w3.heap.size, 2, none⟩ (.slice A212 (X.length + 1) c212)).setCell ⟨w.heap.size + 1, 0, none⟩ (.int .i64 p.mx)).setCell ⟨w.heap.size + 1, 1, none⟩ (.slice B1 p.idle.length d1)).setCell ⟨w.heap.size + 1, 2, none⟩ (.slice A212 (X.length + 1) c212)).setCell ⟨w.heap.size + 1, 3, none⟩ (.slice An5 L.length cn5)) (w.heap.size + 1) 30 #[.int .i64 p.mx, .slice B1 p.idle.length d1, .slice A212 (X.length + 1) c212, .slice An5 L.length cn5] := by simpa using r237.set 3 (.slice An5 L.length cn5)
          clear hB233 x234 t235 o236 r237
          go_wp2
          refine bodyPost_ret (v := .tuple #[.agg #[.int .i64 p.mx, .slice B1 p.idle.length d1, .slice A212 (X.length + 1) c212, .slice An5 L.length cn5], .int .i64 C, .bool true]) (by simp [results, Try.results99, go_sem, r242.cell]) rfl ?_
          rw [E1.out, E2.out, EB.out, HX.out]
          exact ⟨B1, A212, An5, d1, c212, cn5, by simp [List.length_append], (by simpa [List.length_append] using o241.mono (show w.heap.size ≤ w.heap.size + 2 by omega)), hB238⟩
  · skip
    have EB := hid (show relB p o = false from Bool.eq_false_iff.2 fun e => hm (relB_iff.1 e).2)
    have HP := hid (Line.place_no hm)
    clear hm hok
    have hB243 := Below.refl w.heap.size w
    have hB244 := hB243.alloc hB243.size (.cells #[.int .i64 p.mx, .slice A1 p.idle.length c1, .slice A2 p.held.length c2, .slice A3 p.wait.length c3] 30)
    clear hB243
    have x245 : At (w.alloc (.cells #[.int .i64 p.mx, .slice A1 p.idle.length c1, .slice A2 p.held.length c2, .slice A3 p.wait.length c3] 30)) (w.heap.size) 30 #[.int .i64 p.mx, .slice A1 p.idle.length c1, .slice A2 p.held.length c2, .slice A3 p.wait.length c3] := At.newAt _ _ (by first | rfl | (simp; done) | (simp; omega))
    have hB246 := hB244.alloc hB244.size (.cells #[.int .i64 0, .slice none 0 0, .slice none 0 0, .slice none 0 0] 30)
    have x247 := x245.alloc (.cells #[.int .i64 0, .slice none 0 0, .slice none 0 0, .slice none 0 0] 30)
    clear hB244 x245
    have r248 : At ((w.alloc (.cells #[.int .i64 p.mx, .slice A1 p.idle.length c1, .slice A2 p.held.length c2, .slice A3 p.wait.length c3] 30)).alloc (.cells #[.int .i64 0, .slice none 0 0, .slice none 0 0, .slice none 0 0] 30)) (w.heap.size + 1) 30 #[.int .i64 0, .slice none 0 0, .slice none 0 0, .slice none 0 0] := At.newAt _ _ (by first | rfl | (simp; done) | (simp; omega))
    go_enter Try.func99, Try.ntmps99
    obtain ⟨p0, p1, p2, p3, pl, pf⟩ := (⟨x247.cell 0, x247.cell 1, x247.cell 2, x247.cell 3, x247.lt, x247.frozen⟩ : _ ∧ _ ∧ _ ∧ _ ∧ _ ∧ _)
    obtain ⟨q0, q1, q2, q3, ql, qf⟩ := (⟨r248.cell 0, r248.cell 1, r248.cell 2, r248.cell 3, r248.lt, r248.frozen⟩ : _ ∧ _ ∧ _ ∧ _ ∧ _ ∧ _)
    go_wp2_with fail
    with_reducible refine (iValidPool_any p A1 A2 A3 c1 c2 c3 _ (h.on hB246) H1.out H2.out (Nat.le_trans H3.out (by decide))).mono ?_
    rintro e w1 ⟨he, hb1⟩
    rw [HK.out] at he
    subst he
    have sz1 : w.heap.size + 2 ≤ w1.heap.size := Nat.le_trans (by first | exact Nat.le_refl _ | (simp; done) | (simp; omega)) (hb1.size)
    have hB249 := hB246.trans (hb1.mono hB246.size)
    have x250 := x247.below hb1 x247.lt
    have r251 := r248.below hb1 r248.lt
    clear hB246 x247 r248
    clear p0 p1 p2 p3 pl pf q0 q1 q2 q3 ql qf
    obtain ⟨p0, p1, p2, p3, pl, pf⟩ := (⟨x250.cell 0, x250.cell 1, x250.cell 2, x250.cell 3, x250.lt, x250.frozen⟩ : _ ∧ _ ∧ _ ∧ _ ∧ _ ∧ _)
    obtain ⟨q0, q1, q2, q3, ql, qf⟩ := (⟨r251.cell 0, r251.cell 1, r251.cell 2, r251.cell 3, r251.lt, r251.frozen⟩ : _ ∧ _ ∧ _ ∧ _ ∧ _ ∧ _)
    go_wp2_with fail
    with_reducible refine (heldConns_any A2 c2 p.held _ (h.on hB249).held (Nat.le_trans H2.out (by decide))).mono ?_
    rintro e w2 ⟨v2, rfl, hn2, hb2⟩
    obtain ⟨An2, cn2, rfl, _⟩ := hn2.form
    have hse := Sees.of_own hn2.out
    have sz2 : w1.heap.size ≤ w2.heap.size := Nat.le_trans (by first | exact Nat.le_refl _ | (simp; done) | (simp; omega)) (hb2.size)
    have hB252 := hB249.trans (hb2.mono hB249.size)
    have x253 := x250.below hb2 x250.lt
    have r254 := r251.below hb2 r251.lt
    clear hB249 x250 r251
    clear p0 p1 p2 p3 pl pf q0 q1 q2 q3 ql qf
    clear hn2
    obtain ⟨p0, p1, p2, p3, pl, pf⟩ := (⟨x253.cell 0, x253.cell 1, x253.cell 2, x253.cell 3, x253.lt, x253.frozen⟩ : _ ∧ _ ∧ _ ∧ _ ∧ _ ∧ _)
    obtain ⟨q0, q1, q2, q3, ql, qf⟩ := (⟨r254.cell 0, r254.cell 1, r254.cell 2, r254.cell 3, r254.lt, r254.frozen⟩ : _ ∧ _ ∧ _ ∧ _ ∧ _ ∧ _)
    go_wp2_with fail
    with_reducible refine (placeOf_len HMl.out hse HMn.out).mono ?_
    rintro e w' ⟨he, rfl⟩
    rw [HP.out] at he
    subst he
    clear p0 p1 p2 p3 pl pf q0 q1 q2 q3 ql qf
    clear hse
    obtain ⟨p0, p1, p2, p3, pl, pf⟩ := (⟨x253.cell 0, x253.cell 1, x253.cell 2, x253.cell 3, x253.lt, x253.frozen⟩ : _ ∧ _ ∧ _ ∧ _ ∧ _ ∧ _)
    obtain ⟨q0, q1, q2, q3, ql, qf⟩ := (⟨r254.cell 0, r254.cell 1, r254.cell 2, r254.cell 3, r254.lt, r254.frozen⟩ : _ ∧ _ ∧ _ ∧ _ ∧ _ ∧ _)
    have hB255 := below_put hB252 (grown_set w2 (w.heap.size + 1) 0 (.int .i64 0)) (by omega) (by have := hB252.size; omega)
    have x256 := x253.past (grown_set w2 (w.heap.size + 1) 0 (.int .i64 0)) (by omega)
    have r257 : At (w2.setCell ⟨w.heap.size + 1, 0, none⟩ (.int .i64 0)) (w.heap.size + 1) 30 #[.int .i64 0, .slice none 0 0, .slice none 0 0, .slice none 0 0] := by simpa using r254.set 0 (.int .i64 0)
    clear hB252 x253 r254
    have hB258 := below_put hB255 (grown_set (w2.setCell ⟨w.heap.size + 1, 0, none⟩ (.int .i64 0)) (w.heap.size + 1) 1 (.slice none 0 0)) (by omega) (by have := hB255.size; omega)
    have x259 := x256.past (grown_set (w2.setCell ⟨w.heap.size + 1, 0, none⟩ (.int .i64 0)) (w.heap.size + 1) 1 (.slice none 0 0)) (by omega)
    have r260 : At ((w2.setCell ⟨w.heap.size + 1, 0, none⟩ (.int .i64 0)).setCell ⟨w.heap.size + 1, 1, none⟩ (.slice none 0 0)) (w.heap.size + 1) 30 #[.int .i64 0, .slice none 0 0, .slice none 0 0, .slice none 0 0] := by simpa using r257.set 1 (.slice none 0 0)
    clear hB255 x256 r257
    have hB261 := below_put hB258 (grown_set ((w2.setCell ⟨w.heap.size + 1, 0, none⟩ (.int .i64 0)).setCell ⟨w.heap.size + 1, 1, none⟩ (.slice none 0 0)) (w.heap.size + 1) 2 (.slice none 0 0)) (by omega) (by have := hB258.size; omega)
    have x262 := x259.past (grown_set ((w2.setCell ⟨w.heap.size + 1, 0, none⟩ (.int .i64 0)).setCell ⟨w.heap.size + 1, 1, none⟩ (.slice none 0 0)) (w.heap.size + 1) 2 (.slice none 0 0)) (by omega)
    have r263 : At (((w2.setCell ⟨w.heap.size + 1, 0, none⟩ (.int .i64 0)).setCell ⟨w.heap.size + 1, 1, none⟩ (.slice none 0 0)).setCell ⟨w.heap.size + 1, 2, none⟩ (.slice none 0 0)) (w.heap.size + 1) 30 #[.int .i64 0, .slice none 0 0, .slice none 0 0, .slice none 0 0] := by simpa using r260.set 2 (.slice none 0 0)
    clear hB258 x259 r260
    have hB264 := below_put hB261 (grown_set (((w2.setCell ⟨w.heap.size + 1, 0, none⟩ (.int .i64 0)).setCell ⟨w.heap.size + 1, 1, none⟩ (.slice none 0 0)).setCell ⟨w.heap.size + 1, 2, none⟩ (.slice none 0 0)) (w.heap.size + 1) 3 (.slice none 0 0)) (by omega) (by have := hB261.size; omega)
    have x265 := x262.past (grown_set (((w2.setCell ⟨w.heap.size + 1, 0, none⟩ (.int .i64 0)).setCell ⟨w.heap.size + 1, 1, none⟩ (.slice none 0 0)).setCell ⟨w.heap.size + 1, 2, none⟩ (.slice none 0 0)) (w.heap.size + 1) 3 (.slice none 0 0)) (by omega)
    have r266 : At ((((w2.setCell ⟨w.heap.size + 1, 0, none⟩ (.int .i64 0)).setCell ⟨w.heap.size + 1, 1, none⟩ (.slice none 0 0)).setCell ⟨w.heap.size + 1, 2, none⟩ (.slice none 0 0)).setCell ⟨w.heap.size + 1, 3, none⟩ (.slice none 0 0)) (w.heap.size + 1) 30 #[.int .i64 0, .slice none 0 0, .slice none 0 0, .slice none 0 0] := by simpa using r263.set 3 (.slice none 0 0)
    clear hB261 x262 r263
    go_wp2
    refine bodyPost_ret (v := .tuple #[.agg #[.int .i64 0, .slice none 0 0, .slice none 0 0, .slice none 0 0], .int .i64 (-1), .bool false]) (by simp [results, Try.results99, go_sem, r266.cell]) rfl ?_
    exact (by rw [(rel_no EB.out).1, (rel_no EB.out).2, EB.out]; exact pans3_zero hB264)

end Go.Proofs.Ytehdbllpiokbnaa

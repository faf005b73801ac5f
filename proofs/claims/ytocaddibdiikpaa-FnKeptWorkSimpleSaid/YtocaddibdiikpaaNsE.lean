/-
  What the model's step answers. Condition: the lists lie in memory.
-/
import Derived.Test.YtocaddibdiikpaaNsC
namespace Go.Proofs.Ytocaddibdiikpaa
open Go.RowKit Nes

set_option maxHeartbeats 16000000 in
theorem sstep_any (s : Nst) (k : Int) (A1 : Option Addr) (c1 : Nat) (w : World) (h : SeesM w w.heap.size A1 s) (hc : s.m.length ≤ c1) (h1 : s.m.length ≤ 4194304) (hv : nestB s = true) :
    Calls Try.prog 35 #[.agg #[.int .i64 s.d, .int .i64 s.w, .slice A1 s.m.length c1, .bool s.b], .int .i64 k] w (NesAns (stepS s k) (stepB s k) w) := by
  obtain ⟨i0, hi0, hz0, hz1, hz2⟩ := info_parts intInfo
  have H1 := hid h1
  have HC := hid hc
  clear h1 hc
  have hok := nestB_iff.1 hv
  have HOK := hid hok
  have hm4 := ok_len hok
  have hw12 := hok.2.1
  have hd4 := hok.1
  have HV := hid hv
  have hwl : IntKind.i64.wrap (s.d - 1) = s.d - 1 := by rw [IntKind.wrap_i64]; omega
  have hwd : IntKind.i64.wrap (s.d + 1) = s.d + 1 := by rw [IntKind.wrap_i64]; omega
  have hww : IntKind.i64.wrap (s.w + 1) = s.w + 1 := by rw [IntKind.wrap_i64]; omega
  clear hv hok
  have hB1 := Below.refl w.heap.size w
  have hB2 := hB1.alloc hB1.size (.cells #[.int .i64 s.d, .int .i64 s.w, .slice A1 s.m.length c1, .bool s.b] 25)
  clear hB1
  have x3 : At (w.alloc (.cells #[.int .i64 s.d, .int .i64 s.w, .slice A1 s.m.length c1, .bool s.b] 25)) (w.heap.size) 25 #[.int .i64 s.d, .int .i64 s.w, .slice A1 s.m.length c1, .bool s.b] := At.newAt _ _ (by first | rfl | (simp; done) | (simp; omega))
  have hB4 := hB2.alloc hB2.size (.cells #[.int .i64 0, .int .i64 0, .slice none 0 0, .bool false] 25)
  have x5 := x3.alloc (.cells #[.int .i64 0, .int .i64 0, .slice none 0 0, .bool false] 25)
  clear hB2 x3
  have r6 : At ((w.alloc (.cells #[.int .i64 s.d, .int .i64 s.w, .slice A1 s.m.length c1, .bool s.b] 25)).alloc (.cells #[.int .i64 0, .int .i64 0, .slice none 0 0, .bool false] 25)) (w.heap.size + 1) 25 #[.int .i64 0, .int .i64 0, .slice none 0 0, .bool false] := At.newAt _ _ (by first | rfl | (simp; done) | (simp; omega))
  go_enter Try.func35, Try.ntmps35
  obtain ⟨wq, hwq⟩ : ∃ wq, wq = ((w.alloc (.cells #[.int .i64 s.d, .int .i64 s.w, .slice A1 s.m.length c1, .bool s.b] 25)).alloc (.cells #[.int .i64 0, .int .i64 0, .slice none 0 0, .bool false] 25)) := ⟨_, rfl⟩
  have szq : w.heap.size + 2 ≤ wq.heap.size := by rw [hwq]; simp
  rw [← hwq] at hB4 x5 r6
  have hsx := (h.on hB4)
  have hsd := hsx.drew
  have xd := x5.drew
  have rd := r6.drew
  have bd := hB4.drew
  obtain ⟨p0, p1, p2, p3, pl, pf⟩ := (⟨x5.cell 0, x5.cell 1, x5.cell 2, x5.cell 3, x5.lt, x5.frozen⟩ : _ ∧ _ ∧ _ ∧ _ ∧ _ ∧ _)
  obtain ⟨q0, q1, q2, q3, ql, qf⟩ := (⟨r6.cell 0, r6.cell 1, r6.cell 2, r6.cell 3, r6.lt, r6.frozen⟩ : _ ∧ _ ∧ _ ∧ _ ∧ _ ∧ _)
  have ne_pq : ¬ w.heap.size = w.heap.size + 1 := by omega
  have ne_qp : ¬ w.heap.size + 1 = w.heap.size := by omega
  go_upto_region 1 with fail
  rw [← hwq]
  clear hwq
  go_cut [6] from 8 to 17 (fun v6 wx => ∃ (g8 : Nat) (Aa : Option Addr) (ca : Nat), v6 = .pointer (some ⟨g8, 0, none⟩) ∧ At wx g8 25 #[.int .i64 s.d, .int .i64 s.w, .slice Aa s.m.length ca, .bool s.b] ∧ At wx w.heap.size 25 #[.int .i64 s.d, .int .i64 s.w, .slice A1 s.m.length c1, .bool s.b] ∧ At wx (w.heap.size + 1) 25 #[.int .i64 0, .int .i64 0, .slice none 0 0, .bool false] ∧ OwnM wx (w.heap.size + 2) Aa ca s ∧ Below w.heap.size w wx ∧ w.heap.size + 2 ≤ g8)
  case first =>
    have hzd : w.heap.size + 2 ≤ wq.heap.size := by have := r6.lt; omega
    have nz1 : ¬ w.heap.size = wq.heap.size := by omega
    have nz2 : ¬ wq.heap.size = w.heap.size := by omega
    go_region_held3 (fun w' => w'.cell? ⟨w.heap.size, 0, none⟩ = some (.int .i64 s.d) ∧ w'.cell? ⟨w.heap.size, 1, none⟩ = some (.int .i64 s.w) ∧ w'.cell? ⟨w.heap.size, 2, none⟩ = some (.slice A1 s.m.length c1) ∧ w'.cell? ⟨w.heap.size, 3, none⟩ = some (.bool s.b))
      (first | with_reducible exact ⟨p0, p1, p2, p3⟩ | with_reducible exact ⟨a0, a1, a2, a3⟩ | go_keep)
      (first
        | (go_at_call 41; (with_reducible refine (copyInts_any A1 c1 s.m _ (by first | exact hsd.marks | exact ((hsx.alloc _).drew).marks) H1.out).mono ?_); rintro e wa ⟨va, rfl, hoa, hba⟩; obtain ⟨Aa, ca, rfl, _⟩ := hoa.form; have pxa := (by first | exact xd.below hba xd.lt | exact ((x5.alloc _).drew).below hba ((x5.alloc _).drew).lt : At wa w.heap.size 25 #[.int .i64 s.d, .int .i64 s.w, .slice A1 s.m.length c1, .bool s.b]); have pra := (by first | exact rd.below hba rd.lt | exact ((r6.alloc _).drew).below hba ((r6.alloc _).drew).lt : At wa (w.heap.size + 1) 25 #[.int .i64 0, .int .i64 0, .slice none 0 0, .bool false]); have hoam := (by first | exact OwnM.mono (show OwnM wa _ Aa ca s from hoa) hzd | exact OwnM.mono (show OwnM wa _ Aa ca s from hoa) (Nat.le_trans hzd (Nat.le_of_lt (by simp))) : OwnM wa (w.heap.size + 2) Aa ca s); have hbA := (by first | exact bd.trans (hba.mono bd.size) | exact ((hB4.alloc hB4.size _).drew).trans (hba.mono ((hB4.alloc hB4.size _).drew).size) : Below w.heap.size w wa); have hza := (by first | exact hba.size | exact Nat.le_trans (Nat.le_of_lt (by simp)) hba.size : wq.heap.size ≤ wa.heap.size); obtain ⟨a0, a1, a2, a3, al, af⟩ := pxa.four; have na1 : ¬ w.heap.size = wa.heap.size := Nat.ne_of_lt al; have na2 : ¬ wa.heap.size = w.heap.size := fun e => Nat.ne_of_lt al e.symm; (try have pza := ((At.newAt 25 #[.int .i64 0, .int .i64 0, .slice none 0 0, .bool false] rfl).drew : At ((wq.alloc (.cells #[.int .i64 0, .int .i64 0, .slice none 0 0, .bool false] 25)).drew) wq.heap.size 25 #[.int .i64 0, .int .i64 0, .slice none 0 0, .bool false]).below hba (by simp)); (try have pzc := pza.cell); (try have pzf := pza.frozen))
        | fail)
    all_goals
      go_wp2_with fail
      clear a0 a1 a2 a3 af hoa
      go_meet
      first
        | (obtain ⟨hp8, hg8⟩ := four_put (.int .i64 s.d) (.int .i64 s.w) (.slice Aa s.m.length ca) (.bool s.b) pza rfl
           exact ⟨_, _, _, rfl, hp8, pxa.past hg8 (by omega), pra.past hg8 (by omega), hoam.past4 pza hg8, below_put hbA hg8 (by omega) hbA.size, by omega⟩)
        | exact ⟨_, _, _, rfl, At.newAt _ _ rfl, pxa.alloc _, pra.alloc _, hoam.alloc _, hbA.alloc hbA.size _, by omega⟩
  case rest =>
    obtain ⟨g8, Aa, ca, rfl, pt8, px8, pr8, hO8, hB8, hz8⟩ := hcut
    have hzc : w.heap.size + 2 ≤ wc.heap.size := by have := pr8.lt; omega
    clear hsx hsd xd rd bd x5 r6 hB4 p0 p1 p2 p3 pl pf q0 q1 q2 q3 ql qf ne_pq ne_qp
    have t7 := pt8
    clear pt8
    have x8 := px8
    clear px8
    have r9 := pr8
    clear pr8
    have o10 := hO8
    clear hO8
    have hB11 := hB8
    clear hB8
    by_cases k0 : k = 0
    · skip
      subst k0
      by_cases hd : s.d < 4
      · skip
        have hdd : decide (s.d < 4) = true := by simpa using hd
        rcases hb : s.b with _ | _
        · skip
          have hnb : (!s.b) = true := by rw [hb]; rfl
          have HBB := hid hb
          clear hb
          have E : Hid (stepB s 0 = true) := hid (stepB_iff.2 ⟨HOK.out, can_open.2 ⟨HBB.out, hd⟩⟩)
          have E2 := hid (stepS_yes E.out)
          have hz1b : (s.d + 1 == 0) = false := beq_eq_false_iff_ne.2 (by omega)
          obtain ⟨t0, t1, t2, t3, tl, tf⟩ := (⟨t7.cell 0, t7.cell 1, t7.cell 2, t7.cell 3, t7.lt, t7.frozen⟩ : _ ∧ _ ∧ _ ∧ _ ∧ _ ∧ _)
          obtain ⟨p0, p1, p2, p3, pl, pf⟩ := (⟨x8.cell 0, x8.cell 1, x8.cell 2, x8.cell 3, x8.lt, x8.frozen⟩ : _ ∧ _ ∧ _ ∧ _ ∧ _ ∧ _)
          obtain ⟨q0, q1, q2, q3, ql, qf⟩ := (⟨r9.cell 0, r9.cell 1, r9.cell 2, r9.cell 3, r9.lt, r9.frozen⟩ : _ ∧ _ ∧ _ ∧ _ ∧ _ ∧ _)
          have ne_tp : ¬ g8 = w.heap.size := by omega
          have ne_pt : ¬ w.heap.size = g8 := by omega
          have ne_tq : ¬ g8 = w.heap.size + 1 := by omega
          have ne_qt : ¬ w.heap.size + 1 = g8 := by omega
          have ne_pq : ¬ w.heap.size = w.heap.size + 1 := by omega
          have ne_qp : ¬ w.heap.size + 1 = w.heap.size := by omega
          have x12 := x8.past (grown_set wc (g8) 0 (.int .i64 (s.d + 1))) (by omega)
          have r13 := r9.past (grown_set wc (g8) 0 (.int .i64 (s.d + 1))) (by omega)
          have o14 := o10.past4 t7 (grown_set wc (g8) 0 (.int .i64 (s.d + 1)))
          have hB15 := below_put hB11 (grown_set wc (g8) 0 (.int .i64 (s.d + 1))) (by omega) (by have := hB11.size; omega)
          have t16 : At (wc.setCell ⟨g8, 0, none⟩ (.int .i64 (s.d + 1))) (g8) 25 #[.int .i64 (s.d + 1), .int .i64 s.w, .slice Aa s.m.length ca, .bool s.b] := by simpa using t7.set 0 (.int .i64 (s.d + 1))
          clear x8 r9 o10 hB11 t7
          have t17 := t16.alloc (.cells #[.int .i64 s.w] 3)
          have x18 := x12.alloc (.cells #[.int .i64 s.w] 3)
          have r19 := r13.alloc (.cells #[.int .i64 s.w] 3)
          have o20 := o14.alloc (.cells #[.int .i64 s.w] 3)
          have hB21 := hB15.alloc hB15.size (.cells #[.int .i64 s.w] 3)
          clear t16 x12 r13 o14 hB15
          have hown := o20.own.out
          have hlow := hown.lt
          go_wp2_with (at_builtin; refine wpList_append_own_at _ rfl _ _ 23 rfl (w.heap.size + 2) 3 i0 (.int .i64 0) 1 8 Try.underlying23 hi0 hz0 hz1 hz2 rfl (by decide) _ _ _ rfl hown ⟨wc.heap.size, 0, none⟩ 1 1 [.int .i64 s.w] rfl rfl (by first | exact cell_one_new _ _ _ | simpa using cell_one_new (wc.setCell ⟨g8, 0, none⟩ (.int .i64 (s.d + 1))) (.int .i64 s.w) 3) ?c2 ?c3 ?c4 ?c5 ?_)
          case c2 => simp [Value.oneCell']
          case c3 => have := H1.out; unfold maxLen; omega
          case c4 => have := H1.out; omega
          case c5 => first | omega | (simp; omega) | (simp; done)
          case _ =>
            intro v1 w1 h1 hg1 _ _
            have sz1 : wc.heap.size + 1 ≤ w1.heap.size := Nat.le_trans (by first | exact Nat.le_refl _ | (simp; done)) hg1.size
            have t22 := t17.beside hown (by decide) hg1
            clear t17
            have x23 := x18.beside hown (by decide) hg1
            clear x18
            have r24 := r19.beside hown (by decide) hg1
            clear r19
            have hB25 := hB21.grown hg1 hB21.size (fun q hq => Nat.le_trans (by omega) (hlow q hq).1)
            clear hB21
            obtain ⟨R, hR⟩ : ∃ R : Nst, R = stepC s 0 := ⟨_, rfl⟩
            have HRm := hid (show R.m = s.m ++ [s.w] by rw [hR]; rfl)
            have HR := hid (show R = ⟨s.d + 1, s.w, R.m, s.b⟩ by rw [hR]; rfl)
            rw [← hR] at E2
            clear hR
            have ho1 : Own w1 (w.heap.size + 2) v1 R.m := by unfold Own; rw [HRm.out, ints_app, List.length_append]; exact h1
            obtain ⟨A1, c1, rfl, _, _⟩ := own_form ho1.out
            clear o20 h1 hg1 hown hlow t0 t1 t2 t3 tl tf p0 p1 p2 p3 pl pf q0 q1 q2 q3 ql qf ne_tp ne_pt ne_tq ne_qt ne_pq ne_qp
            have o26 : OwnM w1 (w.heap.size + 2) A1 c1 R := ho1
            clear ho1
            obtain ⟨t0, t1, t2, t3, tl, tf⟩ := (⟨t22.cell 0, t22.cell 1, t22.cell 2, t22.cell 3, t22.lt, t22.frozen⟩ : _ ∧ _ ∧ _ ∧ _ ∧ _ ∧ _)
            obtain ⟨p0, p1, p2, p3, pl, pf⟩ := (⟨x23.cell 0, x23.cell 1, x23.cell 2, x23.cell 3, x23.lt, x23.frozen⟩ : _ ∧ _ ∧ _ ∧ _ ∧ _ ∧ _)
            obtain ⟨q0, q1, q2, q3, ql, qf⟩ := (⟨r24.cell 0, r24.cell 1, r24.cell 2, r24.cell 3, r24.lt, r24.frozen⟩ : _ ∧ _ ∧ _ ∧ _ ∧ _ ∧ _)
            have ne_tp : ¬ g8 = w.heap.size := by omega
            have ne_pt : ¬ w.heap.size = g8 := by omega
            have ne_tq : ¬ g8 = w.heap.size + 1 := by omega
            have ne_qt : ¬ w.heap.size + 1 = g8 := by omega
            have ne_pq : ¬ w.heap.size = w.heap.size + 1 := by omega
            have ne_qp : ¬ w.heap.size + 1 = w.heap.size := by omega
            have x27 := x23.past (grown_set w1 (g8) 2 (.slice A1 R.m.length c1)) (by omega)
            have r28 := r24.past (grown_set w1 (g8) 2 (.slice A1 R.m.length c1)) (by omega)
            have hB29 := below_put hB25 (grown_set w1 (g8) 2 (.slice A1 R.m.length c1)) (by omega) (by have := hB25.size; omega)
            have o30 := o26.past4 t22 (grown_set w1 (g8) 2 (.slice A1 R.m.length c1))
            have t31 : At (w1.setCell ⟨g8, 2, none⟩ (.slice A1 R.m.length c1)) (g8) 25 #[.int .i64 (s.d + 1), .int .i64 s.w, .slice A1 R.m.length c1, .bool s.b] := by simpa using t22.set 2 (.slice A1 R.m.length c1)
            clear x23 r24 hB25 o26 t22
            obtain ⟨t0, t1, t2, t3, tl, tf⟩ := (⟨t31.cell 0, t31.cell 1, t31.cell 2, t31.cell 3, t31.lt, t31.frozen⟩ : _ ∧ _ ∧ _ ∧ _ ∧ _ ∧ _)
            obtain ⟨p0, p1, p2, p3, pl, pf⟩ := (⟨x27.cell 0, x27.cell 1, x27.cell 2, x27.cell 3, x27.lt, x27.frozen⟩ : _ ∧ _ ∧ _ ∧ _ ∧ _ ∧ _)
            obtain ⟨q0, q1, q2, q3, ql, qf⟩ := (⟨r28.cell 0, r28.cell 1, r28.cell 2, r28.cell 3, r28.lt, r28.frozen⟩ : _ ∧ _ ∧ _ ∧ _ ∧ _ ∧ _)
            have ne_tp : ¬ g8 = w.heap.size := by omega
            have ne_pt : ¬ w.heap.size = g8 := by omega
            have ne_tq : ¬ g8 = w.heap.size + 1 := by omega
            have ne_qt : ¬ w.heap.size + 1 = g8 := by omega
            have ne_pq : ¬ w.heap.size = w.heap.size + 1 := by omega
            have ne_qp : ¬ w.heap.size + 1 = w.heap.size := by omega
            have t32 := t31.past (grown_set (w1.setCell ⟨g8, 2, none⟩ (.slice A1 R.m.length c1)) (w.heap.size + 1) 0 (.int .i64 (s.d + 1))) (by omega)
            have x33 := x27.past (grown_set (w1.setCell ⟨g8, 2, none⟩ (.slice A1 R.m.length c1)) (w.heap.size + 1) 0 (.int .i64 (s.d + 1))) (by omega)
            have hB34 := below_put hB29 (grown_set (w1.setCell ⟨g8, 2, none⟩ (.slice A1 R.m.length c1)) (w.heap.size + 1) 0 (.int .i64 (s.d + 1))) (by omega) (by have := hB29.size; omega)
            have o35 := o30.past4 r28 (grown_set (w1.setCell ⟨g8, 2, none⟩ (.slice A1 R.m.length c1)) (w.heap.size + 1) 0 (.int .i64 (s.d + 1)))
            have r36 : At ((w1.setCell ⟨g8, 2, none⟩ (.slice A1 R.m.length c1)).setCell ⟨w.heap.size + 1, 0, none⟩ (.int .i64 (s.d + 1))) (w.heap.size + 1) 25 #[.int .i64 (s.d + 1), .int .i64 0, .slice none 0 0, .bool false] := by simpa using r28.set 0 (.int .i64 (s.d + 1))
            clear t31 x27 hB29 o30 r28
            have t37 := t32.past (grown_set ((w1.setCell ⟨g8, 2, none⟩ (.slice A1 R.m.length c1)).setCell ⟨w.heap.size + 1, 0, none⟩ (.int .i64 (s.d + 1))) (w.heap.size + 1) 1 (.int .i64 s.w)) (by omega)
            have x38 := x33.past (grown_set ((w1.setCell ⟨g8, 2, none⟩ (.slice A1 R.m.length c1)).setCell ⟨w.heap.size + 1, 0, none⟩ (.int .i64 (s.d + 1))) (w.heap.size + 1) 1 (.int .i64 s.w)) (by omega)
            have hB39 := below_put hB34 (grown_set ((w1.setCell ⟨g8, 2, none⟩ (.slice A1 R.m.length c1)).setCell ⟨w.heap.size + 1, 0, none⟩ (.int .i64 (s.d + 1))) (w.heap.size + 1) 1 (.int .i64 s.w)) (by omega) (by have := hB34.size; omega)
            have o40 := o35.past4 r36 (grown_set ((w1.setCell ⟨g8, 2, none⟩ (.slice A1 R.m.length c1)).setCell ⟨w.heap.size + 1, 0, none⟩ (.int .i64 (s.d + 1))) (w.heap.size + 1) 1 (.int .i64 s.w))
            have r41 : At (((w1.setCell ⟨g8, 2, none⟩ (.slice A1 R.m.length c1)).setCell ⟨w.heap.size + 1, 0, none⟩ (.int .i64 (s.d + 1))).setCell ⟨w.heap.size + 1, 1, none⟩ (.int .i64 s.w)) (w.heap.size + 1) 25 #[.int .i64 (s.d + 1), .int .i64 s.w, .slice none 0 0, .bool false] := by simpa using r36.set 1 (.int .i64 s.w)
            clear t32 x33 hB34 o35 r36
            have t42 := t37.past (grown_set (((w1.setCell ⟨g8, 2, none⟩ (.slice A1 R.m.length c1)).setCell ⟨w.heap.size + 1, 0, none⟩ (.int .i64 (s.d + 1))).setCell ⟨w.heap.size + 1, 1, none⟩ (.int .i64 s.w)) (w.heap.size + 1) 2 (.slice A1 R.m.length c1)) (by omega)
            have x43 := x38.past (grown_set (((w1.setCell ⟨g8, 2, none⟩ (.slice A1 R.m.length c1)).setCell ⟨w.heap.size + 1, 0, none⟩ (.int .i64 (s.d + 1))).setCell ⟨w.heap.size + 1, 1, none⟩ (.int .i64 s.w)) (w.heap.size + 1) 2 (.slice A1 R.m.length c1)) (by omega)
            have hB44 := below_put hB39 (grown_set (((w1.setCell ⟨g8, 2, none⟩ (.slice A1 R.m.length c1)).setCell ⟨w.heap.size + 1, 0, none⟩ (.int .i64 (s.d + 1))).setCell ⟨w.heap.size + 1, 1, none⟩ (.int .i64 s.w)) (w.heap.size + 1) 2 (.slice A1 R.m.length c1)) (by omega) (by have := hB39.size; omega)
            have o45 := o40.past4 r41 (grown_set (((w1.setCell ⟨g8, 2, none⟩ (.slice A1 R.m.length c1)).setCell ⟨w.heap.size + 1, 0, none⟩ (.int .i64 (s.d + 1))).setCell ⟨w.heap.size + 1, 1, none⟩ (.int .i64 s.w)) (w.heap.size + 1) 2 (.slice A1 R.m.length c1))
            have r46 : At ((((w1.setCell ⟨g8, 2, none⟩ (.slice A1 R.m.length c1)).setCell ⟨w.heap.size + 1, 0, none⟩ (.int .i64 (s.d + 1))).setCell ⟨w.heap.size + 1, 1, none⟩ (.int .i64 s.w)).setCell ⟨w.heap.size + 1, 2, none⟩ (.slice A1 R.m.length c1)) (w.heap.size + 1) 25 #[.int .i64 (s.d + 1), .int .i64 s.w, .slice A1 R.m.length c1, .bool false] := by simpa using r41.set 2 (.slice A1 R.m.length c1)
            clear t37 x38 hB39 o40 r41
            have t47 := t42.past (grown_set ((((w1.setCell ⟨g8, 2, none⟩ (.slice A1 R.m.length c1)).setCell ⟨w.heap.size + 1, 0, none⟩ (.int .i64 (s.d + 1))).setCell ⟨w.heap.size + 1, 1, none⟩ (.int .i64 s.w)).setCell ⟨w.heap.size + 1, 2, none⟩ (.slice A1 R.m.length c1)) (w.heap.size + 1) 3 (.bool s.b)) (by omega)
            have x48 := x43.past (grown_set ((((w1.setCell ⟨g8, 2, none⟩ (.slice A1 R.m.length c1)).setCell ⟨w.heap.size + 1, 0, none⟩ (.int .i64 (s.d + 1))).setCell ⟨w.heap.size + 1, 1, none⟩ (.int .i64 s.w)).setCell ⟨w.heap.size + 1, 2, none⟩ (.slice A1 R.m.length c1)) (w.heap.size + 1) 3 (.bool s.b)) (by omega)
            have hB49 := below_put hB44 (grown_set ((((w1.setCell ⟨g8, 2, none⟩ (.slice A1 R.m.length c1)).setCell ⟨w.heap.size + 1, 0, none⟩ (.int .i64 (s.d + 1))).setCell ⟨w.heap.size + 1, 1, none⟩ (.int .i64 s.w)).setCell ⟨w.heap.size + 1, 2, none⟩ (.slice A1 R.m.length c1)) (w.heap.size + 1) 3 (.bool s.b)) (by omega) (by have := hB44.size; omega)
            have o50 := o45.past4 r46 (grown_set ((((w1.setCell ⟨g8, 2, none⟩ (.slice A1 R.m.length c1)).setCell ⟨w.heap.size + 1, 0, none⟩ (.int .i64 (s.d + 1))).setCell ⟨w.heap.size + 1, 1, none⟩ (.int .i64 s.w)).setCell ⟨w.heap.size + 1, 2, none⟩ (.slice A1 R.m.length c1)) (w.heap.size + 1) 3 (.bool s.b))
            have r51 : At (((((w1.setCell ⟨g8, 2, none⟩ (.slice A1 R.m.length c1)).setCell ⟨w.heap.size + 1, 0, none⟩ (.int .i64 (s.d + 1))).setCell ⟨w.heap.size + 1, 1, none⟩ (.int .i64 s.w)).setCell ⟨w.heap.size + 1, 2, none⟩ (.slice A1 R.m.length c1)).setCell ⟨w.heap.size + 1, 3, none⟩ (.bool s.b)) (w.heap.size + 1) 25 #[.int .i64 (s.d + 1), .int .i64 s.w, .slice A1 R.m.length c1, .bool s.b] := by simpa using r46.set 3 (.bool s.b)
            clear t42 x43 hB44 o45 r46
            go_wp2
            refine bodyPost_ret (v := .tuple #[.agg #[.int .i64 (s.d + 1), .int .i64 s.w, .slice A1 R.m.length c1, .bool s.b], .bool true]) (by simp [results, Try.results35, go_sem, r51.cell]) rfl ?_
            exact ⟨A1, c1, by rw [E.out, E2.out, HR.out], by rw [E2.out]; exact o50.mono (by omega), hB49⟩
        · skip
          have hnb : (!s.b) = false := by rw [hb]; rfl
          have HBB := hid hb
          clear hb
          have E : Hid (stepB s 0 = false) := hid (Bool.eq_false_iff.2 fun e => by have hc := (stepB_iff.1 e).2; have := (can_open.1 hc).1; rw [HBB.out] at this; cases this)
          have E2 := hid (stepS_no E.out)
          obtain ⟨t0, t1, t2, t3, tl, tf⟩ := (⟨t7.cell 0, t7.cell 1, t7.cell 2, t7.cell 3, t7.lt, t7.frozen⟩ : _ ∧ _ ∧ _ ∧ _ ∧ _ ∧ _)
          obtain ⟨p0, p1, p2, p3, pl, pf⟩ := (⟨x8.cell 0, x8.cell 1, x8.cell 2, x8.cell 3, x8.lt, x8.frozen⟩ : _ ∧ _ ∧ _ ∧ _ ∧ _ ∧ _)
          obtain ⟨q0, q1, q2, q3, ql, qf⟩ := (⟨r9.cell 0, r9.cell 1, r9.cell 2, r9.cell 3, r9.lt, r9.frozen⟩ : _ ∧ _ ∧ _ ∧ _ ∧ _ ∧ _)
          have ne_tp : ¬ g8 = w.heap.size := by omega
          have ne_pt : ¬ w.heap.size = g8 := by omega
          have ne_tq : ¬ g8 = w.heap.size + 1 := by omega
          have ne_qt : ¬ w.heap.size + 1 = g8 := by omega
          have ne_pq : ¬ w.heap.size = w.heap.size + 1 := by omega
          have ne_qp : ¬ w.heap.size + 1 = w.heap.size := by omega
          have t52 := t7.past (grown_set wc (w.heap.size + 1) 0 (.int .i64 0)) (by omega)
          have x53 := x8.past (grown_set wc (w.heap.size + 1) 0 (.int .i64 0)) (by omega)
          have o54 := o10.past4 r9 (grown_set wc (w.heap.size + 1) 0 (.int .i64 0))
          have hB55 := below_put hB11 (grown_set wc (w.heap.size + 1) 0 (.int .i64 0)) (by omega) (by have := hB11.size; omega)
          have r56 : At (wc.setCell ⟨w.heap.size + 1, 0, none⟩ (.int .i64 0)) (w.heap.size + 1) 25 #[.int .i64 0, .int .i64 0, .slice none 0 0, .bool false] := by simpa using r9.set 0 (.int .i64 0)
          clear t7 x8 o10 hB11 r9
          have t57 := t52.past (grown_set (wc.setCell ⟨w.heap.size + 1, 0, none⟩ (.int .i64 0)) (w.heap.size + 1) 1 (.int .i64 0)) (by omega)
          have x58 := x53.past (grown_set (wc.setCell ⟨w.heap.size + 1, 0, none⟩ (.int .i64 0)) (w.heap.size + 1) 1 (.int .i64 0)) (by omega)
          have o59 := o54.past4 r56 (grown_set (wc.setCell ⟨w.heap.size + 1, 0, none⟩ (.int .i64 0)) (w.heap.size + 1) 1 (.int .i64 0))
          have hB60 := below_put hB55 (grown_set (wc.setCell ⟨w.heap.size + 1, 0, none⟩ (.int .i64 0)) (w.heap.size + 1) 1 (.int .i64 0)) (by omega) (by have := hB55.size; omega)
          have r61 : At ((wc.setCell ⟨w.heap.size + 1, 0, none⟩ (.int .i64 0)).setCell ⟨w.heap.size + 1, 1, none⟩ (.int .i64 0)) (w.heap.size + 1) 25 #[.int .i64 0, .int .i64 0, .slice none 0 0, .bool false] := by simpa using r56.set 1 (.int .i64 0)
          clear t52 x53 o54 hB55 r56
          have t62 := t57.past (grown_set ((wc.setCell ⟨w.heap.size + 1, 0, none⟩ (.int .i64 0)).setCell ⟨w.heap.size + 1, 1, none⟩ (.int .i64 0)) (w.heap.size + 1) 2 (.slice none 0 0)) (by omega)
          have x63 := x58.past (grown_set ((wc.setCell ⟨w.heap.size + 1, 0, none⟩ (.int .i64 0)).setCell ⟨w.heap.size + 1, 1, none⟩ (.int .i64 0)) (w.heap.size + 1) 2 (.slice none 0 0)) (by omega)
          have o64 := o59.past4 r61 (grown_set ((wc.setCell ⟨w.heap.size + 1, 0, none⟩ (.int .i64 0)).setCell ⟨w.heap.size + 1, 1, none⟩ (.int .i64 0)) (w.heap.size + 1) 2 (.slice none 0 0))
          have hB65 := below_put hB60 (grown_set ((wc.setCell ⟨w.heap.size + 1, 0, none⟩ (.int .i64 0)).setCell ⟨w.heap.size + 1, 1, none⟩ (.int .i64 0)) (w.heap.size + 1) 2 (.slice none 0 0)) (by omega) (by have := hB60.size; omega)
          have r66 : At (((wc.setCell ⟨w.heap.size + 1, 0, none⟩ (.int .i64 0)).setCell ⟨w.heap.size + 1, 1, none⟩ (.int .i64 0)).setCell ⟨w.heap.size + 1, 2, none⟩ (.slice none 0 0)) (w.heap.size + 1) 25 #[.int .i64 0, .int .i64 0, .slice none 0 0, .bool false] := by simpa using r61.set 2 (.slice none 0 0)
          clear t57 x58 o59 hB60 r61
          have t67 := t62.past (grown_set (((wc.setCell ⟨w.heap.size + 1, 0, none⟩ (.int .i64 0)).setCell ⟨w.heap.size + 1, 1, none⟩ (.int .i64 0)).setCell ⟨w.heap.size + 1, 2, none⟩ (.slice none 0 0)) (w.heap.size + 1) 3 (.bool false)) (by omega)
          have x68 := x63.past (grown_set (((wc.setCell ⟨w.heap.size + 1, 0, none⟩ (.int .i64 0)).setCell ⟨w.heap.size + 1, 1, none⟩ (.int .i64 0)).setCell ⟨w.heap.size + 1, 2, none⟩ (.slice none 0 0)) (w.heap.size + 1) 3 (.bool false)) (by omega)
          have o69 := o64.past4 r66 (grown_set (((wc.setCell ⟨w.heap.size + 1, 0, none⟩ (.int .i64 0)).setCell ⟨w.heap.size + 1, 1, none⟩ (.int .i64 0)).setCell ⟨w.heap.size + 1, 2, none⟩ (.slice none 0 0)) (w.heap.size + 1) 3 (.bool false))
          have hB70 := below_put hB65 (grown_set (((wc.setCell ⟨w.heap.size + 1, 0, none⟩ (.int .i64 0)).setCell ⟨w.heap.size + 1, 1, none⟩ (.int .i64 0)).setCell ⟨w.heap.size + 1, 2, none⟩ (.slice none 0 0)) (w.heap.size + 1) 3 (.bool false)) (by omega) (by have := hB65.size; omega)
          have r71 : At ((((wc.setCell ⟨w.heap.size + 1, 0, none⟩ (.int .i64 0)).setCell ⟨w.heap.size + 1, 1, none⟩ (.int .i64 0)).setCell ⟨w.heap.size + 1, 2, none⟩ (.slice none 0 0)).setCell ⟨w.heap.size + 1, 3, none⟩ (.bool false)) (w.heap.size + 1) 25 #[.int .i64 0, .int .i64 0, .slice none 0 0, .bool false] := by simpa using r66.set 3 (.bool false)
          clear t62 x63 o64 hB65 r66
          go_wp2
          refine bodyPost_ret (v := .tuple #[.agg #[.int .i64 0, .int .i64 0, .slice none 0 0, .bool false], .bool false]) (by simp [results, Try.results35, go_sem, r71.cell]) rfl ?_
          exact ⟨none, 0, by rw [E.out, E2.out]; rfl, by rw [E2.out]; exact OwnM.zero _ _, hB70⟩
      · skip
        have hdd : decide (s.d < 4) = false := by simpa using hd
        have E : Hid (stepB s 0 = false) := hid (Bool.eq_false_iff.2 fun e => by have hc := (stepB_iff.1 e).2; have := (can_open.1 hc).2; omega)
        have E2 := hid (stepS_no E.out)
        obtain ⟨t0, t1, t2, t3, tl, tf⟩ := (⟨t7.cell 0, t7.cell 1, t7.cell 2, t7.cell 3, t7.lt, t7.frozen⟩ : _ ∧ _ ∧ _ ∧ _ ∧ _ ∧ _)
        obtain ⟨p0, p1, p2, p3, pl, pf⟩ := (⟨x8.cell 0, x8.cell 1, x8.cell 2, x8.cell 3, x8.lt, x8.frozen⟩ : _ ∧ _ ∧ _ ∧ _ ∧ _ ∧ _)
        obtain ⟨q0, q1, q2, q3, ql, qf⟩ := (⟨r9.cell 0, r9.cell 1, r9.cell 2, r9.cell 3, r9.lt, r9.frozen⟩ : _ ∧ _ ∧ _ ∧ _ ∧ _ ∧ _)
        have ne_tp : ¬ g8 = w.heap.size := by omega
        have ne_pt : ¬ w.heap.size = g8 := by omega
        have ne_tq : ¬ g8 = w.heap.size + 1 := by omega
        have ne_qt : ¬ w.heap.size + 1 = g8 := by omega
        have ne_pq : ¬ w.heap.size = w.heap.size + 1 := by omega
        have ne_qp : ¬ w.heap.size + 1 = w.heap.size := by omega
        have t72 := t7.past (grown_set wc (w.heap.size + 1) 0 (.int .i64 0)) (by omega)
        have x73 := x8.past (grown_set wc (w.heap.size + 1) 0 (.int .i64 0)) (by omega)
        have o74 := o10.past4 r9 (grown_set wc (w.heap.size + 1) 0 (.int .i64 0))
        have hB75 := below_put hB11 (grown_set wc (w.heap.size + 1) 0 (.int .i64 0)) (by omega) (by have := hB11.size; omega)
        have r76 : At (wc.setCell ⟨w.heap.size + 1, 0, none⟩ (.int .i64 0)) (w.heap.size + 1) 25 #[.int .i64 0, .int .i64 0, .slice none 0 0, .bool false] := by simpa using r9.set 0 (.int .i64 0)
        clear t7 x8 o10 hB11 r9
        have t77 := t72.past (grown_set (wc.setCell ⟨w.heap.size + 1, 0, none⟩ (.int .i64 0)) (w.heap.size + 1) 1 (.int .i64 0)) (by omega)
        have x78 := x73.past (grown_set (wc.setCell ⟨w.heap.size + 1, 0, none⟩ (.int .i64 0)) (w.heap.size + 1) 1 (.int .i64 0)) (by omega)
        have o79 := o74.past4 r76 (grown_set (wc.setCell ⟨w.heap.size + 1, 0, none⟩ (.int .i64 0)) (w.heap.size + 1) 1 (.int .i64 0))
        have hB80 := below_put hB75 (grown_set (wc.setCell ⟨w.heap.size + 1, 0, none⟩ (.int .i64 0)) (w.heap.size + 1) 1 (.int .i64 0)) (by omega) (by have := hB75.size; omega)
        have r81 : At ((wc.setCell ⟨w.heap.size + 1, 0, none⟩ (.int .i64 0)).setCell ⟨w.heap.size + 1, 1, none⟩ (.int .i64 0)) (w.heap.size + 1) 25 #[.int .i64 0, .int .i64 0, .slice none 0 0, .bool false] := by simpa using r76.set 1 (.int .i64 0)
        clear t72 x73 o74 hB75 r76
        have t82 := t77.past (grown_set ((wc.setCell ⟨w.heap.size + 1, 0, none⟩ (.int .i64 0)).setCell ⟨w.heap.size + 1, 1, none⟩ (.int .i64 0)) (w.heap.size + 1) 2 (.slice none 0 0)) (by omega)
        have x83 := x78.past (grown_set ((wc.setCell ⟨w.heap.size + 1, 0, none⟩ (.int .i64 0)).setCell ⟨w.heap.size + 1, 1, none⟩ (.int .i64 0)) (w.heap.size + 1) 2 (.slice none 0 0)) (by omega)
        have o84 := o79.past4 r81 (grown_set ((wc.setCell ⟨w.heap.size + 1, 0, none⟩ (.int .i64 0)).setCell ⟨w.heap.size + 1, 1, none⟩ (.int .i64 0)) (w.heap.size + 1) 2 (.slice none 0 0))
        have hB85 := below_put hB80 (grown_set ((wc.setCell ⟨w.heap.size + 1, 0, none⟩ (.int .i64 0)).setCell ⟨w.heap.size + 1, 1, none⟩ (.int .i64 0)) (w.heap.size + 1) 2 (.slice none 0 0)) (by omega) (by have := hB80.size; omega)
        have r86 : At (((wc.setCell ⟨w.heap.size + 1, 0, none⟩ (.int .i64 0)).setCell ⟨w.heap.size + 1, 1, none⟩ (.int .i64 0)).setCell ⟨w.heap.size + 1, 2, none⟩ (.slice none 0 0)) (w.heap.size + 1) 25 #[.int .i64 0, .int .i64 0, .slice none 0 0, .bool false] := by simpa using r81.set 2 (.slice none 0 0)
        clear t77 x78 o79 hB80 r81
        have t87 := t82.past (grown_set (((wc.setCell ⟨w.heap.size + 1, 0, none⟩ (.int .i64 0)).setCell ⟨w.heap.size + 1, 1, none⟩ (.int .i64 0)).setCell ⟨w.heap.size + 1, 2, none⟩ (.slice none 0 0)) (w.heap.size + 1) 3 (.bool false)) (by omega)
        have x88 := x83.past (grown_set (((wc.setCell ⟨w.heap.size + 1, 0, none⟩ (.int .i64 0)).setCell ⟨w.heap.size + 1, 1, none⟩ (.int .i64 0)).setCell ⟨w.heap.size + 1, 2, none⟩ (.slice none 0 0)) (w.heap.size + 1) 3 (.bool false)) (by omega)
        have o89 := o84.past4 r86 (grown_set (((wc.setCell ⟨w.heap.size + 1, 0, none⟩ (.int .i64 0)).setCell ⟨w.heap.size + 1, 1, none⟩ (.int .i64 0)).setCell ⟨w.heap.size + 1, 2, none⟩ (.slice none 0 0)) (w.heap.size + 1) 3 (.bool false))
        have hB90 := below_put hB85 (grown_set (((wc.setCell ⟨w.heap.size + 1, 0, none⟩ (.int .i64 0)).setCell ⟨w.heap.size + 1, 1, none⟩ (.int .i64 0)).setCell ⟨w.heap.size + 1, 2, none⟩ (.slice none 0 0)) (w.heap.size + 1) 3 (.bool false)) (by omega) (by have := hB85.size; omega)
        have r91 : At ((((wc.setCell ⟨w.heap.size + 1, 0, none⟩ (.int .i64 0)).setCell ⟨w.heap.size + 1, 1, none⟩ (.int .i64 0)).setCell ⟨w.heap.size + 1, 2, none⟩ (.slice none 0 0)).setCell ⟨w.heap.size + 1, 3, none⟩ (.bool false)) (w.heap.size + 1) 25 #[.int .i64 0, .int .i64 0, .slice none 0 0, .bool false] := by simpa using r86.set 3 (.bool false)
        clear t82 x83 o84 hB85 r86
        go_wp2
        refine bodyPost_ret (v := .tuple #[.agg #[.int .i64 0, .int .i64 0, .slice none 0 0, .bool false], .bool false]) (by simp [results, Try.results35, go_sem, r91.cell]) rfl ?_
        exact ⟨none, 0, by rw [E.out, E2.out]; rfl, by rw [E2.out]; exact OwnM.zero _ _, hB90⟩
    by_cases k1 : k = 1
    · skip
      subst k1
      by_cases hd : s.d > 0
      · skip
        have hdd : decide (0 < s.d) = true := by simpa using hd
        by_cases hw : s.w < 12
        · skip
          have hwx : decide (s.w < 12) = true := by simpa using hw
          rcases hb : s.b with _ | _
          · skip
            have hnb : (!s.b) = true := by rw [hb]; rfl
            have HBB := hid hb
            clear hb
            have E : Hid (stepB s 1 = true) := hid (stepB_iff.2 ⟨HOK.out, can_work.2 ⟨HBB.out, hd, hw⟩⟩)
            have E2 := hid (stepS_yes E.out)
            have HR := hid (show stepC s 1 = ⟨s.d, s.w + 1, s.m, s.b⟩ from rfl)
            rw [HR.out] at E2
            have hz1b : (s.d == 0) = false := beq_eq_false_iff_ne.2 (by omega)
            obtain ⟨t0, t1, t2, t3, tl, tf⟩ := (⟨t7.cell 0, t7.cell 1, t7.cell 2, t7.cell 3, t7.lt, t7.frozen⟩ : _ ∧ _ ∧ _ ∧ _ ∧ _ ∧ _)
            obtain ⟨p0, p1, p2, p3, pl, pf⟩ := (⟨x8.cell 0, x8.cell 1, x8.cell 2, x8.cell 3, x8.lt, x8.frozen⟩ : _ ∧ _ ∧ _ ∧ _ ∧ _ ∧ _)
            obtain ⟨q0, q1, q2, q3, ql, qf⟩ := (⟨r9.cell 0, r9.cell 1, r9.cell 2, r9.cell 3, r9.lt, r9.frozen⟩ : _ ∧ _ ∧ _ ∧ _ ∧ _ ∧ _)
            have ne_tp : ¬ g8 = w.heap.size := by omega
            have ne_pt : ¬ w.heap.size = g8 := by omega
            have ne_tq : ¬ g8 = w.heap.size + 1 := by omega
            have ne_qt : ¬ w.heap.size + 1 = g8 := by omega
            have ne_pq : ¬ w.heap.size = w.heap.size + 1 := by omega
            have ne_qp : ¬ w.heap.size + 1 = w.heap.size := by omega
            have x92 := x8.past (grown_set wc (g8) 1 (.int .i64 (s.w + 1))) (by omega)
            have r93 := r9.past (grown_set wc (g8) 1 (.int .i64 (s.w + 1))) (by omega)
            have o94 := o10.past4 t7 (grown_set wc (g8) 1 (.int .i64 (s.w + 1)))
            have hB95 := below_put hB11 (grown_set wc (g8) 1 (.int .i64 (s.w + 1))) (by omega) (by have := hB11.size; omega)
            have t96 : At (wc.setCell ⟨g8, 1, none⟩ (.int .i64 (s.w + 1))) (g8) 25 #[.int .i64 s.d, .int .i64 (s.w + 1), .slice Aa s.m.length ca, .bool s.b] := by simpa using t7.set 1 (.int .i64 (s.w + 1))
            clear x8 r9 o10 hB11 t7
            obtain ⟨t0, t1, t2, t3, tl, tf⟩ := (⟨t96.cell 0, t96.cell 1, t96.cell 2, t96.cell 3, t96.lt, t96.frozen⟩ : _ ∧ _ ∧ _ ∧ _ ∧ _ ∧ _)
            obtain ⟨p0, p1, p2, p3, pl, pf⟩ := (⟨x92.cell 0, x92.cell 1, x92.cell 2, x92.cell 3, x92.lt, x92.frozen⟩ : _ ∧ _ ∧ _ ∧ _ ∧ _ ∧ _)
            obtain ⟨q0, q1, q2, q3, ql, qf⟩ := (⟨r93.cell 0, r93.cell 1, r93.cell 2, r93.cell 3, r93.lt, r93.frozen⟩ : _ ∧ _ ∧ _ ∧ _ ∧ _ ∧ _)
            have ne_tp : ¬ g8 = w.heap.size := by omega
            have ne_pt : ¬ w.heap.size = g8 := by omega
            have ne_tq : ¬ g8 = w.heap.size + 1 := by omega
            have ne_qt : ¬ w.heap.size + 1 = g8 := by omega
            have ne_pq : ¬ w.heap.size = w.heap.size + 1 := by omega
            have ne_qp : ¬ w.heap.size + 1 = w.heap.size := by omega
            have t97 := t96.past (grown_set (wc.setCell ⟨g8, 1, none⟩ (.int .i64 (s.w + 1))) (w.heap.size + 1) 0 (.int .i64 s.d)) (by omega)
            have x98 := x92.past (grown_set (wc.setCell ⟨g8, 1, none⟩ (.int .i64 (s.w + 1))) (w.heap.size + 1) 0 (.int .i64 s.d)) (by omega)
            have o99 := o94.past4 r93 (grown_set (wc.setCell ⟨g8, 1, none⟩ (.int .i64 (s.w + 1))) (w.heap.size + 1) 0 (.int .i64 s.d))
            have hB100 := below_put hB95 (grown_set (wc.setCell ⟨g8, 1, none⟩ (.int .i64 (s.w + 1))) (w.heap.size + 1) 0 (.int .i64 s.d)) (by omega) (by have := hB95.size; omega)
            have r101 : At ((wc.setCell ⟨g8, 1, none⟩ (.int .i64 (s.w + 1))).setCell ⟨w.heap.size + 1, 0, none⟩ (.int .i64 s.d)) (w.heap.size + 1) 25 #[.int .i64 s.d, .int .i64 0, .slice none 0 0, .bool false] := by simpa using r93.set 0 (.int .i64 s.d)
            clear t96 x92 o94 hB95 r93
            have t102 := t97.past (grown_set ((wc.setCell ⟨g8, 1, none⟩ (.int .i64 (s.w + 1))).setCell ⟨w.heap.size + 1, 0, none⟩ (.int .i64 s.d)) (w.heap.size + 1) 1 (.int .i64 (s.w + 1))) (by omega)
            have x103 := x98.past (grown_set ((wc.setCell ⟨g8, 1, none⟩ (.int .i64 (s.w + 1))).setCell ⟨w.heap.size + 1, 0, none⟩ (.int .i64 s.d)) (w.heap.size + 1) 1 (.int .i64 (s.w + 1))) (by omega)
            have o104 := o99.past4 r101 (grown_set ((wc.setCell ⟨g8, 1, none⟩ (.int .i64 (s.w + 1))).setCell ⟨w.heap.size + 1, 0, none⟩ (.int .i64 s.d)) (w.heap.size + 1) 1 (.int .i64 (s.w + 1)))
            have hB105 := below_put hB100 (grown_set ((wc.setCell ⟨g8, 1, none⟩ (.int .i64 (s.w + 1))).setCell ⟨w.heap.size + 1, 0, none⟩ (.int .i64 s.d)) (w.heap.size + 1) 1 (.int .i64 (s.w + 1))) (by omega) (by have := hB100.size; omega)
            have r106 : At (((wc.setCell ⟨g8, 1, none⟩ (.int .i64 (s.w + 1))).setCell ⟨w.heap.size + 1, 0, none⟩ (.int .i64 s.d)).setCell ⟨w.heap.size + 1, 1, none⟩ (.int .i64 (s.w + 1))) (w.heap.size + 1) 25 #[.int .i64 s.d, .int .i64 (s.w + 1), .slice none 0 0, .bool false] := by simpa using r101.set 1 (.int .i64 (s.w + 1))
            clear t97 x98 o99 hB100 r101
            have t107 := t102.past (grown_set (((wc.setCell ⟨g8, 1, none⟩ (.int .i64 (s.w + 1))).setCell ⟨w.heap.size + 1, 0, none⟩ (.int .i64 s.d)).setCell ⟨w.heap.size + 1, 1, none⟩ (.int .i64 (s.w + 1))) (w.heap.size + 1) 2 (.slice Aa s.m.length ca)) (by omega)
            have x108 := x103.past (grown_set (((wc.setCell ⟨g8, 1, none⟩ (.int .i64 (s.w + 1))).setCell ⟨w.heap.size + 1, 0, none⟩ (.int .i64 s.d)).setCell ⟨w.heap.size + 1, 1, none⟩ (.int .i64 (s.w + 1))) (w.heap.size + 1) 2 (.slice Aa s.m.length ca)) (by omega)
            have o109 := o104.past4 r106 (grown_set (((wc.setCell ⟨g8, 1, none⟩ (.int .i64 (s.w + 1))).setCell ⟨w.heap.size + 1, 0, none⟩ (.int .i64 s.d)).setCell ⟨w.heap.size + 1, 1, none⟩ (.int .i64 (s.w + 1))) (w.heap.size + 1) 2 (.slice Aa s.m.length ca))
            have hB110 := below_put hB105 (grown_set (((wc.setCell ⟨g8, 1, none⟩ (.int .i64 (s.w + 1))).setCell ⟨w.heap.size + 1, 0, none⟩ (.int .i64 s.d)).setCell ⟨w.heap.size + 1, 1, none⟩ (.int .i64 (s.w + 1))) (w.heap.size + 1) 2 (.slice Aa s.m.length ca)) (by omega) (by have := hB105.size; omega)
            have r111 : At ((((wc.setCell ⟨g8, 1, none⟩ (.int .i64 (s.w + 1))).setCell ⟨w.heap.size + 1, 0, none⟩ (.int .i64 s.d)).setCell ⟨w.heap.size + 1, 1, none⟩ (.int .i64 (s.w + 1))).setCell ⟨w.heap.size + 1, 2, none⟩ (.slice Aa s.m.length ca)) (w.heap.size + 1) 25 #[.int .i64 s.d, .int .i64 (s.w + 1), .slice Aa s.m.length ca, .bool false] := by simpa using r106.set 2 (.slice Aa s.m.length ca)
            clear t102 x103 o104 hB105 r106
            have t112 := t107.past (grown_set ((((wc.setCell ⟨g8, 1, none⟩ (.int .i64 (s.w + 1))).setCell ⟨w.heap.size + 1, 0, none⟩ (.int .i64 s.d)).setCell ⟨w.heap.size + 1, 1, none⟩ (.int .i64 (s.w + 1))).setCell ⟨w.heap.size + 1, 2, none⟩ (.slice Aa s.m.length ca)) (w.heap.size + 1) 3 (.bool s.b)) (by omega)
            have x113 := x108.past (grown_set ((((wc.setCell ⟨g8, 1, none⟩ (.int .i64 (s.w + 1))).setCell ⟨w.heap.size + 1, 0, none⟩ (.int .i64 s.d)).setCell ⟨w.heap.size + 1, 1, none⟩ (.int .i64 (s.w + 1))).setCell ⟨w.heap.size + 1, 2, none⟩ (.slice Aa s.m.length ca)) (w.heap.size + 1) 3 (.bool s.b)) (by omega)
            have o114 := o109.past4 r111 (grown_set ((((wc.setCell ⟨g8, 1, none⟩ (.int .i64 (s.w + 1))).setCell ⟨w.heap.size + 1, 0, none⟩ (.int .i64 s.d)).setCell ⟨w.heap.size + 1, 1, none⟩ (.int .i64 (s.w + 1))).setCell ⟨w.heap.size + 1, 2, none⟩ (.slice Aa s.m.length ca)) (w.heap.size + 1) 3 (.bool s.b))
            have hB115 := below_put hB110 (grown_set ((((wc.setCell ⟨g8, 1, none⟩ (.int .i64 (s.w + 1))).setCell ⟨w.heap.size + 1, 0, none⟩ (.int .i64 s.d)).setCell ⟨w.heap.size + 1, 1, none⟩ (.int .i64 (s.w + 1))).setCell ⟨w.heap.size + 1, 2, none⟩ (.slice Aa s.m.length ca)) (w.heap.size + 1) 3 (.bool s.b)) (by omega) (by have := hB110.size; omega)
            have r116 : At (((((wc.setCell ⟨g8, 1, none⟩ (.int .i64 (s.w + 1))).setCell ⟨w.heap.size + 1, 0, none⟩ (.int .i64 s.d)).setCell ⟨w.heap.size + 1, 1, none⟩ (.int .i64 (s.w + 1))).setCell ⟨w.heap.size + 1, 2, none⟩ (.slice Aa s.m.length ca)).setCell ⟨w.heap.size + 1, 3, none⟩ (.bool s.b)) (w.heap.size + 1) 25 #[.int .i64 s.d, .int .i64 (s.w + 1), .slice Aa s.m.length ca, .bool s.b] := by simpa using r111.set 3 (.bool s.b)
            clear t107 x108 o109 hB110 r111
            go_wp2
            refine bodyPost_ret (v := .tuple #[.agg #[.int .i64 s.d, .int .i64 (s.w + 1), .slice Aa s.m.length ca, .bool s.b], .bool true]) (by simp [results, Try.results35, go_sem, r116.cell]) rfl ?_
            exact ⟨Aa, ca, by rw [E.out, E2.out], by rw [E2.out]; exact (show OwnM _ _ Aa ca (⟨s.d, s.w + 1, s.m, s.b⟩ : Nst) from o114.mono (by omega)), hB115⟩
          · skip
            have hnb : (!s.b) = false := by rw [hb]; rfl
            have HBB := hid hb
            clear hb
            have E : Hid (stepB s 1 = false) := hid (Bool.eq_false_iff.2 fun e => by have hc := (stepB_iff.1 e).2; have := (can_work.1 hc).1; rw [HBB.out] at this; cases this)
            have E2 := hid (stepS_no E.out)
            obtain ⟨t0, t1, t2, t3, tl, tf⟩ := (⟨t7.cell 0, t7.cell 1, t7.cell 2, t7.cell 3, t7.lt, t7.frozen⟩ : _ ∧ _ ∧ _ ∧ _ ∧ _ ∧ _)
            obtain ⟨p0, p1, p2, p3, pl, pf⟩ := (⟨x8.cell 0, x8.cell 1, x8.cell 2, x8.cell 3, x8.lt, x8.frozen⟩ : _ ∧ _ ∧ _ ∧ _ ∧ _ ∧ _)
            obtain ⟨q0, q1, q2, q3, ql, qf⟩ := (⟨r9.cell 0, r9.cell 1, r9.cell 2, r9.cell 3, r9.lt, r9.frozen⟩ : _ ∧ _ ∧ _ ∧ _ ∧ _ ∧ _)
            have ne_tp : ¬ g8 = w.heap.size := by omega
            have ne_pt : ¬ w.heap.size = g8 := by omega
            have ne_tq : ¬ g8 = w.heap.size + 1 := by omega
            have ne_qt : ¬ w.heap.size + 1 = g8 := by omega
            have ne_pq : ¬ w.heap.size = w.heap.size + 1 := by omega
            have ne_qp : ¬ w.heap.size + 1 = w.heap.size := by omega
            have t117 := t7.past (grown_set wc (w.heap.size + 1) 0 (.int .i64 0)) (by omega)
            have x118 := x8.past (grown_set wc (w.heap.size + 1) 0 (.int .i64 0)) (by omega)
            have o119 := o10.past4 r9 (grown_set wc (w.heap.size + 1) 0 (.int .i64 0))
            have hB120 := below_put hB11 (grown_set wc (w.heap.size + 1) 0 (.int .i64 0)) (by omega) (by have := hB11.size; omega)
            have r121 : At (wc.setCell ⟨w.heap.size + 1, 0, none⟩ (.int .i64 0)) (w.heap.size + 1) 25 #[.int .i64 0, .int .i64 0, .slice none 0 0, .bool false] := by simpa using r9.set 0 (.int .i64 0)
            clear t7 x8 o10 hB11 r9
            have t122 := t117.past (grown_set (wc.setCell ⟨w.heap.size + 1, 0, none⟩ (.int .i64 0)) (w.heap.size + 1) 1 (.int .i64 0)) (by omega)
            have x123 := x118.past (grown_set (wc.setCell ⟨w.heap.size + 1, 0, none⟩ (.int .i64 0)) (w.heap.size + 1) 1 (.int .i64 0)) (by omega)
            have o124 := o119.past4 r121 (grown_set (wc.setCell ⟨w.heap.size + 1, 0, none⟩ (.int .i64 0)) (w.heap.size + 1) 1 (.int .i64 0))
            have hB125 := below_put hB120 (grown_set (wc.setCell ⟨w.heap.size + 1, 0, none⟩ (.int .i64 0)) (w.heap.size + 1) 1 (.int .i64 0)) (by omega) (by have := hB120.size; omega)
            have r126 : At ((wc.setCell ⟨w.heap.size + 1, 0, none⟩ (.int .i64 0)).setCell ⟨w.heap.size + 1, 1, none⟩ (.int .i64 0)) (w.heap.size + 1) 25 #[.int .i64 0, .int .i64 0, .slice none 0 0, .bool false] := by simpa using r121.set 1 (.int .i64 0)
            clear t117 x118 o119 hB120 r121
            have t127 := t122.past (grown_set ((wc.setCell ⟨w.heap.size + 1, 0, none⟩ (.int .i64 0)).setCell ⟨w.heap.size + 1, 1, none⟩ (.int .i64 0)) (w.heap.size + 1) 2 (.slice none 0 0)) (by omega)
            have x128 := x123.past (grown_set ((wc.setCell ⟨w.heap.size + 1, 0, none⟩ (.int .i64 0)).setCell ⟨w.heap.size + 1, 1, none⟩ (.int .i64 0)) (w.heap.size + 1) 2 (.slice none 0 0)) (by omega)
            have o129 := o124.past4 r126 (grown_set ((wc.setCell ⟨w.heap.size + 1, 0, none⟩ (.int .i64 0)).setCell ⟨w.heap.size + 1, 1, none⟩ (.int .i64 0)) (w.heap.size + 1) 2 (.slice none 0 0))
            have hB130 := below_put hB125 (grown_set ((wc.setCell ⟨w.heap.size + 1, 0, none⟩ (.int .i64 0)).setCell ⟨w.heap.size + 1, 1, none⟩ (.int .i64 0)) (w.heap.size + 1) 2 (.slice none 0 0)) (by omega) (by have := hB125.size; omega)
            have r131 : At (((wc.setCell ⟨w.heap.size + 1, 0, none⟩ (.int .i64 0)).setCell ⟨w.heap.size + 1, 1, none⟩ (.int .i64 0)).setCell ⟨w.heap.size + 1, 2, none⟩ (.slice none 0 0)) (w.heap.size + 1) 25 #[.int .i64 0, .int .i64 0, .slice none 0 0, .bool false] := by simpa using r126.set 2 (.slice none 0 0)
            clear t122 x123 o124 hB125 r126
            have t132 := t127.past (grown_set (((wc.setCell ⟨w.heap.size + 1, 0, none⟩ (.int .i64 0)).setCell ⟨w.heap.size + 1, 1, none⟩ (.int .i64 0)).setCell ⟨w.heap.size + 1, 2, none⟩ (.slice none 0 0)) (w.heap.size + 1) 3 (.bool false)) (by omega)
            have x133 := x128.past (grown_set (((wc.setCell ⟨w.heap.size + 1, 0, none⟩ (.int .i64 0)).setCell ⟨w.heap.size + 1, 1, none⟩ (.int .i64 0)).setCell ⟨w.heap.size + 1, 2, none⟩ (.slice none 0 0)) (w.heap.size + 1) 3 (.bool false)) (by omega)
            have o134 := o129.past4 r131 (grown_set (((wc.setCell ⟨w.heap.size + 1, 0, none⟩ (.int .i64 0)).setCell ⟨w.heap.size + 1, 1, none⟩ (.int .i64 0)).setCell ⟨w.heap.size + 1, 2, none⟩ (.slice none 0 0)) (w.heap.size + 1) 3 (.bool false))
            have hB135 := below_put hB130 (grown_set (((wc.setCell ⟨w.heap.size + 1, 0, none⟩ (.int .i64 0)).setCell ⟨w.heap.size + 1, 1, none⟩ (.int .i64 0)).setCell ⟨w.heap.size + 1, 2, none⟩ (.slice none 0 0)) (w.heap.size + 1) 3 (.bool false)) (by omega) (by have := hB130.size; omega)
            have r136 : At ((((wc.setCell ⟨w.heap.size + 1, 0, none⟩ (.int .i64 0)).setCell ⟨w.heap.size + 1, 1, none⟩ (.int .i64 0)).setCell ⟨w.heap.size + 1, 2, none⟩ (.slice none 0 0)).setCell ⟨w.heap.size + 1, 3, none⟩ (.bool false)) (w.heap.size + 1) 25 #[.int .i64 0, .int .i64 0, .slice none 0 0, .bool false] := by simpa using r131.set 3 (.bool false)
            clear t127 x128 o129 hB130 r131
            go_wp2
            refine bodyPost_ret (v := .tuple #[.agg #[.int .i64 0, .int .i64 0, .slice none 0 0, .bool false], .bool false]) (by simp [results, Try.results35, go_sem, r136.cell]) rfl ?_
            exact ⟨none, 0, by rw [E.out, E2.out]; rfl, by rw [E2.out]; exact OwnM.zero _ _, hB135⟩
        · skip
          have hwx : decide (s.w < 12) = false := by simpa using hw
          have E : Hid (stepB s 1 = false) := hid (Bool.eq_false_iff.2 fun e => by have hc := (stepB_iff.1 e).2; have := (can_work.1 hc).2.2; omega)
          have E2 := hid (stepS_no E.out)
          obtain ⟨t0, t1, t2, t3, tl, tf⟩ := (⟨t7.cell 0, t7.cell 1, t7.cell 2, t7.cell 3, t7.lt, t7.frozen⟩ : _ ∧ _ ∧ _ ∧ _ ∧ _ ∧ _)
          obtain ⟨p0, p1, p2, p3, pl, pf⟩ := (⟨x8.cell 0, x8.cell 1, x8.cell 2, x8.cell 3, x8.lt, x8.frozen⟩ : _ ∧ _ ∧ _ ∧ _ ∧ _ ∧ _)
          obtain ⟨q0, q1, q2, q3, ql, qf⟩ := (⟨r9.cell 0, r9.cell 1, r9.cell 2, r9.cell 3, r9.lt, r9.frozen⟩ : _ ∧ _ ∧ _ ∧ _ ∧ _ ∧ _)
          have ne_tp : ¬ g8 = w.heap.size := by omega
          have ne_pt : ¬ w.heap.size = g8 := by omega
          have ne_tq : ¬ g8 = w.heap.size + 1 := by omega
          have ne_qt : ¬ w.heap.size + 1 = g8 := by omega
          have ne_pq : ¬ w.heap.size = w.heap.size + 1 := by omega
          have ne_qp : ¬ w.heap.size + 1 = w.heap.size := by omega
          have t137 := t7.past (grown_set wc (w.heap.size + 1) 0 (.int .i64 0)) (by omega)
          have x138 := x8.past (grown_set wc (w.heap.size + 1) 0 (.int .i64 0)) (by omega)
          have o139 := o10.past4 r9 (grown_set wc (w.heap.size + 1) 0 (.int .i64 0))
          have hB140 := below_put hB11 (grown_set wc (w.heap.size + 1) 0 (.int .i64 0)) (by omega) (by have := hB11.size; omega)
          have r141 : At (wc.setCell ⟨w.heap.size + 1, 0, none⟩ (.int .i64 0)) (w.heap.size + 1) 25 #[.int .i64 0, .int .i64 0, .slice none 0 0, .bool false] := by simpa using r9.set 0 (.int .i64 0)
          clear t7 x8 o10 hB11 r9
          have t142 := t137.past (grown_set (wc.setCell ⟨w.heap.size + 1, 0, none⟩ (.int .i64 0)) (w.heap.size + 1) 1 (.int .i64 0)) (by omega)
          have x143 := x138.past (grown_set (wc.setCell ⟨w.heap.size + 1, 0, none⟩ (.int .i64 0)) (w.heap.size + 1) 1 (.int .i64 0)) (by omega)
          have o144 := o139.past4 r141 (grown_set (wc.setCell ⟨w.heap.size + 1, 0, none⟩ (.int .i64 0)) (w.heap.size + 1) 1 (.int .i64 0))
          have hB145 := below_put hB140 (grown_set (wc.setCell ⟨w.heap.size + 1, 0, none⟩ (.int .i64 0)) (w.heap.size + 1) 1 (.int .i64 0)) (by omega) (by have := hB140.size; omega)
          have r146 : At ((wc.setCell ⟨w.heap.size + 1, 0, none⟩ (.int .i64 0)).setCell ⟨w.heap.size + 1, 1, none⟩ (.int .i64 0)) (w.heap.size + 1) 25 #[.int .i64 0, .int .i64 0, .slice none 0 0, .bool false] := by simpa using r141.set 1 (.int .i64 0)
          clear t137 x138 o139 hB140 r141
          have t147 := t142.past (grown_set ((wc.setCell ⟨w.heap.size + 1, 0, none⟩ (.int .i64 0)).setCell ⟨w.heap.size + 1, 1, none⟩ (.int .i64 0)) (w.heap.size + 1) 2 (.slice none 0 0)) (by omega)
          have x148 := x143.past (grown_set ((wc.setCell ⟨w.heap.size + 1, 0, none⟩ (.int .i64 0)).setCell ⟨w.heap.size + 1, 1, none⟩ (.int .i64 0)) (w.heap.size + 1) 2 (.slice none 0 0)) (by omega)
          have o149 := o144.past4 r146 (grown_set ((wc.setCell ⟨w.heap.size + 1, 0, none⟩ (.int .i64 0)).setCell ⟨w.heap.size + 1, 1, none⟩ (.int .i64 0)) (w.heap.size + 1) 2 (.slice none 0 0))
          have hB150 := below_put hB145 (grown_set ((wc.setCell ⟨w.heap.size + 1, 0, none⟩ (.int .i64 0)).setCell ⟨w.heap.size + 1, 1, none⟩ (.int .i64 0)) (w.heap.size + 1) 2 (.slice none 0 0)) (by omega) (by have := hB145.size; omega)
          have r151 : At (((wc.setCell ⟨w.heap.size + 1, 0, none⟩ (.int .i64 0)).setCell ⟨w.heap.size + 1, 1, none⟩ (.int .i64 0)).setCell ⟨w.heap.size + 1, 2, none⟩ (.slice none 0 0)) (w.heap.size + 1) 25 #[.int .i64 0, .int .i64 0, .slice none 0 0, .bool false] := by simpa using r146.set 2 (.slice none 0 0)
          clear t142 x143 o144 hB145 r146
          have t152 := t147.past (grown_set (((wc.setCell ⟨w.heap.size + 1, 0, none⟩ (.int .i64 0)).setCell ⟨w.heap.size + 1, 1, none⟩ (.int .i64 0)).setCell ⟨w.heap.size + 1, 2, none⟩ (.slice none 0 0)) (w.heap.size + 1) 3 (.bool false)) (by omega)
          have x153 := x148.past (grown_set (((wc.setCell ⟨w.heap.size + 1, 0, none⟩ (.int .i64 0)).setCell ⟨w.heap.size + 1, 1, none⟩ (.int .i64 0)).setCell ⟨w.heap.size + 1, 2, none⟩ (.slice none 0 0)) (w.heap.size + 1) 3 (.bool false)) (by omega)
          have o154 := o149.past4 r151 (grown_set (((wc.setCell ⟨w.heap.size + 1, 0, none⟩ (.int .i64 0)).setCell ⟨w.heap.size + 1, 1, none⟩ (.int .i64 0)).setCell ⟨w.heap.size + 1, 2, none⟩ (.slice none 0 0)) (w.heap.size + 1) 3 (.bool false))
          have hB155 := below_put hB150 (grown_set (((wc.setCell ⟨w.heap.size + 1, 0, none⟩ (.int .i64 0)).setCell ⟨w.heap.size + 1, 1, none⟩ (.int .i64 0)).setCell ⟨w.heap.size + 1, 2, none⟩ (.slice none 0 0)) (w.heap.size + 1) 3 (.bool false)) (by omega) (by have := hB150.size; omega)
          have r156 : At ((((wc.setCell ⟨w.heap.size + 1, 0, none⟩ (.int .i64 0)).setCell ⟨w.heap.size + 1, 1, none⟩ (.int .i64 0)).setCell ⟨w.heap.size + 1, 2, none⟩ (.slice none 0 0)).setCell ⟨w.heap.size + 1, 3, none⟩ (.bool false)) (w.heap.size + 1) 25 #[.int .i64 0, .int .i64 0, .slice none 0 0, .bool false] := by simpa using r151.set 3 (.bool false)
          clear t147 x148 o149 hB150 r151
          go_wp2
          refine bodyPost_ret (v := .tuple #[.agg #[.int .i64 0, .int .i64 0, .slice none 0 0, .bool false], .bool false]) (by simp [results, Try.results35, go_sem, r156.cell]) rfl ?_
          exact ⟨none, 0, by rw [E.out, E2.out]; rfl, by rw [E2.out]; exact OwnM.zero _ _, hB155⟩
      · skip
        have hdd : decide (0 < s.d) = false := by simpa using hd
        have E : Hid (stepB s 1 = false) := hid (Bool.eq_false_iff.2 fun e => by have hc := (stepB_iff.1 e).2; have := (can_work.1 hc).2.1; omega)
        have E2 := hid (stepS_no E.out)
        obtain ⟨t0, t1, t2, t3, tl, tf⟩ := (⟨t7.cell 0, t7.cell 1, t7.cell 2, t7.cell 3, t7.lt, t7.frozen⟩ : _ ∧ _ ∧ _ ∧ _ ∧ _ ∧ _)
        obtain ⟨p0, p1, p2, p3, pl, pf⟩ := (⟨x8.cell 0, x8.cell 1, x8.cell 2, x8.cell 3, x8.lt, x8.frozen⟩ : _ ∧ _ ∧ _ ∧ _ ∧ _ ∧ _)
        obtain ⟨q0, q1, q2, q3, ql, qf⟩ := (⟨r9.cell 0, r9.cell 1, r9.cell 2, r9.cell 3, r9.lt, r9.frozen⟩ : _ ∧ _ ∧ _ ∧ _ ∧ _ ∧ _)
        have ne_tp : ¬ g8 = w.heap.size := by omega
        have ne_pt : ¬ w.heap.size = g8 := by omega
        have ne_tq : ¬ g8 = w.heap.size + 1 := by omega
        have ne_qt : ¬ w.heap.size + 1 = g8 := by omega
        have ne_pq : ¬ w.heap.size = w.heap.size + 1 := by omega
        have ne_qp : ¬ w.heap.size + 1 = w.heap.size := by omega
        have t157 := t7.past (grown_set wc (w.heap.size + 1) 0 (.int .i64 0)) (by omega)
        have x158 := x8.past (grown_set wc (w.heap.size + 1) 0 (.int .i64 0)) (by omega)
        have o159 := o10.past4 r9 (grown_set wc (w.heap.size + 1) 0 (.int .i64 0))
        have hB160 := below_put hB11 (grown_set wc (w.heap.size + 1) 0 (.int .i64 0)) (by omega) (by have := hB11.size; omega)
        have r161 : At (wc.setCell ⟨w.heap.size + 1, 0, none⟩ (.int .i64 0)) (w.heap.size + 1) 25 #[.int .i64 0, .int .i64 0, .slice none 0 0, .bool false] := by simpa using r9.set 0 (.int .i64 0)
        clear t7 x8 o10 hB11 r9
        have t162 := t157.past (grown_set (wc.setCell ⟨w.heap.size + 1, 0, none⟩ (.int .i64 0)) (w.heap.size + 1) 1 (.int .i64 0)) (by omega)
        have x163 := x158.past (grown_set (wc.setCell ⟨w.heap.size + 1, 0, none⟩ (.int .i64 0)) (w.heap.size + 1) 1 (.int .i64 0)) (by omega)
        have o164 := o159.past4 r161 (grown_set (wc.setCell ⟨w.heap.size + 1, 0, none⟩ (.int .i64 0)) (w.heap.size + 1) 1 (.int .i64 0))
        have hB165 := below_put hB160 (grown_set (wc.setCell ⟨w.heap.size + 1, 0, none⟩ (.int .i64 0)) (w.heap.size + 1) 1 (.int .i64 0)) (by omega) (by have := hB160.size; omega)
        have r166 : At ((wc.setCell ⟨w.heap.size + 1, 0, none⟩ (.int .i64 0)).setCell ⟨w.heap.size + 1, 1, none⟩ (.int .i64 0)) (w.heap.size + 1) 25 #[.int .i64 0, .int .i64 0, .slice none 0 0, .bool false] := by simpa using r161.set 1 (.int .i64 0)
        clear t157 x158 o159 hB160 r161
        have t167 := t162.past (grown_set ((wc.setCell ⟨w.heap.size + 1, 0, none⟩ (.int .i64 0)).setCell ⟨w.heap.size + 1, 1, none⟩ (.int .i64 0)) (w.heap.size + 1) 2 (.slice none 0 0)) (by omega)
        have x168 := x163.past (grown_set ((wc.setCell ⟨w.heap.size + 1, 0, none⟩ (.int .i64 0)).setCell ⟨w.heap.size + 1, 1, none⟩ (.int .i64 0)) (w.heap.size + 1) 2 (.slice none 0 0)) (by omega)
        have o169 := o164.past4 r166 (grown_set ((wc.setCell ⟨w.heap.size + 1, 0, none⟩ (.int .i64 0)).setCell ⟨w.heap.size + 1, 1, none⟩ (.int .i64 0)) (w.heap.size + 1) 2 (.slice none 0 0))
        have hB170 := below_put hB165 (grown_set ((wc.setCell ⟨w.heap.size + 1, 0, none⟩ (.int .i64 0)).setCell ⟨w.heap.size + 1, 1, none⟩ (.int .i64 0)) (w.heap.size + 1) 2 (.slice none 0 0)) (by omega) (by have := hB165.size; omega)
        have r171 : At (((wc.setCell ⟨w.heap.size + 1, 0, none⟩ (.int .i64 0)).setCell ⟨w.heap.size + 1, 1, none⟩ (.int .i64 0)).setCell ⟨w.heap.size + 1, 2, none⟩ (.slice none 0 0)) (w.heap.size + 1) 25 #[.int .i64 0, .int .i64 0, .slice none 0 0, .bool false] := by simpa using r166.set 2 (.slice none 0 0)
        clear t162 x163 o164 hB165 r166
        have t172 := t167.past (grown_set (((wc.setCell ⟨w.heap.size + 1, 0, none⟩ (.int .i64 0)).setCell ⟨w.heap.size + 1, 1, none⟩ (.int .i64 0)).setCell ⟨w.heap.size + 1, 2, none⟩ (.slice none 0 0)) (w.heap.size + 1) 3 (.bool false)) (by omega)
        have x173 := x168.past (grown_set (((wc.setCell ⟨w.heap.size + 1, 0, none⟩ (.int .i64 0)).setCell ⟨w.heap.size + 1, 1, none⟩ (.int .i64 0)).setCell ⟨w.heap.size + 1, 2, none⟩ (.slice none 0 0)) (w.heap.size + 1) 3 (.bool false)) (by omega)
        have o174 := o169.past4 r171 (grown_set (((wc.setCell ⟨w.heap.size + 1, 0, none⟩ (.int .i64 0)).setCell ⟨w.heap.size + 1, 1, none⟩ (.int .i64 0)).setCell ⟨w.heap.size + 1, 2, none⟩ (.slice none 0 0)) (w.heap.size + 1) 3 (.bool false))
        have hB175 := below_put hB170 (grown_set (((wc.setCell ⟨w.heap.size + 1, 0, none⟩ (.int .i64 0)).setCell ⟨w.heap.size + 1, 1, none⟩ (.int .i64 0)).setCell ⟨w.heap.size + 1, 2, none⟩ (.slice none 0 0)) (w.heap.size + 1) 3 (.bool false)) (by omega) (by have := hB170.size; omega)
        have r176 : At ((((wc.setCell ⟨w.heap.size + 1, 0, none⟩ (.int .i64 0)).setCell ⟨w.heap.size + 1, 1, none⟩ (.int .i64 0)).setCell ⟨w.heap.size + 1, 2, none⟩ (.slice none 0 0)).setCell ⟨w.heap.size + 1, 3, none⟩ (.bool false)) (w.heap.size + 1) 25 #[.int .i64 0, .int .i64 0, .slice none 0 0, .bool false] := by simpa using r171.set 3 (.bool false)
        clear t167 x168 o169 hB170 r171
        go_wp2
        refine bodyPost_ret (v := .tuple #[.agg #[.int .i64 0, .int .i64 0, .slice none 0 0, .bool false], .bool false]) (by simp [results, Try.results35, go_sem, r176.cell]) rfl ?_
        exact ⟨none, 0, by rw [E.out, E2.out]; rfl, by rw [E2.out]; exact OwnM.zero _ _, hB175⟩
    by_cases k2 : k = 2
    · skip
      subst k2
      by_cases hd : s.d > 0
      · skip
        have hdd : decide (0 < s.d) = true := by simpa using hd
        have E : Hid (stepB s 2 = true) := hid (stepB_iff.2 ⟨HOK.out, (can_fail HOK.out).2 hd⟩)
        have E2 := hid (stepS_yes E.out)
        have HR := hid (show stepC s 2 = ⟨s.d, s.w, s.m, true⟩ from rfl)
        rw [HR.out] at E2
        have hz1b : (s.d == 0) = false := beq_eq_false_iff_ne.2 (by omega)
        obtain ⟨t0, t1, t2, t3, tl, tf⟩ := (⟨t7.cell 0, t7.cell 1, t7.cell 2, t7.cell 3, t7.lt, t7.frozen⟩ : _ ∧ _ ∧ _ ∧ _ ∧ _ ∧ _)
        obtain ⟨p0, p1, p2, p3, pl, pf⟩ := (⟨x8.cell 0, x8.cell 1, x8.cell 2, x8.cell 3, x8.lt, x8.frozen⟩ : _ ∧ _ ∧ _ ∧ _ ∧ _ ∧ _)
        obtain ⟨q0, q1, q2, q3, ql, qf⟩ := (⟨r9.cell 0, r9.cell 1, r9.cell 2, r9.cell 3, r9.lt, r9.frozen⟩ : _ ∧ _ ∧ _ ∧ _ ∧ _ ∧ _)
        have ne_tp : ¬ g8 = w.heap.size := by omega
        have ne_pt : ¬ w.heap.size = g8 := by omega
        have ne_tq : ¬ g8 = w.heap.size + 1 := by omega
        have ne_qt : ¬ w.heap.size + 1 = g8 := by omega
        have ne_pq : ¬ w.heap.size = w.heap.size + 1 := by omega
        have ne_qp : ¬ w.heap.size + 1 = w.heap.size := by omega
        have x177 := x8.past (grown_set wc (g8) 3 (.bool true)) (by omega)
        have r178 := r9.past (grown_set wc (g8) 3 (.bool true)) (by omega)
        have o179 := o10.past4 t7 (grown_set wc (g8) 3 (.bool true))
        have hB180 := below_put hB11 (grown_set wc (g8) 3 (.bool true)) (by omega) (by have := hB11.size; omega)
        have t181 : At (wc.setCell ⟨g8, 3, none⟩ (.bool true)) (g8) 25 #[.int .i64 s.d, .int .i64 s.w, .slice Aa s.m.length ca, .bool true] := by simpa using t7.set 3 (.bool true)
        clear x8 r9 o10 hB11 t7
        obtain ⟨t0, t1, t2, t3, tl, tf⟩ := (⟨t181.cell 0, t181.cell 1, t181.cell 2, t181.cell 3, t181.lt, t181.frozen⟩ : _ ∧ _ ∧ _ ∧ _ ∧ _ ∧ _)
        obtain ⟨p0, p1, p2, p3, pl, pf⟩ := (⟨x177.cell 0, x177.cell 1, x177.cell 2, x177.cell 3, x177.lt, x177.frozen⟩ : _ ∧ _ ∧ _ ∧ _ ∧ _ ∧ _)
        obtain ⟨q0, q1, q2, q3, ql, qf⟩ := (⟨r178.cell 0, r178.cell 1, r178.cell 2, r178.cell 3, r178.lt, r178.frozen⟩ : _ ∧ _ ∧ _ ∧ _ ∧ _ ∧ _)
        have ne_tp : ¬ g8 = w.heap.size := by omega
        have ne_pt : ¬ w.heap.size = g8 := by omega
        have ne_tq : ¬ g8 = w.heap.size + 1 := by omega
        have ne_qt : ¬ w.heap.size + 1 = g8 := by omega
        have ne_pq : ¬ w.heap.size = w.heap.size + 1 := by omega
        have ne_qp : ¬ w.heap.size + 1 = w.heap.size := by omega
        have t182 := t181.past (grown_set (wc.setCell ⟨g8, 3, none⟩ (.bool true)) (w.heap.size + 1) 0 (.int .i64 s.d)) (by omega)
        have x183 := x177.past (grown_set (wc.setCell ⟨g8, 3, none⟩ (.bool true)) (w.heap.size + 1) 0 (.int .i64 s.d)) (by omega)
        have o184 := o179.past4 r178 (grown_set (wc.setCell ⟨g8, 3, none⟩ (.bool true)) (w.heap.size + 1) 0 (.int .i64 s.d))
        have hB185 := below_put hB180 (grown_set (wc.setCell ⟨g8, 3, none⟩ (.bool true)) (w.heap.size + 1) 0 (.int .i64 s.d)) (by omega) (by have := hB180.size; omega)
        have r186 : At ((wc.setCell ⟨g8, 3, none⟩ (.bool true)).setCell ⟨w.heap.size + 1, 0, none⟩ (.int .i64 s.d)) (w.heap.size + 1) 25 #[.int .i64 s.d, .int .i64 0, .slice none 0 0, .bool false] := by simpa using r178.set 0 (.int .i64 s.d)
        clear t181 x177 o179 hB180 r178
        have t187 := t182.past (grown_set ((wc.setCell ⟨g8, 3, none⟩ (.bool true)).setCell ⟨w.heap.size + 1, 0, none⟩ (.int .i64 s.d)) (w.heap.size + 1) 1 (.int .i64 s.w)) (by omega)
        have x188 := x183.past (grown_set ((wc.setCell ⟨g8, 3, none⟩ (.bool true)).setCell ⟨w.heap.size + 1, 0, none⟩ (.int .i64 s.d)) (w.heap.size + 1) 1 (.int .i64 s.w)) (by omega)
        have o189 := o184.past4 r186 (grown_set ((wc.setCell ⟨g8, 3, none⟩ (.bool true)).setCell ⟨w.heap.size + 1, 0, none⟩ (.int .i64 s.d)) (w.heap.size + 1) 1 (.int .i64 s.w))
        have hB190 := below_put hB185 (grown_set ((wc.setCell ⟨g8, 3, none⟩ (.bool true)).setCell ⟨w.heap.size + 1, 0, none⟩ (.int .i64 s.d)) (w.heap.size + 1) 1 (.int .i64 s.w)) (by omega) (by have := hB185.size; omega)
        have r191 : At (((wc.setCell ⟨g8, 3, none⟩ (.bool true)).setCell ⟨w.heap.size + 1, 0, none⟩ (.int .i64 s.d)).setCell ⟨w.heap.size + 1, 1, none⟩ (.int .i64 s.w)) (w.heap.size + 1) 25 #[.int .i64 s.d, .int .i64 s.w, .slice none 0 0, .bool false] := by simpa using r186.set 1 (.int .i64 s.w)
        clear t182 x183 o184 hB185 r186
        have t192 := t187.past (grown_set (((wc.setCell ⟨g8, 3, none⟩ (.bool true)).setCell ⟨w.heap.size + 1, 0, none⟩ (.int .i64 s.d)).setCell ⟨w.heap.size + 1, 1, none⟩ (.int .i64 s.w)) (w.heap.size + 1) 2 (.slice Aa s.m.length ca)) (by omega)
        have x193 := x188.past (grown_set (((wc.setCell ⟨g8, 3, none⟩ (.bool true)).setCell ⟨w.heap.size + 1, 0, none⟩ (.int .i64 s.d)).setCell ⟨w.heap.size + 1, 1, none⟩ (.int .i64 s.w)) (w.heap.size + 1) 2 (.slice Aa s.m.length ca)) (by omega)
        have o194 := o189.past4 r191 (grown_set (((wc.setCell ⟨g8, 3, none⟩ (.bool true)).setCell ⟨w.heap.size + 1, 0, none⟩ (.int .i64 s.d)).setCell ⟨w.heap.size + 1, 1, none⟩ (.int .i64 s.w)) (w.heap.size + 1) 2 (.slice Aa s.m.length ca))
        have hB195 := below_put hB190 (grown_set (((wc.setCell ⟨g8, 3, none⟩ (.bool true)).setCell ⟨w.heap.size + 1, 0, none⟩ (.int .i64 s.d)).setCell ⟨w.heap.size + 1, 1, none⟩ (.int .i64 s.w)) (w.heap.size + 1) 2 (.slice Aa s.m.length ca)) (by omega) (by have := hB190.size; omega)
        have r196 : At ((((wc.setCell ⟨g8, 3, none⟩ (.bool true)).setCell ⟨w.heap.size + 1, 0, none⟩ (.int .i64 s.d)).setCell ⟨w.heap.size + 1, 1, none⟩ (.int .i64 s.w)).setCell ⟨w.heap.size + 1, 2, none⟩ (.slice Aa s.m.length ca)) (w.heap.size + 1) 25 #[.int .i64 s.d, .int .i64 s.w, .slice Aa s.m.length ca, .bool false] := by simpa using r191.set 2 (.slice Aa s.m.length ca)
        clear t187 x188 o189 hB190 r191
        have t197 := t192.past (grown_set ((((wc.setCell ⟨g8, 3, none⟩ (.bool true)).setCell ⟨w.heap.size + 1, 0, none⟩ (.int .i64 s.d)).setCell ⟨w.heap.size + 1, 1, none⟩ (.int .i64 s.w)).setCell ⟨w.heap.size + 1, 2, none⟩ (.slice Aa s.m.length ca)) (w.heap.size + 1) 3 (.bool true)) (by omega)
        have x198 := x193.past (grown_set ((((wc.setCell ⟨g8, 3, none⟩ (.bool true)).setCell ⟨w.heap.size + 1, 0, none⟩ (.int .i64 s.d)).setCell ⟨w.heap.size + 1, 1, none⟩ (.int .i64 s.w)).setCell ⟨w.heap.size + 1, 2, none⟩ (.slice Aa s.m.length ca)) (w.heap.size + 1) 3 (.bool true)) (by omega)
        have o199 := o194.past4 r196 (grown_set ((((wc.setCell ⟨g8, 3, none⟩ (.bool true)).setCell ⟨w.heap.size + 1, 0, none⟩ (.int .i64 s.d)).setCell ⟨w.heap.size + 1, 1, none⟩ (.int .i64 s.w)).setCell ⟨w.heap.size + 1, 2, none⟩ (.slice Aa s.m.length ca)) (w.heap.size + 1) 3 (.bool true))
        have hB200 := below_put hB195 (grown_set ((((wc.setCell ⟨g8, 3, none⟩ (.bool true)).setCell ⟨w.heap.size + 1, 0, none⟩ (.int .i64 s.d)).setCell ⟨w.heap.size + 1, 1, none⟩ (.int .i64 s.w)).setCell ⟨w.heap.size + 1, 2, none⟩ (.slice Aa s.m.length ca)) (w.heap.size + 1) 3 (.bool true)) (by omega) (by have := hB195.size; omega)
        have r201 : At (((((wc.setCell ⟨g8, 3, none⟩ (.bool true)).setCell ⟨w.heap.size + 1, 0, none⟩ (.int .i64 s.d)).setCell ⟨w.heap.size + 1, 1, none⟩ (.int .i64 s.w)).setCell ⟨w.heap.size + 1, 2, none⟩ (.slice Aa s.m.length ca)).setCell ⟨w.heap.size + 1, 3, none⟩ (.bool true)) (w.heap.size + 1) 25 #[.int .i64 s.d, .int .i64 s.w, .slice Aa s.m.length ca, .bool true] := by simpa using r196.set 3 (.bool true)
        clear t192 x193 o194 hB195 r196
        go_wp2
        refine bodyPost_ret (v := .tuple #[.agg #[.int .i64 s.d, .int .i64 s.w, .slice Aa s.m.length ca, .bool true], .bool true]) (by simp [results, Try.results35, go_sem, r201.cell]) rfl ?_
        exact ⟨Aa, ca, by rw [E.out, E2.out], by rw [E2.out]; exact (show OwnM _ _ Aa ca (⟨s.d, s.w, s.m, true⟩ : Nst) from o199.mono (by omega)), hB200⟩
      · skip
        have hdd : decide (0 < s.d) = false := by simpa using hd
        have E : Hid (stepB s 2 = false) := hid (Bool.eq_false_iff.2 fun e => by have hc := (stepB_iff.1 e).2; have := (can_fail HOK.out).1 hc; omega)
        have E2 := hid (stepS_no E.out)
        obtain ⟨t0, t1, t2, t3, tl, tf⟩ := (⟨t7.cell 0, t7.cell 1, t7.cell 2, t7.cell 3, t7.lt, t7.frozen⟩ : _ ∧ _ ∧ _ ∧ _ ∧ _ ∧ _)
        obtain ⟨p0, p1, p2, p3, pl, pf⟩ := (⟨x8.cell 0, x8.cell 1, x8.cell 2, x8.cell 3, x8.lt, x8.frozen⟩ : _ ∧ _ ∧ _ ∧ _ ∧ _ ∧ _)
        obtain ⟨q0, q1, q2, q3, ql, qf⟩ := (⟨r9.cell 0, r9.cell 1, r9.cell 2, r9.cell 3, r9.lt, r9.frozen⟩ : _ ∧ _ ∧ _ ∧ _ ∧ _ ∧ _)
        have ne_tp : ¬ g8 = w.heap.size := by omega
        have ne_pt : ¬ w.heap.size = g8 := by omega
        have ne_tq : ¬ g8 = w.heap.size + 1 := by omega
        have ne_qt : ¬ w.heap.size + 1 = g8 := by omega
        have ne_pq : ¬ w.heap.size = w.heap.size + 1 := by omega
        have ne_qp : ¬ w.heap.size + 1 = w.heap.size := by omega
        have t202 := t7.past (grown_set wc (w.heap.size + 1) 0 (.int .i64 0)) (by omega)
        have x203 := x8.past (grown_set wc (w.heap.size + 1) 0 (.int .i64 0)) (by omega)
        have o204 := o10.past4 r9 (grown_set wc (w.heap.size + 1) 0 (.int .i64 0))
        have hB205 := below_put hB11 (grown_set wc (w.heap.size + 1) 0 (.int .i64 0)) (by omega) (by have := hB11.size; omega)
        have r206 : At (wc.setCell ⟨w.heap.size + 1, 0, none⟩ (.int .i64 0)) (w.heap.size + 1) 25 #[.int .i64 0, .int .i64 0, .slice none 0 0, .bool false] := by simpa using r9.set 0 (.int .i64 0)
        clear t7 x8 o10 hB11 r9
        have t207 := t202.past (grown_set (wc.setCell ⟨w.heap.size + 1, 0, none⟩ (.int .i64 0)) (w.heap.size + 1) 1 (.int .i64 0)) (by omega)
        have x208 := x203.past (grown_set (wc.setCell ⟨w.heap.size + 1, 0, none⟩ (.int .i64 0)) (w.heap.size + 1) 1 (.int .i64 0)) (by omega)
        have o209 := o204.past4 r206 (grown_set (wc.setCell ⟨w.heap.size + 1, 0, none⟩ (.int .i64 0)) (w.heap.size + 1) 1 (.int .i64 0))
        have hB210 := below_put hB205 (grown_set (wc.setCell ⟨w.heap.size + 1, 0, none⟩ (.int .i64 0)) (w.heap.size + 1) 1 (.int .i64 0)) (by omega) (by have := hB205.size; omega)
        have r211 : At ((wc.setCell ⟨w.heap.size + 1, 0, none⟩ (.int .i64 0)).setCell ⟨w.heap.size + 1, 1, none⟩ (.int .i64 0)) (w.heap.size + 1) 25 #[.int .i64 0, .int .i64 0, .slice none 0 0, .bool false] := by simpa using r206.set 1 (.int .i64 0)
        clear t202 x203 o204 hB205 r206
        have t212 := t207.past (grown_set ((wc.setCell ⟨w.heap.size + 1, 0, none⟩ (.int .i64 0)).setCell ⟨w.heap.size + 1, 1, none⟩ (.int .i64 0)) (w.heap.size + 1) 2 (.slice none 0 0)) (by omega)
        have x213 := x208.past (grown_set ((wc.setCell ⟨w.heap.size + 1, 0, none⟩ (.int .i64 0)).setCell ⟨w.heap.size + 1, 1, none⟩ (.int .i64 0)) (w.heap.size + 1) 2 (.slice none 0 0)) (by omega)
        have o214 := o209.past4 r211 (grown_set ((wc.setCell ⟨w.heap.size + 1, 0, none⟩ (.int .i64 0)).setCell ⟨w.heap.size + 1, 1, none⟩ (.int .i64 0)) (w.heap.size + 1) 2 (.slice none 0 0))
        have hB215 := below_put hB210 (grown_set ((wc.setCell ⟨w.heap.size + 1, 0, none⟩ (.int .i64 0)).setCell ⟨w.heap.size + 1, 1, none⟩ (.int .i64 0)) (w.heap.size + 1) 2 (.slice none 0 0)) (by omega) (by have := hB210.size; omega)
        have r216 : At (((wc.setCell ⟨w.heap.size + 1, 0, none⟩ (.int .i64 0)).setCell ⟨w.heap.size + 1, 1, none⟩ (.int .i64 0)).setCell ⟨w.heap.size + 1, 2, none⟩ (.slice none 0 0)) (w.heap.size + 1) 25 #[.int .i64 0, .int .i64 0, .slice none 0 0, .bool false] := by simpa using r211.set 2 (.slice none 0 0)
        clear t207 x208 o209 hB210 r211
        have t217 := t212.past (grown_set (((wc.setCell ⟨w.heap.size + 1, 0, none⟩ (.int .i64 0)).setCell ⟨w.heap.size + 1, 1, none⟩ (.int .i64 0)).setCell ⟨w.heap.size + 1, 2, none⟩ (.slice none 0 0)) (w.heap.size + 1) 3 (.bool false)) (by omega)
        have x218 := x213.past (grown_set (((wc.setCell ⟨w.heap.size + 1, 0, none⟩ (.int .i64 0)).setCell ⟨w.heap.size + 1, 1, none⟩ (.int .i64 0)).setCell ⟨w.heap.size + 1, 2, none⟩ (.slice none 0 0)) (w.heap.size + 1) 3 (.bool false)) (by omega)
        have o219 := o214.past4 r216 (grown_set (((wc.setCell ⟨w.heap.size + 1, 0, none⟩ (.int .i64 0)).setCell ⟨w.heap.size + 1, 1, none⟩ (.int .i64 0)).setCell ⟨w.heap.size + 1, 2, none⟩ (.slice none 0 0)) (w.heap.size + 1) 3 (.bool false))
        have hB220 := below_put hB215 (grown_set (((wc.setCell ⟨w.heap.size + 1, 0, none⟩ (.int .i64 0)).setCell ⟨w.heap.size + 1, 1, none⟩ (.int .i64 0)).setCell ⟨w.heap.size + 1, 2, none⟩ (.slice none 0 0)) (w.heap.size + 1) 3 (.bool false)) (by omega) (by have := hB215.size; omega)
        have r221 : At ((((wc.setCell ⟨w.heap.size + 1, 0, none⟩ (.int .i64 0)).setCell ⟨w.heap.size + 1, 1, none⟩ (.int .i64 0)).setCell ⟨w.heap.size + 1, 2, none⟩ (.slice none 0 0)).setCell ⟨w.heap.size + 1, 3, none⟩ (.bool false)) (w.heap.size + 1) 25 #[.int .i64 0, .int .i64 0, .slice none 0 0, .bool false] := by simpa using r216.set 3 (.bool false)
        clear t212 x213 o214 hB215 r216
        go_wp2
        refine bodyPost_ret (v := .tuple #[.agg #[.int .i64 0, .int .i64 0, .slice none 0 0, .bool false], .bool false]) (by simp [results, Try.results35, go_sem, r221.cell]) rfl ?_
        exact ⟨none, 0, by rw [E.out, E2.out]; rfl, by rw [E2.out]; exact OwnM.zero _ _, hB220⟩
    by_cases k3 : k = 3
    · skip
      subst k3
      by_cases hd : s.d > 0
      · skip
        have hdd : decide (0 < s.d) = true := by simpa using hd
        rcases hb : s.b with _ | _
        · skip
          have hnb : (!s.b) = true := by rw [hb]; rfl
          have HBB := hid hb
          clear hb
          have E : Hid (stepB s 3 = true) := hid (stepB_iff.2 ⟨HOK.out, can_keep.2 ⟨HBB.out, hd⟩⟩)
          have E2 := hid (stepS_yes E.out)
          have HR := hid (show stepC s 3 = shut s s.w from rfl)
          rw [HR.out] at E2
          have HML0 := hid HOK.out.2.2.1
          have hml := HML0.out
          obtain ⟨n, hn⟩ : ∃ n, n = s.m.length - 1 := ⟨_, rfl⟩
          have hdn : s.d - 1 = (n : Int) := by omega
          have hwn : IntKind.i64.wrap (s.d - 1) = (n : Int) := by rw [hwl, hdn]
          have m1 : (0 : Int) ≤ (n : Int) := by omega
          have m2 : (n : Int) ≤ (s.m.length : Int) := by omega
          have hcc := HC.out
          have m3 : (n : Int) ≤ (c1 : Int) := by omega
          have m4 : (s.m.length : Int) ≤ (c1 : Int) := by omega
          have hn4 : n ≤ 4 := by omega
          have HT := hid (show (s.m.take n).length = n by rw [List.length_take]; omega)
          have HTn := hid (show (s.m.take n).length ≤ 4194304 by rw [HT.out]; omega)
          have HS := hid (fun (w1 : World) (hs : SeesM w1 w1.heap.size A1 s) => (show Sees w1 w1.heap.size A1 (ints (s.m.take n)) by rw [show ints (s.m.take n) = (ints s.m).take n by simp [ints]]; exact hs.marks.take n))
          have HDN := hid hdn
          have HNM := hid hn
          clear hwl
          have hdn2 := HDN.out
          clear hn hml hdn
          by_cases hd1 : s.d = 1
          · skip
            have HN0 := hid (show n = 0 by omega)
            have hz : ((n : Int) == 0) = true := by rw [beq_iff_eq]; omega
            have E3 := hid (shut_one (v := s.w) hd1)
            have HX0 := hid (show s.m.take n = [] by rw [HN0.out]; rfl)
            obtain ⟨R, hR⟩ : ∃ R : Nst, R = zeroN := ⟨_, rfl⟩
            have HRm : Hid (s.m.take n = R.m) := hid (by rw [hR, HX0.out]; rfl)
            have HRd : Hid ((n : Int) = R.d) := hid (by rw [hR, HN0.out]; rfl)
            have HRw : Hid ((0 : Int) = R.w) := hid (by rw [hR]; rfl)
            have HRb : Hid (s.b = R.b) := hid (by rw [hR]; exact HBB.out)
            rw [← hR] at E3
            rw [E3.out] at E2
            clear hR hd1 hdn2 hd
            obtain ⟨t0, t1, t2, t3, tl, tf⟩ := (⟨t7.cell 0, t7.cell 1, t7.cell 2, t7.cell 3, t7.lt, t7.frozen⟩ : _ ∧ _ ∧ _ ∧ _ ∧ _ ∧ _)
            obtain ⟨p0, p1, p2, p3, pl, pf⟩ := (⟨x8.cell 0, x8.cell 1, x8.cell 2, x8.cell 3, x8.lt, x8.frozen⟩ : _ ∧ _ ∧ _ ∧ _ ∧ _ ∧ _)
            obtain ⟨q0, q1, q2, q3, ql, qf⟩ := (⟨r9.cell 0, r9.cell 1, r9.cell 2, r9.cell 3, r9.lt, r9.frozen⟩ : _ ∧ _ ∧ _ ∧ _ ∧ _ ∧ _)
            have ne_tp : ¬ g8 = w.heap.size := by omega
            have ne_pt : ¬ w.heap.size = g8 := by omega
            have ne_tq : ¬ g8 = w.heap.size + 1 := by omega
            have ne_qt : ¬ w.heap.size + 1 = g8 := by omega
            have ne_pq : ¬ w.heap.size = w.heap.size + 1 := by omega
            have ne_qp : ¬ w.heap.size + 1 = w.heap.size := by omega
            have x222 := x8.past (grown_set wc (g8) 0 (.int .i64 (n : Int))) (by omega)
            have r223 := r9.past (grown_set wc (g8) 0 (.int .i64 (n : Int))) (by omega)
            have o224 := o10.past4 t7 (grown_set wc (g8) 0 (.int .i64 (n : Int)))
            have hB225 := below_put hB11 (grown_set wc (g8) 0 (.int .i64 (n : Int))) (by omega) (by have := hB11.size; omega)
            have t226 : At (wc.setCell ⟨g8, 0, none⟩ (.int .i64 (n : Int))) (g8) 25 #[.int .i64 (n : Int), .int .i64 s.w, .slice Aa s.m.length ca, .bool s.b] := by simpa using t7.set 0 (.int .i64 (n : Int))
            clear x8 r9 o10 hB11 t7
            go_wp2_with fail
            with_reducible refine (scopyN_len HT.out (HS.out _ (h.on hB225)) HTn.out).mono ?_
            rintro e w1 ⟨v1, rfl, ho1, hb1⟩
            obtain ⟨A1, c1, rfl, _⟩ := ho1.form
            rw [HRm.out] at ho1 ⊢
            have sz1 : wc.heap.size ≤ w1.heap.size := Nat.le_trans (by first | exact Nat.le_refl _ | (simp; done) | (simp; omega)) (hb1.size)
            have t227 := t226.below hb1 t226.lt
            have x228 := x222.below hb1 x222.lt
            have r229 := r223.below hb1 r223.lt
            have o230 := o224.below hb1
            have hB231 := hB225.trans (hb1.mono hB225.size)
            clear t226 x222 r223 o224 hB225
            clear t0 t1 t2 t3 tl tf p0 p1 p2 p3 pl pf q0 q1 q2 q3 ql qf ne_tp ne_pt ne_tq ne_qt ne_pq ne_qp
            clear o230
            have o232 : OwnM w1 w.heap.size A1 c1 R := OwnM.mono (show OwnM w1 _ A1 c1 R from ho1) (show w.heap.size ≤ _ by first | omega | (simp; omega))
            clear ho1
            obtain ⟨t0, t1, t2, t3, tl, tf⟩ := (⟨t227.cell 0, t227.cell 1, t227.cell 2, t227.cell 3, t227.lt, t227.frozen⟩ : _ ∧ _ ∧ _ ∧ _ ∧ _ ∧ _)
            obtain ⟨p0, p1, p2, p3, pl, pf⟩ := (⟨x228.cell 0, x228.cell 1, x228.cell 2, x228.cell 3, x228.lt, x228.frozen⟩ : _ ∧ _ ∧ _ ∧ _ ∧ _ ∧ _)
            obtain ⟨q0, q1, q2, q3, ql, qf⟩ := (⟨r229.cell 0, r229.cell 1, r229.cell 2, r229.cell 3, r229.lt, r229.frozen⟩ : _ ∧ _ ∧ _ ∧ _ ∧ _ ∧ _)
            have ne_tp : ¬ g8 = w.heap.size := by omega
            have ne_pt : ¬ w.heap.size = g8 := by omega
            have ne_tq : ¬ g8 = w.heap.size + 1 := by omega
            have ne_qt : ¬ w.heap.size + 1 = g8 := by omega
            have ne_pq : ¬ w.heap.size = w.heap.size + 1 := by omega
            have ne_qp : ¬ w.heap.size + 1 = w.heap.size := by omega
            have x233 := x228.past (grown_set w1 (g8) 2 (.slice A1 R.m.length c1)) (by omega)
            have r234 := r229.past (grown_set w1 (g8) 2 (.slice A1 R.m.length c1)) (by omega)
            have hB235 := below_put hB231 (grown_set w1 (g8) 2 (.slice A1 R.m.length c1)) (by omega) (by have := hB231.size; omega)
            have o236 := o232.past4 t227 (grown_set w1 (g8) 2 (.slice A1 R.m.length c1))
            have t237 : At (w1.setCell ⟨g8, 2, none⟩ (.slice A1 R.m.length c1)) (g8) 25 #[.int .i64 (n : Int), .int .i64 s.w, .slice A1 R.m.length c1, .bool s.b] := by simpa using t227.set 2 (.slice A1 R.m.length c1)
            clear x228 r229 hB231 o232 t227
            have x238 := x233.past (grown_set (w1.setCell ⟨g8, 2, none⟩ (.slice A1 R.m.length c1)) (g8) 1 (.int .i64 0)) (by omega)
            have r239 := r234.past (grown_set (w1.setCell ⟨g8, 2, none⟩ (.slice A1 R.m.length c1)) (g8) 1 (.int .i64 0)) (by omega)
            have hB240 := below_put hB235 (grown_set (w1.setCell ⟨g8, 2, none⟩ (.slice A1 R.m.length c1)) (g8) 1 (.int .i64 0)) (by omega) (by have := hB235.size; omega)
            have o241 := o236.past4 t237 (grown_set (w1.setCell ⟨g8, 2, none⟩ (.slice A1 R.m.length c1)) (g8) 1 (.int .i64 0))
            have t242 : At ((w1.setCell ⟨g8, 2, none⟩ (.slice A1 R.m.length c1)).setCell ⟨g8, 1, none⟩ (.int .i64 0)) (g8) 25 #[.int .i64 (n : Int), .int .i64 0, .slice A1 R.m.length c1, .bool s.b] := by simpa using t237.set 1 (.int .i64 0)
            clear x233 r234 hB235 o236 t237
            obtain ⟨t0, t1, t2, t3, tl, tf⟩ := (⟨t242.cell 0, t242.cell 1, t242.cell 2, t242.cell 3, t242.lt, t242.frozen⟩ : _ ∧ _ ∧ _ ∧ _ ∧ _ ∧ _)
            obtain ⟨p0, p1, p2, p3, pl, pf⟩ := (⟨x238.cell 0, x238.cell 1, x238.cell 2, x238.cell 3, x238.lt, x238.frozen⟩ : _ ∧ _ ∧ _ ∧ _ ∧ _ ∧ _)
            obtain ⟨q0, q1, q2, q3, ql, qf⟩ := (⟨r239.cell 0, r239.cell 1, r239.cell 2, r239.cell 3, r239.lt, r239.frozen⟩ : _ ∧ _ ∧ _ ∧ _ ∧ _ ∧ _)
            have ne_tp : ¬ g8 = w.heap.size := by omega
            have ne_pt : ¬ w.heap.size = g8 := by omega
            have ne_tq : ¬ g8 = w.heap.size + 1 := by omega
            have ne_qt : ¬ w.heap.size + 1 = g8 := by omega
            have ne_pq : ¬ w.heap.size = w.heap.size + 1 := by omega
            have ne_qp : ¬ w.heap.size + 1 = w.heap.size := by omega
            have t243 := t242.past (grown_set ((w1.setCell ⟨g8, 2, none⟩ (.slice A1 R.m.length c1)).setCell ⟨g8, 1, none⟩ (.int .i64 0)) (w.heap.size + 1) 0 (.int .i64 (n : Int))) (by omega)
            have x244 := x238.past (grown_set ((w1.setCell ⟨g8, 2, none⟩ (.slice A1 R.m.length c1)).setCell ⟨g8, 1, none⟩ (.int .i64 0)) (w.heap.size + 1) 0 (.int .i64 (n : Int))) (by omega)
            have hB245 := below_put hB240 (grown_set ((w1.setCell ⟨g8, 2, none⟩ (.slice A1 R.m.length c1)).setCell ⟨g8, 1, none⟩ (.int .i64 0)) (w.heap.size + 1) 0 (.int .i64 (n : Int))) (by omega) (by have := hB240.size; omega)
            have o246 := o241.past4 r239 (grown_set ((w1.setCell ⟨g8, 2, none⟩ (.slice A1 R.m.length c1)).setCell ⟨g8, 1, none⟩ (.int .i64 0)) (w.heap.size + 1) 0 (.int .i64 (n : Int)))
            have r247 : At (((w1.setCell ⟨g8, 2, none⟩ (.slice A1 R.m.length c1)).setCell ⟨g8, 1, none⟩ (.int .i64 0)).setCell ⟨w.heap.size + 1, 0, none⟩ (.int .i64 (n : Int))) (w.heap.size + 1) 25 #[.int .i64 (n : Int), .int .i64 0, .slice none 0 0, .bool false] := by simpa using r239.set 0 (.int .i64 (n : Int))
            clear t242 x238 hB240 o241 r239
            have t248 := t243.past (grown_set (((w1.setCell ⟨g8, 2, none⟩ (.slice A1 R.m.length c1)).setCell ⟨g8, 1, none⟩ (.int .i64 0)).setCell ⟨w.heap.size + 1, 0, none⟩ (.int .i64 (n : Int))) (w.heap.size + 1) 1 (.int .i64 0)) (by omega)
            have x249 := x244.past (grown_set (((w1.setCell ⟨g8, 2, none⟩ (.slice A1 R.m.length c1)).setCell ⟨g8, 1, none⟩ (.int .i64 0)).setCell ⟨w.heap.size + 1, 0, none⟩ (.int .i64 (n : Int))) (w.heap.size + 1) 1 (.int .i64 0)) (by omega)
            have hB250 := below_put hB245 (grown_set (((w1.setCell ⟨g8, 2, none⟩ (.slice A1 R.m.length c1)).setCell ⟨g8, 1, none⟩ (.int .i64 0)).setCell ⟨w.heap.size + 1, 0, none⟩ (.int .i64 (n : Int))) (w.heap.size + 1) 1 (.int .i64 0)) (by omega) (by have := hB245.size; omega)
            have o251 := o246.past4 r247 (grown_set (((w1.setCell ⟨g8, 2, none⟩ (.slice A1 R.m.length c1)).setCell ⟨g8, 1, none⟩ (.int .i64 0)).setCell ⟨w.heap.size + 1, 0, none⟩ (.int .i64 (n : Int))) (w.heap.size + 1) 1 (.int .i64 0))
            have r252 : At ((((w1.setCell ⟨g8, 2, none⟩ (.slice A1 R.m.length c1)).setCell ⟨g8, 1, none⟩ (.int .i64 0)).setCell ⟨w.heap.size + 1, 0, none⟩ (.int .i64 (n : Int))).setCell ⟨w.heap.size + 1, 1, none⟩ (.int .i64 0)) (w.heap.size + 1) 25 #[.int .i64 (n : Int), .int .i64 0, .slice none 0 0, .bool false] := by simpa using r247.set 1 (.int .i64 0)
            clear t243 x244 hB245 o246 r247
            have t253 := t248.past (grown_set ((((w1.setCell ⟨g8, 2, none⟩ (.slice A1 R.m.length c1)).setCell ⟨g8, 1, none⟩ (.int .i64 0)).setCell ⟨w.heap.size + 1, 0, none⟩ (.int .i64 (n : Int))).setCell ⟨w.heap.size + 1, 1, none⟩ (.int .i64 0)) (w.heap.size + 1) 2 (.slice A1 R.m.length c1)) (by omega)
            have x254 := x249.past (grown_set ((((w1.setCell ⟨g8, 2, none⟩ (.slice A1 R.m.length c1)).setCell ⟨g8, 1, none⟩ (.int .i64 0)).setCell ⟨w.heap.size + 1, 0, none⟩ (.int .i64 (n : Int))).setCell ⟨w.heap.size + 1, 1, none⟩ (.int .i64 0)) (w.heap.size + 1) 2 (.slice A1 R.m.length c1)) (by omega)
            have hB255 := below_put hB250 (grown_set ((((w1.setCell ⟨g8, 2, none⟩ (.slice A1 R.m.length c1)).setCell ⟨g8, 1, none⟩ (.int .i64 0)).setCell ⟨w.heap.size + 1, 0, none⟩ (.int .i64 (n : Int))).setCell ⟨w.heap.size + 1, 1, none⟩ (.int .i64 0)) (w.heap.size + 1) 2 (.slice A1 R.m.length c1)) (by omega) (by have := hB250.size; omega)
            have o256 := o251.past4 r252 (grown_set ((((w1.setCell ⟨g8, 2, none⟩ (.slice A1 R.m.length c1)).setCell ⟨g8, 1, none⟩ (.int .i64 0)).setCell ⟨w.heap.size + 1, 0, none⟩ (.int .i64 (n : Int))).setCell ⟨w.heap.size + 1, 1, none⟩ (.int .i64 0)) (w.heap.size + 1) 2 (.slice A1 R.m.length c1))
            have r257 : At (((((w1.setCell ⟨g8, 2, none⟩ (.slice A1 R.m.length c1)).setCell ⟨g8, 1, none⟩ (.int .i64 0)).setCell ⟨w.heap.size + 1, 0, none⟩ (.int .i64 (n : Int))).setCell ⟨w.heap.size + 1, 1, none⟩ (.int .i64 0)).setCell ⟨w.heap.size + 1, 2, none⟩ (.slice A1 R.m.length c1)) (w.heap.size + 1) 25 #[.int .i64 (n : Int), .int .i64 0, .slice A1 R.m.length c1, .bool false] := by simpa using r252.set 2 (.slice A1 R.m.length c1)
            clear t248 x249 hB250 o251 r252
            have t258 := t253.past (grown_set (((((w1.setCell ⟨g8, 2, none⟩ (.slice A1 R.m.length c1)).setCell ⟨g8, 1, none⟩ (.int .i64 0)).setCell ⟨w.heap.size + 1, 0, none⟩ (.int .i64 (n : Int))).setCell ⟨w.heap.size + 1, 1, none⟩ (.int .i64 0)).setCell ⟨w.heap.size + 1, 2, none⟩ (.slice A1 R.m.length c1)) (w.heap.size + 1) 3 (.bool s.b)) (by omega)
            have x259 := x254.past (grown_set (((((w1.setCell ⟨g8, 2, none⟩ (.slice A1 R.m.length c1)).setCell ⟨g8, 1, none⟩ (.int .i64 0)).setCell ⟨w.heap.size + 1, 0, none⟩ (.int .i64 (n : Int))).setCell ⟨w.heap.size + 1, 1, none⟩ (.int .i64 0)).setCell ⟨w.heap.size + 1, 2, none⟩ (.slice A1 R.m.length c1)) (w.heap.size + 1) 3 (.bool s.b)) (by omega)
            have hB260 := below_put hB255 (grown_set (((((w1.setCell ⟨g8, 2, none⟩ (.slice A1 R.m.length c1)).setCell ⟨g8, 1, none⟩ (.int .i64 0)).setCell ⟨w.heap.size + 1, 0, none⟩ (.int .i64 (n : Int))).setCell ⟨w.heap.size + 1, 1, none⟩ (.int .i64 0)).setCell ⟨w.heap.size + 1, 2, none⟩ (.slice A1 R.m.length c1)) (w.heap.size + 1) 3 (.bool s.b)) (by omega) (by have := hB255.size; omega)
            have o261 := o256.past4 r257 (grown_set (((((w1.setCell ⟨g8, 2, none⟩ (.slice A1 R.m.length c1)).setCell ⟨g8, 1, none⟩ (.int .i64 0)).setCell ⟨w.heap.size + 1, 0, none⟩ (.int .i64 (n : Int))).setCell ⟨w.heap.size + 1, 1, none⟩ (.int .i64 0)).setCell ⟨w.heap.size + 1, 2, none⟩ (.slice A1 R.m.length c1)) (w.heap.size + 1) 3 (.bool s.b))
            have r262 : At ((((((w1.setCell ⟨g8, 2, none⟩ (.slice A1 R.m.length c1)).setCell ⟨g8, 1, none⟩ (.int .i64 0)).setCell ⟨w.heap.size + 1, 0, none⟩ (.int .i64 (n : Int))).setCell ⟨w.heap.size + 1, 1, none⟩ (.int .i64 0)).setCell ⟨w.heap.size + 1, 2, none⟩ (.slice A1 R.m.length c1)).setCell ⟨w.heap.size + 1, 3, none⟩ (.bool s.b)) (w.heap.size + 1) 25 #[.int .i64 (n : Int), .int .i64 0, .slice A1 R.m.length c1, .bool s.b] := by simpa using r257.set 3 (.bool s.b)
            clear t253 x254 hB255 o256 r257
            go_wp2
            refine bodyPost_ret (v := .tuple #[.agg #[.int .i64 (n : Int), .int .i64 0, .slice A1 R.m.length c1, .bool s.b], .bool true]) (by simp [results, Try.results35, go_sem, r262.cell]) rfl ?_
            exact ⟨A1, c1, by rw [E.out, E2.out, ← HRd.out, ← HRw.out, ← HRb.out], by rw [E2.out]; exact o261, hB260⟩
          · skip
            have hz : ((n : Int) == 0) = false := beq_eq_false_iff_ne.2 (by omega)
            have E3 := hid (shut_more (v := s.w) hd1)
            rw [HDN.out, ← HNM.out] at E3
            obtain ⟨R, hR⟩ : ∃ R : Nst, R = ⟨(n : Int), s.w, s.m.take n, false⟩ := ⟨_, rfl⟩
            have HRm : Hid (s.m.take n = R.m) := hid (by rw [hR])
            have HRd : Hid ((n : Int) = R.d) := hid (by rw [hR])
            have HRw : Hid (s.w = R.w) := hid (by rw [hR])
            have HRb : Hid (s.b = R.b) := hid (by rw [hR]; exact HBB.out)
            rw [← hR] at E3
            rw [E3.out] at E2
            clear hR hd1 hdn2 hd
            obtain ⟨t0, t1, t2, t3, tl, tf⟩ := (⟨t7.cell 0, t7.cell 1, t7.cell 2, t7.cell 3, t7.lt, t7.frozen⟩ : _ ∧ _ ∧ _ ∧ _ ∧ _ ∧ _)
            obtain ⟨p0, p1, p2, p3, pl, pf⟩ := (⟨x8.cell 0, x8.cell 1, x8.cell 2, x8.cell 3, x8.lt, x8.frozen⟩ : _ ∧ _ ∧ _ ∧ _ ∧ _ ∧ _)
            obtain ⟨q0, q1, q2, q3, ql, qf⟩ := (⟨r9.cell 0, r9.cell 1, r9.cell 2, r9.cell 3, r9.lt, r9.frozen⟩ : _ ∧ _ ∧ _ ∧ _ ∧ _ ∧ _)
            have ne_tp : ¬ g8 = w.heap.size := by omega
            have ne_pt : ¬ w.heap.size = g8 := by omega
            have ne_tq : ¬ g8 = w.heap.size + 1 := by omega
            have ne_qt : ¬ w.heap.size + 1 = g8 := by omega
            have ne_pq : ¬ w.heap.size = w.heap.size + 1 := by omega
            have ne_qp : ¬ w.heap.size + 1 = w.heap.size := by omega
            have x263 := x8.past (grown_set wc (g8) 0 (.int .i64 (n : Int))) (by omega)
            have r264 := r9.past (grown_set wc (g8) 0 (.int .i64 (n : Int))) (by omega)
            have o265 := o10.past4 t7 (grown_set wc (g8) 0 (.int .i64 (n : Int)))
            have hB266 := below_put hB11 (grown_set wc (g8) 0 (.int .i64 (n : Int))) (by omega) (by have := hB11.size; omega)
            have t267 : At (wc.setCell ⟨g8, 0, none⟩ (.int .i64 (n : Int))) (g8) 25 #[.int .i64 (n : Int), .int .i64 s.w, .slice Aa s.m.length ca, .bool s.b] := by simpa using t7.set 0 (.int .i64 (n : Int))
            clear x8 r9 o10 hB11 t7
            go_wp2_with fail
            with_reducible refine (scopyN_len HT.out (HS.out _ (h.on hB266)) HTn.out).mono ?_
            rintro e w1 ⟨v1, rfl, ho1, hb1⟩
            obtain ⟨A1, c1, rfl, _⟩ := ho1.form
            rw [HRm.out] at ho1 ⊢
            have sz1 : wc.heap.size ≤ w1.heap.size := Nat.le_trans (by first | exact Nat.le_refl _ | (simp; done) | (simp; omega)) (hb1.size)
            have t268 := t267.below hb1 t267.lt
            have x269 := x263.below hb1 x263.lt
            have r270 := r264.below hb1 r264.lt
            have o271 := o265.below hb1
            have hB272 := hB266.trans (hb1.mono hB266.size)
            clear t267 x263 r264 o265 hB266
            clear t0 t1 t2 t3 tl tf p0 p1 p2 p3 pl pf q0 q1 q2 q3 ql qf ne_tp ne_pt ne_tq ne_qt ne_pq ne_qp
            clear o271
            have o273 : OwnM w1 w.heap.size A1 c1 R := OwnM.mono (show OwnM w1 _ A1 c1 R from ho1) (show w.heap.size ≤ _ by first | omega | (simp; omega))
            clear ho1
            obtain ⟨t0, t1, t2, t3, tl, tf⟩ := (⟨t268.cell 0, t268.cell 1, t268.cell 2, t268.cell 3, t268.lt, t268.frozen⟩ : _ ∧ _ ∧ _ ∧ _ ∧ _ ∧ _)
            obtain ⟨p0, p1, p2, p3, pl, pf⟩ := (⟨x269.cell 0, x269.cell 1, x269.cell 2, x269.cell 3, x269.lt, x269.frozen⟩ : _ ∧ _ ∧ _ ∧ _ ∧ _ ∧ _)
            obtain ⟨q0, q1, q2, q3, ql, qf⟩ := (⟨r270.cell 0, r270.cell 1, r270.cell 2, r270.cell 3, r270.lt, r270.frozen⟩ : _ ∧ _ ∧ _ ∧ _ ∧ _ ∧ _)
            have ne_tp : ¬ g8 = w.heap.size := by omega
            have ne_pt : ¬ w.heap.size = g8 := by omega
            have ne_tq : ¬ g8 = w.heap.size + 1 := by omega
            have ne_qt : ¬ w.heap.size + 1 = g8 := by omega
            have ne_pq : ¬ w.heap.size = w.heap.size + 1 := by omega
            have ne_qp : ¬ w.heap.size + 1 = w.heap.size := by omega
            have x274 := x269.past (grown_set w1 (g8) 2 (.slice A1 R.m.length c1)) (by omega)
            have r275 := r270.past (grown_set w1 (g8) 2 (.slice A1 R.m.length c1)) (by omega)
            have hB276 := below_put hB272 (grown_set w1 (g8) 2 (.slice A1 R.m.length c1)) (by omega) (by have := hB272.size; omega)
            have o277 := o273.past4 t268 (grown_set w1 (g8) 2 (.slice A1 R.m.length c1))
            have t278 : At (w1.setCell ⟨g8, 2, none⟩ (.slice A1 R.m.length c1)) (g8) 25 #[.int .i64 (n : Int), .int .i64 s.w, .slice A1 R.m.length c1, .bool s.b] := by simpa using t268.set 2 (.slice A1 R.m.length c1)
            clear x269 r270 hB272 o273 t268
            obtain ⟨t0, t1, t2, t3, tl, tf⟩ := (⟨t278.cell 0, t278.cell 1, t278.cell 2, t278.cell 3, t278.lt, t278.frozen⟩ : _ ∧ _ ∧ _ ∧ _ ∧ _ ∧ _)
            obtain ⟨p0, p1, p2, p3, pl, pf⟩ := (⟨x274.cell 0, x274.cell 1, x274.cell 2, x274.cell 3, x274.lt, x274.frozen⟩ : _ ∧ _ ∧ _ ∧ _ ∧ _ ∧ _)
            obtain ⟨q0, q1, q2, q3, ql, qf⟩ := (⟨r275.cell 0, r275.cell 1, r275.cell 2, r275.cell 3, r275.lt, r275.frozen⟩ : _ ∧ _ ∧ _ ∧ _ ∧ _ ∧ _)
            have ne_tp : ¬ g8 = w.heap.size := by omega
            have ne_pt : ¬ w.heap.size = g8 := by omega
            have ne_tq : ¬ g8 = w.heap.size + 1 := by omega
            have ne_qt : ¬ w.heap.size + 1 = g8 := by omega
            have ne_pq : ¬ w.heap.size = w.heap.size + 1 := by omega
            have ne_qp : ¬ w.heap.size + 1 = w.heap.size := by omega
            have t279 := t278.past (grown_set (w1.setCell ⟨g8, 2, none⟩ (.slice A1 R.m.length c1)) (w.heap.size + 1) 0 (.int .i64 (n : Int))) (by omega)
            have x280 := x274.past (grown_set (w1.setCell ⟨g8, 2, none⟩ (.slice A1 R.m.length c1)) (w.heap.size + 1) 0 (.int .i64 (n : Int))) (by omega)
            have hB281 := below_put hB276 (grown_set (w1.setCell ⟨g8, 2, none⟩ (.slice A1 R.m.length c1)) (w.heap.size + 1) 0 (.int .i64 (n : Int))) (by omega) (by have := hB276.size; omega)
            have o282 := o277.past4 r275 (grown_set (w1.setCell ⟨g8, 2, none⟩ (.slice A1 R.m.length c1)) (w.heap.size + 1) 0 (.int .i64 (n : Int)))
            have r283 : At ((w1.setCell ⟨g8, 2, none⟩ (.slice A1 R.m.length c1)).setCell ⟨w.heap.size + 1, 0, none⟩ (.int .i64 (n : Int))) (w.heap.size + 1) 25 #[.int .i64 (n : Int), .int .i64 0, .slice none 0 0, .bool false] := by simpa using r275.set 0 (.int .i64 (n : Int))
            clear t278 x274 hB276 o277 r275
            have t284 := t279.past (grown_set ((w1.setCell ⟨g8, 2, none⟩ (.slice A1 R.m.length c1)).setCell ⟨w.heap.size + 1, 0, none⟩ (.int .i64 (n : Int))) (w.heap.size + 1) 1 (.int .i64 s.w)) (by omega)
            have x285 := x280.past (grown_set ((w1.setCell ⟨g8, 2, none⟩ (.slice A1 R.m.length c1)).setCell ⟨w.heap.size + 1, 0, none⟩ (.int .i64 (n : Int))) (w.heap.size + 1) 1 (.int .i64 s.w)) (by omega)
            have hB286 := below_put hB281 (grown_set ((w1.setCell ⟨g8, 2, none⟩ (.slice A1 R.m.length c1)).setCell ⟨w.heap.size + 1, 0, none⟩ (.int .i64 (n : Int))) (w.heap.size + 1) 1 (.int .i64 s.w)) (by omega) (by have := hB281.size; omega)
            have o287 := o282.past4 r283 (grown_set ((w1.setCell ⟨g8, 2, none⟩ (.slice A1 R.m.length c1)).setCell ⟨w.heap.size + 1, 0, none⟩ (.int .i64 (n : Int))) (w.heap.size + 1) 1 (.int .i64 s.w))
            have r288 : At (((w1.setCell ⟨g8, 2, none⟩ (.slice A1 R.m.length c1)).setCell ⟨w.heap.size + 1, 0, none⟩ (.int .i64 (n : Int))).setCell ⟨w.heap.size + 1, 1, none⟩ (.int .i64 s.w)) (w.heap.size + 1) 25 #[.int .i64 (n : Int), .int .i64 s.w, .slice none 0 0, .bool false] := by simpa using r283.set 1 (.int .i64 s.w)
            clear t279 x280 hB281 o282 r283
            have t289 := t284.past (grown_set (((w1.setCell ⟨g8, 2, none⟩ (.slice A1 R.m.length c1)).setCell ⟨w.heap.size + 1, 0, none⟩ (.int .i64 (n : Int))).setCell ⟨w.heap.size + 1, 1, none⟩ (.int .i64 s.w)) (w.heap.size + 1) 2 (.slice A1 R.m.length c1)) (by omega)
            have x290 := x285.past (grown_set (((w1.setCell ⟨g8, 2, none⟩ (.slice A1 R.m.length c1)).setCell ⟨w.heap.size + 1, 0, none⟩ (.int .i64 (n : Int))).setCell ⟨w.heap.size + 1, 1, none⟩ (.int .i64 s.w)) (w.heap.size + 1) 2 (.slice A1 R.m.length c1)) (by omega)
            have hB291 := below_put hB286 (grown_set (((w1.setCell ⟨g8, 2, none⟩ (.slice A1 R.m.length c1)).setCell ⟨w.heap.size + 1, 0, none⟩ (.int .i64 (n : Int))).setCell ⟨w.heap.size + 1, 1, none⟩ (.int .i64 s.w)) (w.heap.size + 1) 2 (.slice A1 R.m.length c1)) (by omega) (by have := hB286.size; omega)
            have o292 := o287.past4 r288 (grown_set (((w1.setCell ⟨g8, 2, none⟩ (.slice A1 R.m.length c1)).setCell ⟨w.heap.size + 1, 0, none⟩ (.int .i64 (n : Int))).setCell ⟨w.heap.size + 1, 1, none⟩ (.int .i64 s.w)) (w.heap.size + 1) 2 (.slice A1 R.m.length c1))
            have r293 : At ((((w1.setCell ⟨g8, 2, none⟩ (.slice A1 R.m.length c1)).setCell ⟨w.heap.size + 1, 0, none⟩ (.int .i64 (n : Int))).setCell ⟨w.heap.size + 1, 1, none⟩ (.int .i64 s.w)).setCell ⟨w.heap.size + 1, 2, none⟩ (.slice A1 R.m.length c1)) (w.heap.size + 1) 25 #[.int .i64 (n : Int), .int .i64 s.w, .slice A1 R.m.length c1, .bool false] := by simpa using r288.set 2 (.slice A1 R.m.length c1)
            clear t284 x285 hB286 o287 r288
            have t294 := t289.past (grown_set ((((w1.setCell ⟨g8, 2, none⟩ (.slice A1 R.m.length c1)).setCell ⟨w.heap.size + 1, 0, none⟩ (.int .i64 (n : Int))).setCell ⟨w.heap.size + 1, 1, none⟩ (.int .i64 s.w)).setCell ⟨w.heap.size + 1, 2, none⟩ (.slice A1 R.m.length c1)) (w.heap.size + 1) 3 (.bool s.b)) (by omega)
            have x295 := x290.past (grown_set ((((w1.setCell ⟨g8, 2, none⟩ (.slice A1 R.m.length c1)).setCell ⟨w.heap.size + 1, 0, none⟩ (.int .i64 (n : Int))).setCell ⟨w.heap.size + 1, 1, none⟩ (.int .i64 s.w)).setCell ⟨w.heap.size + 1, 2, none⟩ (.slice A1 R.m.length c1)) (w.heap.size + 1) 3 (.bool s.b)) (by omega)
            have hB296 := below_put hB291 (grown_set ((((w1.setCell ⟨g8, 2, none⟩ (.slice A1 R.m.length c1)).setCell ⟨w.heap.size + 1, 0, none⟩ (.int .i64 (n : Int))).setCell ⟨w.heap.size + 1, 1, none⟩ (.int .i64 s.w)).setCell ⟨w.heap.size + 1, 2, none⟩ (.slice A1 R.m.length c1)) (w.heap.size + 1) 3 (.bool s.b)) (by omega) (by have := hB291.size; omega)
            have o297 := o292.past4 r293 (grown_set ((((w1.setCell ⟨g8, 2, none⟩ (.slice A1 R.m.length c1)).setCell ⟨w.heap.size + 1, 0, none⟩ (.int .i64 (n : Int))).setCell ⟨w.heap.size + 1, 1, none⟩ (.int .i64 s.w)).setCell ⟨w.heap.size + 1, 2, none⟩ (.slice A1 R.m.length c1)) (w.heap.size + 1) 3 (.bool s.b))
            have r298 : At (((((w1.setCell ⟨g8, 2, none⟩ (.slice A1 R.m.length c1)).setCell ⟨w.heap.size + 1, 0, none⟩ (.int .i64 (n : Int))).setCell ⟨w.heap.size + 1, 1, none⟩ (.int .i64 s.w)).setCell ⟨w.heap.size + 1, 2, none⟩ (.slice A1 R.m.length c1)).setCell ⟨w.heap.size + 1, 3, none⟩ (.bool s.b)) (w.heap.size + 1) 25 #[.int .i64 (n : Int), .int .i64 s.w, .slice A1 R.m.length c1, .bool s.b] := by simpa using r293.set 3 (.bool s.b)
            clear t289 x290 hB291 o292 r293
            go_wp2
            refine bodyPost_ret (v := .tuple #[.agg #[.int .i64 (n : Int), .int .i64 s.w, .slice A1 R.m.length c1, .bool s.b], .bool true]) (by simp [results, Try.results35, go_sem, r298.cell]) rfl ?_
            exact ⟨A1, c1, by rw [E.out, E2.out, ← HRd.out, ← HRw.out, ← HRb.out], by rw [E2.out]; exact o297, hB296⟩
        · skip
          have hnb : (!s.b) = false := by rw [hb]; rfl
          have HBB := hid hb
          clear hb
          have E : Hid (stepB s 3 = false) := hid (Bool.eq_false_iff.2 fun e => by have hc := (stepB_iff.1 e).2; have := (can_keep.1 hc).1; rw [HBB.out] at this; cases this)
          have E2 := hid (stepS_no E.out)
          obtain ⟨t0, t1, t2, t3, tl, tf⟩ := (⟨t7.cell 0, t7.cell 1, t7.cell 2, t7.cell 3, t7.lt, t7.frozen⟩ : _ ∧ _ ∧ _ ∧ _ ∧ _ ∧ _)
          obtain ⟨p0, p1, p2, p3, pl, pf⟩ := (⟨x8.cell 0, x8.cell 1, x8.cell 2, x8.cell 3, x8.lt, x8.frozen⟩ : _ ∧ _ ∧ _ ∧ _ ∧ _ ∧ _)
          obtain ⟨q0, q1, q2, q3, ql, qf⟩ := (⟨r9.cell 0, r9.cell 1, r9.cell 2, r9.cell 3, r9.lt, r9.frozen⟩ : _ ∧ _ ∧ _ ∧ _ ∧ _ ∧ _)
          have ne_tp : ¬ g8 = w.heap.size := by omega
          have ne_pt : ¬ w.heap.size = g8 := by omega
          have ne_tq : ¬ g8 = w.heap.size + 1 := by omega
          have ne_qt : ¬ w.heap.size + 1 = g8 := by omega
          have ne_pq : ¬ w.heap.size = w.heap.size + 1 := by omega
          have ne_qp : ¬ w.heap.size + 1 = w.heap.size := by omega
          have t299 := t7.past (grown_set wc (w.heap.size + 1) 0 (.int .i64 0)) (by omega)
          have x300 := x8.past (grown_set wc (w.heap.size + 1) 0 (.int .i64 0)) (by omega)
          have o301 := o10.past4 r9 (grown_set wc (w.heap.size + 1) 0 (.int .i64 0))
          have hB302 := below_put hB11 (grown_set wc (w.heap.size + 1) 0 (.int .i64 0)) (by omega) (by have := hB11.size; omega)
          have r303 : At (wc.setCell ⟨w.heap.size + 1, 0, none⟩ (.int .i64 0)) (w.heap.size + 1) 25 #[.int .i64 0, .int .i64 0, .slice none 0 0, .bool false] := by simpa using r9.set 0 (.int .i64 0)
          clear t7 x8 o10 hB11 r9
          have t304 := t299.past (grown_set (wc.setCell ⟨w.heap.size + 1, 0, none⟩ (.int .i64 0)) (w.heap.size + 1) 1 (.int .i64 0)) (by omega)
          have x305 := x300.past (grown_set (wc.setCell ⟨w.heap.size + 1, 0, none⟩ (.int .i64 0)) (w.heap.size + 1) 1 (.int .i64 0)) (by omega)
          have o306 := o301.past4 r303 (grown_set (wc.setCell ⟨w.heap.size + 1, 0, none⟩ (.int .i64 0)) (w.heap.size + 1) 1 (.int .i64 0))
          have hB307 := below_put hB302 (grown_set (wc.setCell ⟨w.heap.size + 1, 0, none⟩ (.int .i64 0)) (w.heap.size + 1) 1 (.int .i64 0)) (by omega) (by have := hB302.size; omega)
          have r308 : At ((wc.setCell ⟨w.heap.size + 1, 0, none⟩ (.int .i64 0)).setCell ⟨w.heap.size + 1, 1, none⟩ (.int .i64 0)) (w.heap.size + 1) 25 #[.int .i64 0, .int .i64 0, .slice none 0 0, .bool false] := by simpa using r303.set 1 (.int .i64 0)
          clear t299 x300 o301 hB302 r303
          have t309 := t304.past (grown_set ((wc.setCell ⟨w.heap.size + 1, 0, none⟩ (.int .i64 0)).setCell ⟨w.heap.size + 1, 1, none⟩ (.int .i64 0)) (w.heap.size + 1) 2 (.slice none 0 0)) (by omega)
          have x310 := x305.past (grown_set ((wc.setCell ⟨w.heap.size + 1, 0, none⟩ (.int .i64 0)).setCell ⟨w.heap.size + 1, 1, none⟩ (.int .i64 0)) (w.heap.size + 1) 2 (.slice none 0 0)) (by omega)
          have o311 := o306.past4 r308 (grown_set ((wc.setCell ⟨w.heap.size + 1, 0, none⟩ (.int .i64 0)).setCell ⟨w.heap.size + 1, 1, none⟩ (.int .i64 0)) (w.heap.size + 1) 2 (.slice none 0 0))
          have hB312 := below_put hB307 (grown_set ((wc.setCell ⟨w.heap.size + 1, 0, none⟩ (.int .i64 0)).setCell ⟨w.heap.size + 1, 1, none⟩ (.int .i64 0)) (w.heap.size + 1) 2 (.slice none 0 0)) (by omega) (by have := hB307.size; omega)
          have r313 : At (((wc.setCell ⟨w.heap.size + 1, 0, none⟩ (.int .i64 0)).setCell ⟨w.heap.size + 1, 1, none⟩ (.int .i64 0)).setCell ⟨w.heap.size + 1, 2, none⟩ (.slice none 0 0)) (w.heap.size + 1) 25 #[.int .i64 0, .int .i64 0, .slice none 0 0, .bool false] := by simpa using r308.set 2 (.slice none 0 0)
          clear t304 x305 o306 hB307 r308
          have t314 := t309.past (grown_set (((wc.setCell ⟨w.heap.size + 1, 0, none⟩ (.int .i64 0)).setCell ⟨w.heap.size + 1, 1, none⟩ (.int .i64 0)).setCell ⟨w.heap.size + 1, 2, none⟩ (.slice none 0 0)) (w.heap.size + 1) 3 (.bool false)) (by omega)
          have x315 := x310.past (grown_set (((wc.setCell ⟨w.heap.size + 1, 0, none⟩ (.int .i64 0)).setCell ⟨w.heap.size + 1, 1, none⟩ (.int .i64 0)).setCell ⟨w.heap.size + 1, 2, none⟩ (.slice none 0 0)) (w.heap.size + 1) 3 (.bool false)) (by omega)
          have o316 := o311.past4 r313 (grown_set (((wc.setCell ⟨w.heap.size + 1, 0, none⟩ (.int .i64 0)).setCell ⟨w.heap.size + 1, 1, none⟩ (.int .i64 0)).setCell ⟨w.heap.size + 1, 2, none⟩ (.slice none 0 0)) (w.heap.size + 1) 3 (.bool false))
          have hB317 := below_put hB312 (grown_set (((wc.setCell ⟨w.heap.size + 1, 0, none⟩ (.int .i64 0)).setCell ⟨w.heap.size + 1, 1, none⟩ (.int .i64 0)).setCell ⟨w.heap.size + 1, 2, none⟩ (.slice none 0 0)) (w.heap.size + 1) 3 (.bool false)) (by omega) (by have := hB312.size; omega)
          have r318 : At ((((wc.setCell ⟨w.heap.size + 1, 0, none⟩ (.int .i64 0)).setCell ⟨w.heap.size + 1, 1, none⟩ (.int .i64 0)).setCell ⟨w.heap.size + 1, 2, none⟩ (.slice none 0 0)).setCell ⟨w.heap.size + 1, 3, none⟩ (.bool false)) (w.heap.size + 1) 25 #[.int .i64 0, .int .i64 0, .slice none 0 0, .bool false] := by simpa using r313.set 3 (.bool false)
          clear t309 x310 o311 hB312 r313
          go_wp2
          refine bodyPost_ret (v := .tuple #[.agg #[.int .i64 0, .int .i64 0, .slice none 0 0, .bool false], .bool false]) (by simp [results, Try.results35, go_sem, r318.cell]) rfl ?_
          exact ⟨none, 0, by rw [E.out, E2.out]; rfl, by rw [E2.out]; exact OwnM.zero _ _, hB317⟩
      · skip
        have hdd : decide (0 < s.d) = false := by simpa using hd
        have E : Hid (stepB s 3 = false) := hid (Bool.eq_false_iff.2 fun e => by have hc := (stepB_iff.1 e).2; have := (can_keep.1 hc).2; omega)
        have E2 := hid (stepS_no E.out)
        obtain ⟨t0, t1, t2, t3, tl, tf⟩ := (⟨t7.cell 0, t7.cell 1, t7.cell 2, t7.cell 3, t7.lt, t7.frozen⟩ : _ ∧ _ ∧ _ ∧ _ ∧ _ ∧ _)
        obtain ⟨p0, p1, p2, p3, pl, pf⟩ := (⟨x8.cell 0, x8.cell 1, x8.cell 2, x8.cell 3, x8.lt, x8.frozen⟩ : _ ∧ _ ∧ _ ∧ _ ∧ _ ∧ _)
        obtain ⟨q0, q1, q2, q3, ql, qf⟩ := (⟨r9.cell 0, r9.cell 1, r9.cell 2, r9.cell 3, r9.lt, r9.frozen⟩ : _ ∧ _ ∧ _ ∧ _ ∧ _ ∧ _)
        have ne_tp : ¬ g8 = w.heap.size := by omega
        have ne_pt : ¬ w.heap.size = g8 := by omega
        have ne_tq : ¬ g8 = w.heap.size + 1 := by omega
        have ne_qt : ¬ w.heap.size + 1 = g8 := by omega
        have ne_pq : ¬ w.heap.size = w.heap.size + 1 := by omega
        have ne_qp : ¬ w.heap.size + 1 = w.heap.size := by omega
        have t319 := t7.past (grown_set wc (w.heap.size + 1) 0 (.int .i64 0)) (by omega)
        have x320 := x8.past (grown_set wc (w.heap.size + 1) 0 (.int .i64 0)) (by omega)
        have o321 := o10.past4 r9 (grown_set wc (w.heap.size + 1) 0 (.int .i64 0))
        have hB322 := below_put hB11 (grown_set wc (w.heap.size + 1) 0 (.int .i64 0)) (by omega) (by have := hB11.size; omega)
        have r323 : At (wc.setCell ⟨w.heap.size + 1, 0, none⟩ (.int .i64 0)) (w.heap.size + 1) 25 #[.int .i64 0, .int .i64 0, .slice none 0 0, .bool false] := by simpa using r9.set 0 (.int .i64 0)
        clear t7 x8 o10 hB11 r9
        have t324 := t319.past (grown_set (wc.setCell ⟨w.heap.size + 1, 0, none⟩ (.int .i64 0)) (w.heap.size + 1) 1 (.int .i64 0)) (by omega)
        have x325 := x320.past (grown_set (wc.setCell ⟨w.heap.size + 1, 0, none⟩ (.int .i64 0)) (w.heap.size + 1) 1 (.int .i64 0)) (by omega)
        have o326 := o321.past4 r323 (grown_set (wc.setCell ⟨w.heap.size + 1, 0, none⟩ (.int .i64 0)) (w.heap.size + 1) 1 (.int .i64 0))
        have hB327 := below_put hB322 (grown_set (wc.setCell ⟨w.heap.size + 1, 0, none⟩ (.int .i64 0)) (w.heap.size + 1) 1 (.int .i64 0)) (by omega) (by have := hB322.size; omega)
        have r328 : At ((wc.setCell ⟨w.heap.size + 1, 0, none⟩ (.int .i64 0)).setCell ⟨w.heap.size + 1, 1, none⟩ (.int .i64 0)) (w.heap.size + 1) 25 #[.int .i64 0, .int .i64 0, .slice none 0 0, .bool false] := by simpa using r323.set 1 (.int .i64 0)
        clear t319 x320 o321 hB322 r323
        have t329 := t324.past (grown_set ((wc.setCell ⟨w.heap.size + 1, 0, none⟩ (.int .i64 0)).setCell ⟨w.heap.size + 1, 1, none⟩ (.int .i64 0)) (w.heap.size + 1) 2 (.slice none 0 0)) (by omega)
        have x330 := x325.past (grown_set ((wc.setCell ⟨w.heap.size + 1, 0, none⟩ (.int .i64 0)).setCell ⟨w.heap.size + 1, 1, none⟩ (.int .i64 0)) (w.heap.size + 1) 2 (.slice none 0 0)) (by omega)
        have o331 := o326.past4 r328 (grown_set ((wc.setCell ⟨w.heap.size + 1, 0, none⟩ (.int .i64 0)).setCell ⟨w.heap.size + 1, 1, none⟩ (.int .i64 0)) (w.heap.size + 1) 2 (.slice none 0 0))
        have hB332 := below_put hB327 (grown_set ((wc.setCell ⟨w.heap.size + 1, 0, none⟩ (.int .i64 0)).setCell ⟨w.heap.size + 1, 1, none⟩ (.int .i64 0)) (w.heap.size + 1) 2 (.slice none 0 0)) (by omega) (by have := hB327.size; omega)
        have r333 : At (((wc.setCell ⟨w.heap.size + 1, 0, none⟩ (.int .i64 0)).setCell ⟨w.heap.size + 1, 1, none⟩ (.int .i64 0)).setCell ⟨w.heap.size + 1, 2, none⟩ (.slice none 0 0)) (w.heap.size + 1) 25 #[.int .i64 0, .int .i64 0, .slice none 0 0, .bool false] := by simpa using r328.set 2 (.slice none 0 0)
        clear t324 x325 o326 hB327 r328
        have t334 := t329.past (grown_set (((wc.setCell ⟨w.heap.size + 1, 0, none⟩ (.int .i64 0)).setCell ⟨w.heap.size + 1, 1, none⟩ (.int .i64 0)).setCell ⟨w.heap.size + 1, 2, none⟩ (.slice none 0 0)) (w.heap.size + 1) 3 (.bool false)) (by omega)
        have x335 := x330.past (grown_set (((wc.setCell ⟨w.heap.size + 1, 0, none⟩ (.int .i64 0)).setCell ⟨w.heap.size + 1, 1, none⟩ (.int .i64 0)).setCell ⟨w.heap.size + 1, 2, none⟩ (.slice none 0 0)) (w.heap.size + 1) 3 (.bool false)) (by omega)
        have o336 := o331.past4 r333 (grown_set (((wc.setCell ⟨w.heap.size + 1, 0, none⟩ (.int .i64 0)).setCell ⟨w.heap.size + 1, 1, none⟩ (.int .i64 0)).setCell ⟨w.heap.size + 1, 2, none⟩ (.slice none 0 0)) (w.heap.size + 1) 3 (.bool false))
        have hB337 := below_put hB332 (grown_set (((wc.setCell ⟨w.heap.size + 1, 0, none⟩ (.int .i64 0)).setCell ⟨w.heap.size + 1, 1, none⟩ (.int .i64 0)).setCell ⟨w.heap.size + 1, 2, none⟩ (.slice none 0 0)) (w.heap.size + 1) 3 (.bool false)) (by omega) (by have := hB332.size; omega)
        have r338 : At ((((wc.setCell ⟨w.heap.size + 1, 0, none⟩ (.int .i64 0)).setCell ⟨w.heap.size + 1, 1, none⟩ (.int .i64 0)).setCell ⟨w.heap.size + 1, 2, none⟩ (.slice none 0 0)).setCell ⟨w.heap.size + 1, 3, none⟩ (.bool false)) (w.heap.size + 1) 25 #[.int .i64 0, .int .i64 0, .slice none 0 0, .bool false] := by simpa using r333.set 3 (.bool false)
        clear t329 x330 o331 hB332 r333
        go_wp2
        refine bodyPost_ret (v := .tuple #[.agg #[.int .i64 0, .int .i64 0, .slice none 0 0, .bool false], .bool false]) (by simp [results, Try.results35, go_sem, r338.cell]) rfl ?_
        exact ⟨none, 0, by rw [E.out, E2.out]; rfl, by rw [E2.out]; exact OwnM.zero _ _, hB337⟩
    by_cases k4 : k = 4
    · skip
      subst k4
      by_cases hd : s.d > 0
      · skip
        have hdd : decide (0 < s.d) = true := by simpa using hd
        have E : Hid (stepB s 4 = true) := hid (stepB_iff.2 ⟨HOK.out, (can_back HOK.out).2 hd⟩)
        have E2 := hid (stepS_yes E.out)
        have HR := hid (show stepC s 4 = shut s (lastM s) from rfl)
        rw [HR.out] at E2
        have HML0 := hid HOK.out.2.2.1
        have hml := HML0.out
        obtain ⟨n, hn⟩ : ∃ n, n = s.m.length - 1 := ⟨_, rfl⟩
        have hdn : s.d - 1 = (n : Int) := by omega
        have hwn : IntKind.i64.wrap (s.d - 1) = (n : Int) := by rw [hwl, hdn]
        have m1 : (0 : Int) ≤ (n : Int) := by omega
        have m2 : (n : Int) ≤ (s.m.length : Int) := by omega
        have hcc := HC.out
        have m3 : (n : Int) ≤ (c1 : Int) := by omega
        have m4 : (s.m.length : Int) ≤ (c1 : Int) := by omega
        have hn4 : n ≤ 4 := by omega
        have HT := hid (show (s.m.take n).length = n by rw [List.length_take]; omega)
        have HTn := hid (show (s.m.take n).length ≤ 4194304 by rw [HT.out]; omega)
        have HS := hid (fun (w1 : World) (hs : SeesM w1 w1.heap.size A1 s) => (show Sees w1 w1.heap.size A1 (ints (s.m.take n)) by rw [show ints (s.m.take n) = (ints s.m).take n by simp [ints]]; exact hs.marks.take n))
        have HDN := hid hdn
        have HNM := hid hn
        clear hwl
        have hnl : n < s.m.length := by omega
        have hsn := (h.on hB11).marks
        obtain ⟨b, o, rfl, _, hcm⟩ := hsn.int hnl
        have HLM := hid (show s.m[n] = lastM s by subst hn; exact (getD_get hnl).symm)
        rw [HLM.out] at hcm
        have m5 : (n : Int) < (s.m.length : Int) := by omega
        obtain ⟨V, hV⟩ : ∃ V, V = lastM s := ⟨_, rfl⟩
        rw [← hV] at hcm E2
        clear hV HLM
        have hdn2 := HDN.out
        clear hn hml hdn
        by_cases hd1 : s.d = 1
        · skip
          have HN0 := hid (show n = 0 by omega)
          have hz : ((n : Int) == 0) = true := by rw [beq_iff_eq]; omega
          have E3 := hid (shut_one (v := V) hd1)
          have HX0 := hid (show s.m.take n = [] by rw [HN0.out]; rfl)
          obtain ⟨R, hR⟩ : ∃ R : Nst, R = zeroN := ⟨_, rfl⟩
          have HRm : Hid (s.m.take n = R.m) := hid (by rw [hR, HX0.out]; rfl)
          have HRd : Hid ((n : Int) = R.d) := hid (by rw [hR, HN0.out]; rfl)
          have HRw : Hid ((0 : Int) = R.w) := hid (by rw [hR]; rfl)
          have HRb : Hid (false = R.b) := hid (by rw [hR]; exact rfl)
          rw [← hR] at E3
          rw [E3.out] at E2
          clear hR hd1 hdn2 hd
          skip
          obtain ⟨t0, t1, t2, t3, tl, tf⟩ := (⟨t7.cell 0, t7.cell 1, t7.cell 2, t7.cell 3, t7.lt, t7.frozen⟩ : _ ∧ _ ∧ _ ∧ _ ∧ _ ∧ _)
          obtain ⟨p0, p1, p2, p3, pl, pf⟩ := (⟨x8.cell 0, x8.cell 1, x8.cell 2, x8.cell 3, x8.lt, x8.frozen⟩ : _ ∧ _ ∧ _ ∧ _ ∧ _ ∧ _)
          obtain ⟨q0, q1, q2, q3, ql, qf⟩ := (⟨r9.cell 0, r9.cell 1, r9.cell 2, r9.cell 3, r9.lt, r9.frozen⟩ : _ ∧ _ ∧ _ ∧ _ ∧ _ ∧ _)
          have ne_tp : ¬ g8 = w.heap.size := by omega
          have ne_pt : ¬ w.heap.size = g8 := by omega
          have ne_tq : ¬ g8 = w.heap.size + 1 := by omega
          have ne_qt : ¬ w.heap.size + 1 = g8 := by omega
          have ne_pq : ¬ w.heap.size = w.heap.size + 1 := by omega
          have ne_qp : ¬ w.heap.size + 1 = w.heap.size := by omega
          have x339 := x8.past (grown_set wc (g8) 1 (.int .i64 V)) (by omega)
          have r340 := r9.past (grown_set wc (g8) 1 (.int .i64 V)) (by omega)
          have o341 := o10.past4 t7 (grown_set wc (g8) 1 (.int .i64 V))
          have hB342 := below_put hB11 (grown_set wc (g8) 1 (.int .i64 V)) (by omega) (by have := hB11.size; omega)
          have t343 : At (wc.setCell ⟨g8, 1, none⟩ (.int .i64 V)) (g8) 25 #[.int .i64 s.d, .int .i64 V, .slice Aa s.m.length ca, .bool s.b] := by simpa using t7.set 1 (.int .i64 V)
          clear x8 r9 o10 hB11 t7
          obtain ⟨t0, t1, t2, t3, tl, tf⟩ := (⟨t343.cell 0, t343.cell 1, t343.cell 2, t343.cell 3, t343.lt, t343.frozen⟩ : _ ∧ _ ∧ _ ∧ _ ∧ _ ∧ _)
          obtain ⟨p0, p1, p2, p3, pl, pf⟩ := (⟨x339.cell 0, x339.cell 1, x339.cell 2, x339.cell 3, x339.lt, x339.frozen⟩ : _ ∧ _ ∧ _ ∧ _ ∧ _ ∧ _)
          obtain ⟨q0, q1, q2, q3, ql, qf⟩ := (⟨r340.cell 0, r340.cell 1, r340.cell 2, r340.cell 3, r340.lt, r340.frozen⟩ : _ ∧ _ ∧ _ ∧ _ ∧ _ ∧ _)
          have ne_tp : ¬ g8 = w.heap.size := by omega
          have ne_pt : ¬ w.heap.size = g8 := by omega
          have ne_tq : ¬ g8 = w.heap.size + 1 := by omega
          have ne_qt : ¬ w.heap.size + 1 = g8 := by omega
          have ne_pq : ¬ w.heap.size = w.heap.size + 1 := by omega
          have ne_qp : ¬ w.heap.size + 1 = w.heap.size := by omega
          have x344 := x339.past (grown_set (wc.setCell ⟨g8, 1, none⟩ (.int .i64 V)) (g8) 0 (.int .i64 (n : Int))) (by omega)
          have r345 := r340.past (grown_set (wc.setCell ⟨g8, 1, none⟩ (.int .i64 V)) (g8) 0 (.int .i64 (n : Int))) (by omega)
          have o346 := o341.past4 t343 (grown_set (wc.setCell ⟨g8, 1, none⟩ (.int .i64 V)) (g8) 0 (.int .i64 (n : Int)))
          have hB347 := below_put hB342 (grown_set (wc.setCell ⟨g8, 1, none⟩ (.int .i64 V)) (g8) 0 (.int .i64 (n : Int))) (by omega) (by have := hB342.size; omega)
          have t348 : At ((wc.setCell ⟨g8, 1, none⟩ (.int .i64 V)).setCell ⟨g8, 0, none⟩ (.int .i64 (n : Int))) (g8) 25 #[.int .i64 (n : Int), .int .i64 V, .slice Aa s.m.length ca, .bool s.b] := by simpa using t343.set 0 (.int .i64 (n : Int))
          clear x339 r340 o341 hB342 t343
          skip
          go_wp2_with fail
          with_reducible refine (scopyN_len HT.out (HS.out _ (h.on hB347)) HTn.out).mono ?_
          rintro e w1 ⟨v1, rfl, ho1, hb1⟩
          obtain ⟨A1, c1, rfl, _⟩ := ho1.form
          rw [HRm.out] at ho1 ⊢
          have sz1 : wc.heap.size ≤ w1.heap.size := Nat.le_trans (by first | exact Nat.le_refl _ | (simp; done) | (simp; omega)) (hb1.size)
          have t349 := t348.below hb1 t348.lt
          have x350 := x344.below hb1 x344.lt
          have r351 := r345.below hb1 r345.lt
          have o352 := o346.below hb1
          have hB353 := hB347.trans (hb1.mono hB347.size)
          clear t348 x344 r345 o346 hB347
          clear t0 t1 t2 t3 tl tf p0 p1 p2 p3 pl pf q0 q1 q2 q3 ql qf ne_tp ne_pt ne_tq ne_qt ne_pq ne_qp
          clear o352
          have o354 : OwnM w1 w.heap.size A1 c1 R := OwnM.mono (show OwnM w1 _ A1 c1 R from ho1) (show w.heap.size ≤ _ by first | omega | (simp; omega))
          clear ho1
          obtain ⟨t0, t1, t2, t3, tl, tf⟩ := (⟨t349.cell 0, t349.cell 1, t349.cell 2, t349.cell 3, t349.lt, t349.frozen⟩ : _ ∧ _ ∧ _ ∧ _ ∧ _ ∧ _)
          obtain ⟨p0, p1, p2, p3, pl, pf⟩ := (⟨x350.cell 0, x350.cell 1, x350.cell 2, x350.cell 3, x350.lt, x350.frozen⟩ : _ ∧ _ ∧ _ ∧ _ ∧ _ ∧ _)
          obtain ⟨q0, q1, q2, q3, ql, qf⟩ := (⟨r351.cell 0, r351.cell 1, r351.cell 2, r351.cell 3, r351.lt, r351.frozen⟩ : _ ∧ _ ∧ _ ∧ _ ∧ _ ∧ _)
          have ne_tp : ¬ g8 = w.heap.size := by omega
          have ne_pt : ¬ w.heap.size = g8 := by omega
          have ne_tq : ¬ g8 = w.heap.size + 1 := by omega
          have ne_qt : ¬ w.heap.size + 1 = g8 := by omega
          have ne_pq : ¬ w.heap.size = w.heap.size + 1 := by omega
          have ne_qp : ¬ w.heap.size + 1 = w.heap.size := by omega
          have x355 := x350.past (grown_set w1 (g8) 2 (.slice A1 R.m.length c1)) (by omega)
          have r356 := r351.past (grown_set w1 (g8) 2 (.slice A1 R.m.length c1)) (by omega)
          have hB357 := below_put hB353 (grown_set w1 (g8) 2 (.slice A1 R.m.length c1)) (by omega) (by have := hB353.size; omega)
          have o358 := o354.past4 t349 (grown_set w1 (g8) 2 (.slice A1 R.m.length c1))
          have t359 : At (w1.setCell ⟨g8, 2, none⟩ (.slice A1 R.m.length c1)) (g8) 25 #[.int .i64 (n : Int), .int .i64 V, .slice A1 R.m.length c1, .bool s.b] := by simpa using t349.set 2 (.slice A1 R.m.length c1)
          clear x350 r351 hB353 o354 t349
          have x360 := x355.past (grown_set (w1.setCell ⟨g8, 2, none⟩ (.slice A1 R.m.length c1)) (g8) 3 (.bool false)) (by omega)
          have r361 := r356.past (grown_set (w1.setCell ⟨g8, 2, none⟩ (.slice A1 R.m.length c1)) (g8) 3 (.bool false)) (by omega)
          have hB362 := below_put hB357 (grown_set (w1.setCell ⟨g8, 2, none⟩ (.slice A1 R.m.length c1)) (g8) 3 (.bool false)) (by omega) (by have := hB357.size; omega)
          have o363 := o358.past4 t359 (grown_set (w1.setCell ⟨g8, 2, none⟩ (.slice A1 R.m.length c1)) (g8) 3 (.bool false))
          have t364 : At ((w1.setCell ⟨g8, 2, none⟩ (.slice A1 R.m.length c1)).setCell ⟨g8, 3, none⟩ (.bool false)) (g8) 25 #[.int .i64 (n : Int), .int .i64 V, .slice A1 R.m.length c1, .bool false] := by simpa using t359.set 3 (.bool false)
          clear x355 r356 hB357 o358 t359
          have x365 := x360.past (grown_set ((w1.setCell ⟨g8, 2, none⟩ (.slice A1 R.m.length c1)).setCell ⟨g8, 3, none⟩ (.bool false)) (g8) 1 (.int .i64 0)) (by omega)
          have r366 := r361.past (grown_set ((w1.setCell ⟨g8, 2, none⟩ (.slice A1 R.m.length c1)).setCell ⟨g8, 3, none⟩ (.bool false)) (g8) 1 (.int .i64 0)) (by omega)
          have hB367 := below_put hB362 (grown_set ((w1.setCell ⟨g8, 2, none⟩ (.slice A1 R.m.length c1)).setCell ⟨g8, 3, none⟩ (.bool false)) (g8) 1 (.int .i64 0)) (by omega) (by have := hB362.size; omega)
          have o368 := o363.past4 t364 (grown_set ((w1.setCell ⟨g8, 2, none⟩ (.slice A1 R.m.length c1)).setCell ⟨g8, 3, none⟩ (.bool false)) (g8) 1 (.int .i64 0))
          have t369 : At (((w1.setCell ⟨g8, 2, none⟩ (.slice A1 R.m.length c1)).setCell ⟨g8, 3, none⟩ (.bool false)).setCell ⟨g8, 1, none⟩ (.int .i64 0)) (g8) 25 #[.int .i64 (n : Int), .int .i64 0, .slice A1 R.m.length c1, .bool false] := by simpa using t364.set 1 (.int .i64 0)
          clear x360 r361 hB362 o363 t364
          obtain ⟨t0, t1, t2, t3, tl, tf⟩ := (⟨t369.cell 0, t369.cell 1, t369.cell 2, t369.cell 3, t369.lt, t369.frozen⟩ : _ ∧ _ ∧ _ ∧ _ ∧ _ ∧ _)
          obtain ⟨p0, p1, p2, p3, pl, pf⟩ := (⟨x365.cell 0, x365.cell 1, x365.cell 2, x365.cell 3, x365.lt, x365.frozen⟩ : _ ∧ _ ∧ _ ∧ _ ∧ _ ∧ _)
          obtain ⟨q0, q1, q2, q3, ql, qf⟩ := (⟨r366.cell 0, r366.cell 1, r366.cell 2, r366.cell 3, r366.lt, r366.frozen⟩ : _ ∧ _ ∧ _ ∧ _ ∧ _ ∧ _)
          have ne_tp : ¬ g8 = w.heap.size := by omega
          have ne_pt : ¬ w.heap.size = g8 := by omega
          have ne_tq : ¬ g8 = w.heap.size + 1 := by omega
          have ne_qt : ¬ w.heap.size + 1 = g8 := by omega
          have ne_pq : ¬ w.heap.size = w.heap.size + 1 := by omega
          have ne_qp : ¬ w.heap.size + 1 = w.heap.size := by omega
          have t370 := t369.past (grown_set (((w1.setCell ⟨g8, 2, none⟩ (.slice A1 R.m.length c1)).setCell ⟨g8, 3, none⟩ (.bool false)).setCell ⟨g8, 1, none⟩ (.int .i64 0)) (w.heap.size + 1) 0 (.int .i64 (n : Int))) (by omega)
          have x371 := x365.past (grown_set (((w1.setCell ⟨g8, 2, none⟩ (.slice A1 R.m.length c1)).setCell ⟨g8, 3, none⟩ (.bool false)).setCell ⟨g8, 1, none⟩ (.int .i64 0)) (w.heap.size + 1) 0 (.int .i64 (n : Int))) (by omega)
          have hB372 := below_put hB367 (grown_set (((w1.setCell ⟨g8, 2, none⟩ (.slice A1 R.m.length c1)).setCell ⟨g8, 3, none⟩ (.bool false)).setCell ⟨g8, 1, none⟩ (.int .i64 0)) (w.heap.size + 1) 0 (.int .i64 (n : Int))) (by omega) (by have := hB367.size; omega)
          have o373 := o368.past4 r366 (grown_set (((w1.setCell ⟨g8, 2, none⟩ (.slice A1 R.m.length c1)).setCell ⟨g8, 3, none⟩ (.bool false)).setCell ⟨g8, 1, none⟩ (.int .i64 0)) (w.heap.size + 1) 0 (.int .i64 (n : Int)))
          have r374 : At ((((w1.setCell ⟨g8, 2, none⟩ (.slice A1 R.m.length c1)).setCell ⟨g8, 3, none⟩ (.bool false)).setCell ⟨g8, 1, none⟩ (.int .i64 0)).setCell ⟨w.heap.size + 1, 0, none⟩ (.int .i64 (n : Int))) (w.heap.size + 1) 25 #[.int .i64 (n : Int), .int .i64 0, .slice none 0 0, .bool false] := by simpa using r366.set 0 (.int .i64 (n : Int))
          clear t369 x365 hB367 o368 r366
          have t375 := t370.past (grown_set ((((w1.setCell ⟨g8, 2, none⟩ (.slice A1 R.m.length c1)).setCell ⟨g8, 3, none⟩ (.bool false)).setCell ⟨g8, 1, none⟩ (.int .i64 0)).setCell ⟨w.heap.size + 1, 0, none⟩ (.int .i64 (n : Int))) (w.heap.size + 1) 1 (.int .i64 0)) (by omega)
          have x376 := x371.past (grown_set ((((w1.setCell ⟨g8, 2, none⟩ (.slice A1 R.m.length c1)).setCell ⟨g8, 3, none⟩ (.bool false)).setCell ⟨g8, 1, none⟩ (.int .i64 0)).setCell ⟨w.heap.size + 1, 0, none⟩ (.int .i64 (n : Int))) (w.heap.size + 1) 1 (.int .i64 0)) (by omega)
          have hB377 := below_put hB372 (grown_set ((((w1.setCell ⟨g8, 2, none⟩ (.slice A1 R.m.length c1)).setCell ⟨g8, 3, none⟩ (.bool false)).setCell ⟨g8, 1, none⟩ (.int .i64 0)).setCell ⟨w.heap.size + 1, 0, none⟩ (.int .i64 (n : Int))) (w.heap.size + 1) 1 (.int .i64 0)) (by omega) (by have := hB372.size; omega)
          have o378 := o373.past4 r374 (grown_set ((((w1.setCell ⟨g8, 2, none⟩ (.slice A1 R.m.length c1)).setCell ⟨g8, 3, none⟩ (.bool false)).setCell ⟨g8, 1, none⟩ (.int .i64 0)).setCell ⟨w.heap.size + 1, 0, none⟩ (.int .i64 (n : Int))) (w.heap.size + 1) 1 (.int .i64 0))
          have r379 : At (((((w1.setCell ⟨g8, 2, none⟩ (.slice A1 R.m.length c1)).setCell ⟨g8, 3, none⟩ (.bool false)).setCell ⟨g8, 1, none⟩ (.int .i64 0)).setCell ⟨w.heap.size + 1, 0, none⟩ (.int .i64 (n : Int))).setCell ⟨w.heap.size + 1, 1, none⟩ (.int .i64 0)) (w.heap.size + 1) 25 #[.int .i64 (n : Int), .int .i64 0, .slice none 0 0, .bool false] := by simpa using r374.set 1 (.int .i64 0)
          clear t370 x371 hB372 o373 r374
          have t380 := t375.past (grown_set (((((w1.setCell ⟨g8, 2, none⟩ (.slice A1 R.m.length c1)).setCell ⟨g8, 3, none⟩ (.bool false)).setCell ⟨g8, 1, none⟩ (.int .i64 0)).setCell ⟨w.heap.size + 1, 0, none⟩ (.int .i64 (n : Int))).setCell ⟨w.heap.size + 1, 1, none⟩ (.int .i64 0)) (w.heap.size + 1) 2 (.slice A1 R.m.length c1)) (by omega)
          have x381 := x376.past (grown_set (((((w1.setCell ⟨g8, 2, none⟩ (.slice A1 R.m.length c1)).setCell ⟨g8, 3, none⟩ (.bool false)).setCell ⟨g8, 1, none⟩ (.int .i64 0)).setCell ⟨w.heap.size + 1, 0, none⟩ (.int .i64 (n : Int))).setCell ⟨w.heap.size + 1, 1, none⟩ (.int .i64 0)) (w.heap.size + 1) 2 (.slice A1 R.m.length c1)) (by omega)
          have hB382 := below_put hB377 (grown_set (((((w1.setCell ⟨g8, 2, none⟩ (.slice A1 R.m.length c1)).setCell ⟨g8, 3, none⟩ (.bool false)).setCell ⟨g8, 1, none⟩ (.int .i64 0)).setCell ⟨w.heap.size + 1, 0, none⟩ (.int .i64 (n : Int))).setCell ⟨w.heap.size + 1, 1, none⟩ (.int .i64 0)) (w.heap.size + 1) 2 (.slice A1 R.m.length c1)) (by omega) (by have := hB377.size; omega)
          have o383 := o378.past4 r379 (grown_set (((((w1.setCell ⟨g8, 2, none⟩ (.slice A1 R.m.length c1)).setCell ⟨g8, 3, none⟩ (.bool false)).setCell ⟨g8, 1, none⟩ (.int .i64 0)).setCell ⟨w.heap.size + 1, 0, none⟩ (.int .i64 (n : Int))).setCell ⟨w.heap.size + 1, 1, none⟩ (.int .i64 0)) (w.heap.size + 1) 2 (.slice A1 R.m.length c1))
          have r384 : At ((((((w1.setCell ⟨g8, 2, none⟩ (.slice A1 R.m.length c1)).setCell ⟨g8, 3, none⟩ (.bool false)).setCell ⟨g8, 1, none⟩ (.int .i64 0)).setCell ⟨w.heap.size + 1, 0, none⟩ (.int .i64 (n : Int))).setCell ⟨w.heap.size + 1, 1, none⟩ (.int .i64 0)).setCell ⟨w.heap.size + 1, 2, none⟩ (.slice A1 R.m.length c1)) (w.heap.size + 1) 25 #[.int .i64 (n : Int), .int .i64 0, .slice A1 R.m.length c1, .bool false] := by simpa using r379.set 2 (.slice A1 R.m.length c1)
          clear t375 x376 hB377 o378 r379
          have t385 := t380.past (grown_set ((((((w1.setCell ⟨g8, 2, none⟩ (.slice A1 R.m.length c1)).setCell ⟨g8, 3, none⟩ (.bool false)).setCell ⟨g8, 1, none⟩ (.int .i64 0)).setCell ⟨w.heap.size + 1, 0, none⟩ (.int .i64 (n : Int))).setCell ⟨w.heap.size + 1, 1, none⟩ (.int .i64 0)).setCell ⟨w.heap.size + 1, 2, none⟩ (.slice A1 R.m.length c1)) (w.heap.size + 1) 3 (.bool false)) (by omega)
          have x386 := x381.past (grown_set ((((((w1.setCell ⟨g8, 2, none⟩ (.slice A1 R.m.length c1)).setCell ⟨g8, 3, none⟩ (.bool false)).setCell ⟨g8, 1, none⟩ (.int .i64 0)).setCell ⟨w.heap.size + 1, 0, none⟩ (.int .i64 (n : Int))).setCell ⟨w.heap.size + 1, 1, none⟩ (.int .i64 0)).setCell ⟨w.heap.size + 1, 2, none⟩ (.slice A1 R.m.length c1)) (w.heap.size + 1) 3 (.bool false)) (by omega)
          have hB387 := below_put hB382 (grown_set ((((((w1.setCell ⟨g8, 2, none⟩ (.slice A1 R.m.length c1)).setCell ⟨g8, 3, none⟩ (.bool false)).setCell ⟨g8, 1, none⟩ (.int .i64 0)).setCell ⟨w.heap.size + 1, 0, none⟩ (.int .i64 (n : Int))).setCell ⟨w.heap.size + 1, 1, none⟩ (.int .i64 0)).setCell ⟨w.heap.size + 1, 2, none⟩ (.slice A1 R.m.length c1)) (w.heap.size + 1) 3 (.bool false)) (by omega) (by have := hB382.size; omega)
          have o388 := o383.past4 r384 (grown_set ((((((w1.setCell ⟨g8, 2, none⟩ (.slice A1 R.m.length c1)).setCell ⟨g8, 3, none⟩ (.bool false)).setCell ⟨g8, 1, none⟩ (.int .i64 0)).setCell ⟨w.heap.size + 1, 0, none⟩ (.int .i64 (n : Int))).setCell ⟨w.heap.size + 1, 1, none⟩ (.int .i64 0)).setCell ⟨w.heap.size + 1, 2, none⟩ (.slice A1 R.m.length c1)) (w.heap.size + 1) 3 (.bool false))
          have r389 : At (((((((w1.setCell ⟨g8, 2, none⟩ (.slice A1 R.m.length c1)).setCell ⟨g8, 3, none⟩ (.bool false)).setCell ⟨g8, 1, none⟩ (.int .i64 0)).setCell ⟨w.heap.size + 1, 0, none⟩ (.int .i64 (n : Int))).setCell ⟨w.heap.size + 1, 1, none⟩ (.int .i64 0)).setCell ⟨w.heap.size + 1, 2, none⟩ (.slice A1 R.m.length c1)).setCell ⟨w.heap.size + 1, 3, none⟩ (.bool false)) (w.heap.size + 1) 25 #[.int .i64 (n : Int), .int .i64 0, .slice A1 R.m.length c1, .bool false] := by simpa using r384.set 3 (.bool false)
          clear t380 x381 hB382 o383 r384
          go_wp2
          refine bodyPost_ret (v := .tuple #[.agg #[.int .i64 (n : Int), .int .i64 0, .slice A1 R.m.length c1, .bool false], .bool true]) (by simp [results, Try.results35, go_sem, r389.cell]) rfl ?_
          exact ⟨A1, c1, by rw [E.out, E2.out, ← HRd.out, ← HRw.out, ← HRb.out], by rw [E2.out]; exact o388, hB387⟩
        · skip
          have hz : ((n : Int) == 0) = false := beq_eq_false_iff_ne.2 (by omega)
          have E3 := hid (shut_more (v := V) hd1)
          rw [HDN.out, ← HNM.out] at E3
          obtain ⟨R, hR⟩ : ∃ R : Nst, R = ⟨(n : Int), V, s.m.take n, false⟩ := ⟨_, rfl⟩
          have HRm : Hid (s.m.take n = R.m) := hid (by rw [hR])
          have HRd : Hid ((n : Int) = R.d) := hid (by rw [hR])
          have HRw : Hid (V = R.w) := hid (by rw [hR])
          have HRb : Hid (false = R.b) := hid (by rw [hR])
          rw [← hR] at E3
          rw [E3.out] at E2
          clear hR hd1 hdn2 hd
          skip
          obtain ⟨t0, t1, t2, t3, tl, tf⟩ := (⟨t7.cell 0, t7.cell 1, t7.cell 2, t7.cell 3, t7.lt, t7.frozen⟩ : _ ∧ _ ∧ _ ∧ _ ∧ _ ∧ _)
          obtain ⟨p0, p1, p2, p3, pl, pf⟩ := (⟨x8.cell 0, x8.cell 1, x8.cell 2, x8.cell 3, x8.lt, x8.frozen⟩ : _ ∧ _ ∧ _ ∧ _ ∧ _ ∧ _)
          obtain ⟨q0, q1, q2, q3, ql, qf⟩ := (⟨r9.cell 0, r9.cell 1, r9.cell 2, r9.cell 3, r9.lt, r9.frozen⟩ : _ ∧ _ ∧ _ ∧ _ ∧ _ ∧ _)
          have ne_tp : ¬ g8 = w.heap.size := by omega
          have ne_pt : ¬ w.heap.size = g8 := by omega
          have ne_tq : ¬ g8 = w.heap.size + 1 := by omega
          have ne_qt : ¬ w.heap.size + 1 = g8 := by omega
          have ne_pq : ¬ w.heap.size = w.heap.size + 1 := by omega
          have ne_qp : ¬ w.heap.size + 1 = w.heap.size := by omega
          have x390 := x8.past (grown_set wc (g8) 1 (.int .i64 V)) (by omega)
          have r391 := r9.past (grown_set wc (g8) 1 (.int .i64 V)) (by omega)
          have o392 := o10.past4 t7 (grown_set wc (g8) 1 (.int .i64 V))
          have hB393 := below_put hB11 (grown_set wc (g8) 1 (.int .i64 V)) (by omega) (by have := hB11.size; omega)
          have t394 : At (wc.setCell ⟨g8, 1, none⟩ (.int .i64 V)) (g8) 25 #[.int .i64 s.d, .int .i64 V, .slice Aa s.m.length ca, .bool s.b] := by simpa using t7.set 1 (.int .i64 V)
          clear x8 r9 o10 hB11 t7
          obtain ⟨t0, t1, t2, t3, tl, tf⟩ := (⟨t394.cell 0, t394.cell 1, t394.cell 2, t394.cell 3, t394.lt, t394.frozen⟩ : _ ∧ _ ∧ _ ∧ _ ∧ _ ∧ _)
          obtain ⟨p0, p1, p2, p3, pl, pf⟩ := (⟨x390.cell 0, x390.cell 1, x390.cell 2, x390.cell 3, x390.lt, x390.frozen⟩ : _ ∧ _ ∧ _ ∧ _ ∧ _ ∧ _)
          obtain ⟨q0, q1, q2, q3, ql, qf⟩ := (⟨r391.cell 0, r391.cell 1, r391.cell 2, r391.cell 3, r391.lt, r391.frozen⟩ : _ ∧ _ ∧ _ ∧ _ ∧ _ ∧ _)
          have ne_tp : ¬ g8 = w.heap.size := by omega
          have ne_pt : ¬ w.heap.size = g8 := by omega
          have ne_tq : ¬ g8 = w.heap.size + 1 := by omega
          have ne_qt : ¬ w.heap.size + 1 = g8 := by omega
          have ne_pq : ¬ w.heap.size = w.heap.size + 1 := by omega
          have ne_qp : ¬ w.heap.size + 1 = w.heap.size := by omega
          have x395 := x390.past (grown_set (wc.setCell ⟨g8, 1, none⟩ (.int .i64 V)) (g8) 0 (.int .i64 (n : Int))) (by omega)
          have r396 := r391.past (grown_set (wc.setCell ⟨g8, 1, none⟩ (.int .i64 V)) (g8) 0 (.int .i64 (n : Int))) (by omega)
          have o397 := o392.past4 t394 (grown_set (wc.setCell ⟨g8, 1, none⟩ (.int .i64 V)) (g8) 0 (.int .i64 (n : Int)))
          have hB398 := below_put hB393 (grown_set (wc.setCell ⟨g8, 1, none⟩ (.int .i64 V)) (g8) 0 (.int .i64 (n : Int))) (by omega) (by have := hB393.size; omega)
          have t399 : At ((wc.setCell ⟨g8, 1, none⟩ (.int .i64 V)).setCell ⟨g8, 0, none⟩ (.int .i64 (n : Int))) (g8) 25 #[.int .i64 (n : Int), .int .i64 V, .slice Aa s.m.length ca, .bool s.b] := by simpa using t394.set 0 (.int .i64 (n : Int))
          clear x390 r391 o392 hB393 t394
          skip
          go_wp2_with fail
          with_reducible refine (scopyN_len HT.out (HS.out _ (h.on hB398)) HTn.out).mono ?_
          rintro e w1 ⟨v1, rfl, ho1, hb1⟩
          obtain ⟨A1, c1, rfl, _⟩ := ho1.form
          rw [HRm.out] at ho1 ⊢
          have sz1 : wc.heap.size ≤ w1.heap.size := Nat.le_trans (by first | exact Nat.le_refl _ | (simp; done) | (simp; omega)) (hb1.size)
          have t400 := t399.below hb1 t399.lt
          have x401 := x395.below hb1 x395.lt
          have r402 := r396.below hb1 r396.lt
          have o403 := o397.below hb1
          have hB404 := hB398.trans (hb1.mono hB398.size)
          clear t399 x395 r396 o397 hB398
          clear t0 t1 t2 t3 tl tf p0 p1 p2 p3 pl pf q0 q1 q2 q3 ql qf ne_tp ne_pt ne_tq ne_qt ne_pq ne_qp
          clear o403
          have o405 : OwnM w1 w.heap.size A1 c1 R := OwnM.mono (show OwnM w1 _ A1 c1 R from ho1) (show w.heap.size ≤ _ by first | omega | (simp; omega))
          clear ho1
          obtain ⟨t0, t1, t2, t3, tl, tf⟩ := (⟨t400.cell 0, t400.cell 1, t400.cell 2, t400.cell 3, t400.lt, t400.frozen⟩ : _ ∧ _ ∧ _ ∧ _ ∧ _ ∧ _)
          obtain ⟨p0, p1, p2, p3, pl, pf⟩ := (⟨x401.cell 0, x401.cell 1, x401.cell 2, x401.cell 3, x401.lt, x401.frozen⟩ : _ ∧ _ ∧ _ ∧ _ ∧ _ ∧ _)
          obtain ⟨q0, q1, q2, q3, ql, qf⟩ := (⟨r402.cell 0, r402.cell 1, r402.cell 2, r402.cell 3, r402.lt, r402.frozen⟩ : _ ∧ _ ∧ _ ∧ _ ∧ _ ∧ _)
          have ne_tp : ¬ g8 = w.heap.size := by omega
          have ne_pt : ¬ w.heap.size = g8 := by omega
          have ne_tq : ¬ g8 = w.heap.size + 1 := by omega
          have ne_qt : ¬ w.heap.size + 1 = g8 := by omega
          have ne_pq : ¬ w.heap.size = w.heap.size + 1 := by omega
          have ne_qp : ¬ w.heap.size + 1 = w.heap.size := by omega
          have x406 := x401.past (grown_set w1 (g8) 2 (.slice A1 R.m.length c1)) (by omega)
          have r407 := r402.past (grown_set w1 (g8) 2 (.slice A1 R.m.length c1)) (by omega)
          have hB408 := below_put hB404 (grown_set w1 (g8) 2 (.slice A1 R.m.length c1)) (by omega) (by have := hB404.size; omega)
          have o409 := o405.past4 t400 (grown_set w1 (g8) 2 (.slice A1 R.m.length c1))
          have t410 : At (w1.setCell ⟨g8, 2, none⟩ (.slice A1 R.m.length c1)) (g8) 25 #[.int .i64 (n : Int), .int .i64 V, .slice A1 R.m.length c1, .bool s.b] := by simpa using t400.set 2 (.slice A1 R.m.length c1)
          clear x401 r402 hB404 o405 t400
          have x411 := x406.past (grown_set (w1.setCell ⟨g8, 2, none⟩ (.slice A1 R.m.length c1)) (g8) 3 (.bool false)) (by omega)
          have r412 := r407.past (grown_set (w1.setCell ⟨g8, 2, none⟩ (.slice A1 R.m.length c1)) (g8) 3 (.bool false)) (by omega)
          have hB413 := below_put hB408 (grown_set (w1.setCell ⟨g8, 2, none⟩ (.slice A1 R.m.length c1)) (g8) 3 (.bool false)) (by omega) (by have := hB408.size; omega)
          have o414 := o409.past4 t410 (grown_set (w1.setCell ⟨g8, 2, none⟩ (.slice A1 R.m.length c1)) (g8) 3 (.bool false))
          have t415 : At ((w1.setCell ⟨g8, 2, none⟩ (.slice A1 R.m.length c1)).setCell ⟨g8, 3, none⟩ (.bool false)) (g8) 25 #[.int .i64 (n : Int), .int .i64 V, .slice A1 R.m.length c1, .bool false] := by simpa using t410.set 3 (.bool false)
          clear x406 r407 hB408 o409 t410
          obtain ⟨t0, t1, t2, t3, tl, tf⟩ := (⟨t415.cell 0, t415.cell 1, t415.cell 2, t415.cell 3, t415.lt, t415.frozen⟩ : _ ∧ _ ∧ _ ∧ _ ∧ _ ∧ _)
          obtain ⟨p0, p1, p2, p3, pl, pf⟩ := (⟨x411.cell 0, x411.cell 1, x411.cell 2, x411.cell 3, x411.lt, x411.frozen⟩ : _ ∧ _ ∧ _ ∧ _ ∧ _ ∧ _)
          obtain ⟨q0, q1, q2, q3, ql, qf⟩ := (⟨r412.cell 0, r412.cell 1, r412.cell 2, r412.cell 3, r412.lt, r412.frozen⟩ : _ ∧ _ ∧ _ ∧ _ ∧ _ ∧ _)
          have ne_tp : ¬ g8 = w.heap.size := by omega
          have ne_pt : ¬ w.heap.size = g8 := by omega
          have ne_tq : ¬ g8 = w.heap.size + 1 := by omega
          have ne_qt : ¬ w.heap.size + 1 = g8 := by omega
          have ne_pq : ¬ w.heap.size = w.heap.size + 1 := by omega
          have ne_qp : ¬ w.heap.size + 1 = w.heap.size := by omega
          have t416 := t415.past (grown_set ((w1.setCell ⟨g8, 2, none⟩ (.slice A1 R.m.length c1)).setCell ⟨g8, 3, none⟩ (.bool false)) (w.heap.size + 1) 0 (.int .i64 (n : Int))) (by omega)
          have x417 := x411.past (grown_set ((w1.setCell ⟨g8, 2, none⟩ (.slice A1 R.m.length c1)).setCell ⟨g8, 3, none⟩ (.bool false)) (w.heap.size + 1) 0 (.int .i64 (n : Int))) (by omega)
          have hB418 := below_put hB413 (grown_set ((w1.setCell ⟨g8, 2, none⟩ (.slice A1 R.m.length c1)).setCell ⟨g8, 3, none⟩ (.bool false)) (w.heap.size + 1) 0 (.int .i64 (n : Int))) (by omega) (by have := hB413.size; omega)
          have o419 := o414.past4 r412 (grown_set ((w1.setCell ⟨g8, 2, none⟩ (.slice A1 R.m.length c1)).setCell ⟨g8, 3, none⟩ (.bool false)) (w.heap.size + 1) 0 (.int .i64 (n : Int)))
          have r420 : At (((w1.setCell ⟨g8, 2, none⟩ (.slice A1 R.m.length c1)).setCell ⟨g8, 3, none⟩ (.bool false)).setCell ⟨w.heap.size + 1, 0, none⟩ (.int .i64 (n : Int))) (w.heap.size + 1) 25 #[.int .i64 (n : Int), .int .i64 0, .slice none 0 0, .bool false] := by simpa using r412.set 0 (.int .i64 (n : Int))
          clear t415 x411 hB413 o414 r412
          have t421 := t416.past (grown_set (((w1.setCell ⟨g8, 2, none⟩ (.slice A1 R.m.length c1)).setCell ⟨g8, 3, none⟩ (.bool false)).setCell ⟨w.heap.size + 1, 0, none⟩ (.int .i64 (n : Int))) (w.heap.size + 1) 1 (.int .i64 V)) (by omega)
          have x422 := x417.past (grown_set (((w1.setCell ⟨g8, 2, none⟩ (.slice A1 R.m.length c1)).setCell ⟨g8, 3, none⟩ (.bool false)).setCell ⟨w.heap.size + 1, 0, none⟩ (.int .i64 (n : Int))) (w.heap.size + 1) 1 (.int .i64 V)) (by omega)
          have hB423 := below_put hB418 (grown_set (((w1.setCell ⟨g8, 2, none⟩ (.slice A1 R.m.length c1)).setCell ⟨g8, 3, none⟩ (.bool false)).setCell ⟨w.heap.size + 1, 0, none⟩ (.int .i64 (n : Int))) (w.heap.size + 1) 1 (.int .i64 V)) (by omega) (by have := hB418.size; omega)
          have o424 := o419.past4 r420 (grown_set (((w1.setCell ⟨g8, 2, none⟩ (.slice A1 R.m.length c1)).setCell ⟨g8, 3, none⟩ (.bool false)).setCell ⟨w.heap.size + 1, 0, none⟩ (.int .i64 (n : Int))) (w.heap.size + 1) 1 (.int .i64 V))
          have r425 : At ((((w1.setCell ⟨g8, 2, none⟩ (.slice A1 R.m.length c1)).setCell ⟨g8, 3, none⟩ (.bool false)).setCell ⟨w.heap.size + 1, 0, none⟩ (.int .i64 (n : Int))).setCell ⟨w.heap.size + 1, 1, none⟩ (.int .i64 V)) (w.heap.size + 1) 25 #[.int .i64 (n : Int), .int .i64 V, .slice none 0 0, .bool false] := by simpa using r420.set 1 (.int .i64 V)
          clear t416 x417 hB418 o419 r420
          have t426 := t421.past (grown_set ((((w1.setCell ⟨g8, 2, none⟩ (.slice A1 R.m.length c1)).setCell ⟨g8, 3, none⟩ (.bool false)).setCell ⟨w.heap.size + 1, 0, none⟩ (.int .i64 (n : Int))).setCell ⟨w.heap.size + 1, 1, none⟩ (.int .i64 V)) (w.heap.size + 1) 2 (.slice A1 R.m.length c1)) (by omega)
          have x427 := x422.past (grown_set ((((w1.setCell ⟨g8, 2, none⟩ (.slice A1 R.m.length c1)).setCell ⟨g8, 3, none⟩ (.bool false)).setCell ⟨w.heap.size + 1, 0, none⟩ (.int .i64 (n : Int))).setCell ⟨w.heap.size + 1, 1, none⟩ (.int .i64 V)) (w.heap.size + 1) 2 (.slice A1 R.m.length c1)) (by omega)
          have hB428 := below_put hB423 (grown_set ((((w1.setCell ⟨g8, 2, none⟩ (.slice A1 R.m.length c1)).setCell ⟨g8, 3, none⟩ (.bool false)).setCell ⟨w.heap.size + 1, 0, none⟩ (.int .i64 (n : Int))).setCell ⟨w.heap.size + 1, 1, none⟩ (.int .i64 V)) (w.heap.size + 1) 2 (.slice A1 R.m.length c1)) (by omega) (by have := hB423.size; omega)
          have o429 := o424.past4 r425 (grown_set ((((w1.setCell ⟨g8, 2, none⟩ (.slice A1 R.m.length c1)).setCell ⟨g8, 3, none⟩ (.bool false)).setCell ⟨w.heap.size + 1, 0, none⟩ (.int .i64 (n : Int))).setCell ⟨w.heap.size + 1, 1, none⟩ (.int .i64 V)) (w.heap.size + 1) 2 (.slice A1 R.m.length c1))
          have r430 : At (((((w1.setCell ⟨g8, 2, none⟩ (.slice A1 R.m.length c1)).setCell ⟨g8, 3, none⟩ (.bool false)).setCell ⟨w.heap.size + 1, 0, none⟩ (.int .i64 (n : Int))).setCell ⟨w.heap.size + 1, 1, none⟩ (.int .i64 V)).setCell ⟨w.heap.size + 1, 2, none⟩ (.slice A1 R.m.length c1)) (w.heap.size + 1) 25 #[.int .i64 (n : Int), .int .i64 V, .slice A1 R.m.length c1, .bool false] := by simpa using r425.set 2 (.slice A1 R.m.length c1)
          clear t421 x422 hB423 o424 r425
          have t431 := t426.past (grown_set (((((w1.setCell ⟨g8, 2, none⟩ (.slice A1 R.m.length c1)).setCell ⟨g8, 3, none⟩ (.bool false)).setCell ⟨w.heap.size + 1, 0, none⟩ (.int .i64 (n : Int))).setCell ⟨w.heap.size + 1, 1, none⟩ (.int .i64 V)).setCell ⟨w.heap.size + 1, 2, none⟩ (.slice A1 R.m.length c1)) (w.heap.size + 1) 3 (.bool false)) (by omega)
          have x432 := x427.past (grown_set (((((w1.setCell ⟨g8, 2, none⟩ (.slice A1 R.m.length c1)).setCell ⟨g8, 3, none⟩ (.bool false)).setCell ⟨w.heap.size + 1, 0, none⟩ (.int .i64 (n : Int))).setCell ⟨w.heap.size + 1, 1, none⟩ (.int .i64 V)).setCell ⟨w.heap.size + 1, 2, none⟩ (.slice A1 R.m.length c1)) (w.heap.size + 1) 3 (.bool false)) (by omega)
          have hB433 := below_put hB428 (grown_set (((((w1.setCell ⟨g8, 2, none⟩ (.slice A1 R.m.length c1)).setCell ⟨g8, 3, none⟩ (.bool false)).setCell ⟨w.heap.size + 1, 0, none⟩ (.int .i64 (n : Int))).setCell ⟨w.heap.size + 1, 1, none⟩ (.int .i64 V)).setCell ⟨w.heap.size + 1, 2, none⟩ (.slice A1 R.m.length c1)) (w.heap.size + 1) 3 (.bool false)) (by omega) (by have := hB428.size; omega)
          have o434 := o429.past4 r430 (grown_set (((((w1.setCell ⟨g8, 2, none⟩ (.slice A1 R.m.length c1)).setCell ⟨g8, 3, none⟩ (.bool false)).setCell ⟨w.heap.size + 1, 0, none⟩ (.int .i64 (n : Int))).setCell ⟨w.heap.size + 1, 1, none⟩ (.int .i64 V)).setCell ⟨w.heap.size + 1, 2, none⟩ (.slice A1 R.m.length c1)) (w.heap.size + 1) 3 (.bool false))
          have r435 : At ((((((w1.setCell ⟨g8, 2, none⟩ (.slice A1 R.m.length c1)).setCell ⟨g8, 3, none⟩ (.bool false)).setCell ⟨w.heap.size + 1, 0, none⟩ (.int .i64 (n : Int))).setCell ⟨w.heap.size + 1, 1, none⟩ (.int .i64 V)).setCell ⟨w.heap.size + 1, 2, none⟩ (.slice A1 R.m.length c1)).setCell ⟨w.heap.size + 1, 3, none⟩ (.bool false)) (w.heap.size + 1) 25 #[.int .i64 (n : Int), .int .i64 V, .slice A1 R.m.length c1, .bool false] := by simpa using r430.set 3 (.bool false)
          clear t426 x427 hB428 o429 r430
          go_wp2
          refine bodyPost_ret (v := .tuple #[.agg #[.int .i64 (n : Int), .int .i64 V, .slice A1 R.m.length c1, .bool false], .bool true]) (by simp [results, Try.results35, go_sem, r435.cell]) rfl ?_
          exact ⟨A1, c1, by rw [E.out, E2.out, ← HRd.out, ← HRw.out, ← HRb.out], by rw [E2.out]; exact o434, hB433⟩
      · skip
        have hdd : decide (0 < s.d) = false := by simpa using hd
        have E : Hid (stepB s 4 = false) := hid (Bool.eq_false_iff.2 fun e => by have hc := (stepB_iff.1 e).2; have := (can_back HOK.out).1 hc; omega)
        have E2 := hid (stepS_no E.out)
        obtain ⟨t0, t1, t2, t3, tl, tf⟩ := (⟨t7.cell 0, t7.cell 1, t7.cell 2, t7.cell 3, t7.lt, t7.frozen⟩ : _ ∧ _ ∧ _ ∧ _ ∧ _ ∧ _)
        obtain ⟨p0, p1, p2, p3, pl, pf⟩ := (⟨x8.cell 0, x8.cell 1, x8.cell 2, x8.cell 3, x8.lt, x8.frozen⟩ : _ ∧ _ ∧ _ ∧ _ ∧ _ ∧ _)
        obtain ⟨q0, q1, q2, q3, ql, qf⟩ := (⟨r9.cell 0, r9.cell 1, r9.cell 2, r9.cell 3, r9.lt, r9.frozen⟩ : _ ∧ _ ∧ _ ∧ _ ∧ _ ∧ _)
        have ne_tp : ¬ g8 = w.heap.size := by omega
        have ne_pt : ¬ w.heap.size = g8 := by omega
        have ne_tq : ¬ g8 = w.heap.size + 1 := by omega
        have ne_qt : ¬ w.heap.size + 1 = g8 := by omega
        have ne_pq : ¬ w.heap.size = w.heap.size + 1 := by omega
        have ne_qp : ¬ w.heap.size + 1 = w.heap.size := by omega
        have t436 := t7.past (grown_set wc (w.heap.size + 1) 0 (.int .i64 0)) (by omega)
        have x437 := x8.past (grown_set wc (w.heap.size + 1) 0 (.int .i64 0)) (by omega)
        have o438 := o10.past4 r9 (grown_set wc (w.heap.size + 1) 0 (.int .i64 0))
        have hB439 := below_put hB11 (grown_set wc (w.heap.size + 1) 0 (.int .i64 0)) (by omega) (by have := hB11.size; omega)
        have r440 : At (wc.setCell ⟨w.heap.size + 1, 0, none⟩ (.int .i64 0)) (w.heap.size + 1) 25 #[.int .i64 0, .int .i64 0, .slice none 0 0, .bool false] := by simpa using r9.set 0 (.int .i64 0)
        clear t7 x8 o10 hB11 r9
        have t441 := t436.past (grown_set (wc.setCell ⟨w.heap.size + 1, 0, none⟩ (.int .i64 0)) (w.heap.size + 1) 1 (.int .i64 0)) (by omega)
        have x442 := x437.past (grown_set (wc.setCell ⟨w.heap.size + 1, 0, none⟩ (.int .i64 0)) (w.heap.size + 1) 1 (.int .i64 0)) (by omega)
        have o443 := o438.past4 r440 (grown_set (wc.setCell ⟨w.heap.size + 1, 0, none⟩ (.int .i64 0)) (w.heap.size + 1) 1 (.int .i64 0))
        have hB444 := below_put hB439 (grown_set (wc.setCell ⟨w.heap.size + 1, 0, none⟩ (.int .i64 0)) (w.heap.size + 1) 1 (.int .i64 0)) (by omega) (by have := hB439.size; omega)
        have r445 : At ((wc.setCell ⟨w.heap.size + 1, 0, none⟩ (.int .i64 0)).setCell ⟨w.heap.size + 1, 1, none⟩ (.int .i64 0)) (w.heap.size + 1) 25 #[.int .i64 0, .int .i64 0, .slice none 0 0, .bool false] := by simpa using r440.set 1 (.int .i64 0)
        clear t436 x437 o438 hB439 r440
        have t446 := t441.past (grown_set ((wc.setCell ⟨w.heap.size + 1, 0, none⟩ (.int .i64 0)).setCell ⟨w.heap.size + 1, 1, none⟩ (.int .i64 0)) (w.heap.size + 1) 2 (.slice none 0 0)) (by omega)
        have x447 := x442.past (grown_set ((wc.setCell ⟨w.heap.size + 1, 0, none⟩ (.int .i64 0)).setCell ⟨w.heap.size + 1, 1, none⟩ (.int .i64 0)) (w.heap.size + 1) 2 (.slice none 0 0)) (by omega)
        have o448 := o443.past4 r445 (grown_set ((wc.setCell ⟨w.heap.size + 1, 0, none⟩ (.int .i64 0)).setCell ⟨w.heap.size + 1, 1, none⟩ (.int .i64 0)) (w.heap.size + 1) 2 (.slice none 0 0))
        have hB449 := below_put hB444 (grown_set ((wc.setCell ⟨w.heap.size + 1, 0, none⟩ (.int .i64 0)).setCell ⟨w.heap.size + 1, 1, none⟩ (.int .i64 0)) (w.heap.size + 1) 2 (.slice none 0 0)) (by omega) (by have := hB444.size; omega)
        have r450 : At (((wc.setCell ⟨w.heap.size + 1, 0, none⟩ (.int .i64 0)).setCell ⟨w.heap.size + 1, 1, none⟩ (.int .i64 0)).setCell ⟨w.heap.size + 1, 2, none⟩ (.slice none 0 0)) (w.heap.size + 1) 25 #[.int .i64 0, .int .i64 0, .slice none 0 0, .bool false] := by simpa using r445.set 2 (.slice none 0 0)
        clear t441 x442 o443 hB444 r445
        have t451 := t446.past (grown_set (((wc.setCell ⟨w.heap.size + 1, 0, none⟩ (.int .i64 0)).setCell ⟨w.heap.size + 1, 1, none⟩ (.int .i64 0)).setCell ⟨w.heap.size + 1, 2, none⟩ (.slice none 0 0)) (w.heap.size + 1) 3 (.bool false)) (by omega)
        have x452 := x447.past (grown_set (((wc.setCell ⟨w.heap.size + 1, 0, none⟩ (.int .i64 0)).setCell ⟨w.heap.size + 1, 1, none⟩ (.int .i64 0)).setCell ⟨w.heap.size + 1, 2, none⟩ (.slice none 0 0)) (w.heap.size + 1) 3 (.bool false)) (by omega)
        have o453 := o448.past4 r450 (grown_set (((wc.setCell ⟨w.heap.size + 1, 0, none⟩ (.int .i64 0)).setCell ⟨w.heap.size + 1, 1, none⟩ (.int .i64 0)).setCell ⟨w.heap.size + 1, 2, none⟩ (.slice none 0 0)) (w.heap.size + 1) 3 (.bool false))
        have hB454 := below_put hB449 (grown_set (((wc.setCell ⟨w.heap.size + 1, 0, none⟩ (.int .i64 0)).setCell ⟨w.heap.size + 1, 1, none⟩ (.int .i64 0)).setCell ⟨w.heap.size + 1, 2, none⟩ (.slice none 0 0)) (w.heap.size + 1) 3 (.bool false)) (by omega) (by have := hB449.size; omega)
        have r455 : At ((((wc.setCell ⟨w.heap.size + 1, 0, none⟩ (.int .i64 0)).setCell ⟨w.heap.size + 1, 1, none⟩ (.int .i64 0)).setCell ⟨w.heap.size + 1, 2, none⟩ (.slice none 0 0)).setCell ⟨w.heap.size + 1, 3, none⟩ (.bool false)) (w.heap.size + 1) 25 #[.int .i64 0, .int .i64 0, .slice none 0 0, .bool false] := by simpa using r450.set 3 (.bool false)
        clear t446 x447 o448 hB449 r450
        go_wp2
        refine bodyPost_ret (v := .tuple #[.agg #[.int .i64 0, .int .i64 0, .slice none 0 0, .bool false], .bool false]) (by simp [results, Try.results35, go_sem, r455.cell]) rfl ?_
        exact ⟨none, 0, by rw [E.out, E2.out]; rfl, by rw [E2.out]; exact OwnM.zero _ _, hB454⟩
    · skip
      have n0 : (k == 0) = false := beq_eq_false_iff_ne.2 k0
      have n1 : (k == 1) = false := beq_eq_false_iff_ne.2 k1
      have n2 : (k == 2) = false := beq_eq_false_iff_ne.2 k2
      have n3 : (k == 3) = false := beq_eq_false_iff_ne.2 k3
      have n4 : (k == 4) = false := beq_eq_false_iff_ne.2 k4
      have E : Hid (stepB s k = false) := hid (Bool.eq_false_iff.2 fun e => by have hc := (stepB_iff.1 e).2; rcases can_kind hc with e | e | e | e | e <;> contradiction)
      clear k0 k1 k2 k3 k4
      have E2 := hid (stepS_no E.out)
      obtain ⟨t0, t1, t2, t3, tl, tf⟩ := (⟨t7.cell 0, t7.cell 1, t7.cell 2, t7.cell 3, t7.lt, t7.frozen⟩ : _ ∧ _ ∧ _ ∧ _ ∧ _ ∧ _)
      obtain ⟨p0, p1, p2, p3, pl, pf⟩ := (⟨x8.cell 0, x8.cell 1, x8.cell 2, x8.cell 3, x8.lt, x8.frozen⟩ : _ ∧ _ ∧ _ ∧ _ ∧ _ ∧ _)
      obtain ⟨q0, q1, q2, q3, ql, qf⟩ := (⟨r9.cell 0, r9.cell 1, r9.cell 2, r9.cell 3, r9.lt, r9.frozen⟩ : _ ∧ _ ∧ _ ∧ _ ∧ _ ∧ _)
      have ne_tp : ¬ g8 = w.heap.size := by omega
      have ne_pt : ¬ w.heap.size = g8 := by omega
      have ne_tq : ¬ g8 = w.heap.size + 1 := by omega
      have ne_qt : ¬ w.heap.size + 1 = g8 := by omega
      have ne_pq : ¬ w.heap.size = w.heap.size + 1 := by omega
      have ne_qp : ¬ w.heap.size + 1 = w.heap.size := by omega
      have t456 := t7.past (grown_set wc (w.heap.size + 1) 0 (.int .i64 0)) (by omega)
      have x457 := x8.past (grown_set wc (w.heap.size + 1) 0 (.int .i64 0)) (by omega)
      have o458 := o10.past4 r9 (grown_set wc (w.heap.size + 1) 0 (.int .i64 0))
      have hB459 := below_put hB11 (grown_set wc (w.heap.size + 1) 0 (.int .i64 0)) (by omega) (by have := hB11.size; omega)
      have r460 : At (wc.setCell ⟨w.heap.size + 1, 0, none⟩ (.int .i64 0)) (w.heap.size + 1) 25 #[.int .i64 0, .int .i64 0, .slice none 0 0, .bool false] := by simpa using r9.set 0 (.int .i64 0)
      clear t7 x8 o10 hB11 r9
      have t461 := t456.past (grown_set (wc.setCell ⟨w.heap.size + 1, 0, none⟩ (.int .i64 0)) (w.heap.size + 1) 1 (.int .i64 0)) (by omega)
      have x462 := x457.past (grown_set (wc.setCell ⟨w.heap.size + 1, 0, none⟩ (.int .i64 0)) (w.heap.size + 1) 1 (.int .i64 0)) (by omega)
      have o463 := o458.past4 r460 (grown_set (wc.setCell ⟨w.heap.size + 1, 0, none⟩ (.int .i64 0)) (w.heap.size + 1) 1 (.int .i64 0))
      have hB464 := below_put hB459 (grown_set (wc.setCell ⟨w.heap.size + 1, 0, none⟩ (.int .i64 0)) (w.heap.size + 1) 1 (.int .i64 0)) (by omega) (by have := hB459.size; omega)
      have r465 : At ((wc.setCell ⟨w.heap.size + 1, 0, none⟩ (.int .i64 0)).setCell ⟨w.heap.size + 1, 1, none⟩ (.int .i64 0)) (w.heap.size + 1) 25 #[.int .i64 0, .int .i64 0, .slice none 0 0, .bool false] := by simpa using r460.set 1 (.int .i64 0)
      clear t456 x457 o458 hB459 r460
      have t466 := t461.past (grown_set ((wc.setCell ⟨w.heap.size + 1, 0, none⟩ (.int .i64 0)).setCell ⟨w.heap.size + 1, 1, none⟩ (.int .i64 0)) (w.heap.size + 1) 2 (.slice none 0 0)) (by omega)
      have x467 := x462.past (grown_set ((wc.setCell ⟨w.heap.size + 1, 0, none⟩ (.int .i64 0)).setCell ⟨w.heap.size + 1, 1, none⟩ (.int .i64 0)) (w.heap.size + 1) 2 (.slice none 0 0)) (by omega)
      have o468 := o463.past4 r465 (grown_set ((wc.setCell ⟨w.heap.size + 1, 0, none⟩ (.int .i64 0)).setCell ⟨w.heap.size + 1, 1, none⟩ (.int .i64 0)) (w.heap.size + 1) 2 (.slice none 0 0))
      have hB469 := below_put hB464 (grown_set ((wc.setCell ⟨w.heap.size + 1, 0, none⟩ (.int .i64 0)).setCell ⟨w.heap.size + 1, 1, none⟩ (.int .i64 0)) (w.heap.size + 1) 2 (.slice none 0 0)) (by omega) (by have := hB464.size; omega)
      have r470 : At (((wc.setCell ⟨w.heap.size + 1, 0, none⟩ (.int .i64 0)).setCell ⟨w.heap.size + 1, 1, none⟩ (.int .i64 0)).setCell ⟨w.heap.size + 1, 2, none⟩ (.slice none 0 0)) (w.heap.size + 1) 25 #[.int .i64 0, .int .i64 0, .slice none 0 0, .bool false] := by simpa using r465.set 2 (.slice none 0 0)
      clear t461 x462 o463 hB464 r465
      have t471 := t466.past (grown_set (((wc.setCell ⟨w.heap.size + 1, 0, none⟩ (.int .i64 0)).setCell ⟨w.heap.size + 1, 1, none⟩ (.int .i64 0)).setCell ⟨w.heap.size + 1, 2, none⟩ (.slice none 0 0)) (w.heap.size + 1) 3 (.bool false)) (by omega)
      have x472 := x467.past (grown_set (((wc.setCell ⟨w.heap.size + 1, 0, none⟩ (.int .i64 0)).setCell ⟨w.heap.size + 1, 1, none⟩ (.int .i64 0)).setCell ⟨w.heap.size + 1, 2, none⟩ (.slice none 0 0)) (w.heap.size + 1) 3 (.bool false)) (by omega)
      have o473 := o468.past4 r470 (grown_set (((wc.setCell ⟨w.heap.size + 1, 0, none⟩ (.int .i64 0)).setCell ⟨w.heap.size + 1, 1, none⟩ (.int .i64 0)).setCell ⟨w.heap.size + 1, 2, none⟩ (.slice none 0 0)) (w.heap.size + 1) 3 (.bool false))
      have hB474 := below_put hB469 (grown_set (((wc.setCell ⟨w.heap.size + 1, 0, none⟩ (.int .i64 0)).setCell ⟨w.heap.size + 1, 1, none⟩ (.int .i64 0)).setCell ⟨w.heap.size + 1, 2, none⟩ (.slice none 0 0)) (w.heap.size + 1) 3 (.bool false)) (by omega) (by have := hB469.size; omega)
      have r475 : At ((((wc.setCell ⟨w.heap.size + 1, 0, none⟩ (.int .i64 0)).setCell ⟨w.heap.size + 1, 1, none⟩ (.int .i64 0)).setCell ⟨w.heap.size + 1, 2, none⟩ (.slice none 0 0)).setCell ⟨w.heap.size + 1, 3, none⟩ (.bool false)) (w.heap.size + 1) 25 #[.int .i64 0, .int .i64 0, .slice none 0 0, .bool false] := by simpa using r470.set 3 (.bool false)
      clear t466 x467 o468 hB469 r470
      go_wp2
      refine bodyPost_ret (v := .tuple #[.agg #[.int .i64 0, .int .i64 0, .slice none 0 0, .bool false], .bool false]) (by simp [results, Try.results35, go_sem, r475.cell]) rfl ?_
      exact ⟨none, 0, by rw [E.out, E2.out]; rfl, by rw [E2.out]; exact OwnM.zero _ _, hB474⟩

end Go.Proofs.Ytocaddibdiikpaa

/-
  What the model's UseStatement, DropStatement and CountPrepares answer. Condition: the lists lie in memory.
-/
import Derived.Test.YtfophplmdljhbaaCaE
import Derived.StillTailTactics
namespace Go.Proofs.Ytfophplmdljhbaa
open Go.RowKit Cac

set_option maxHeartbeats 400000 in
theorem caToInt_any (b : Bool) (w : World) :
    Calls Try.prog 19 #[.bool b] w fun e w' => e = .returned (.int .i64 (if b = true then 1 else 0)) ∧ w = w' := by
  cases b
  · go_enter Try.func19, Try.ntmps19
    go_wp2
    go_ret
    exact ⟨rfl, rfl⟩
  · go_enter Try.func19, Try.ntmps19
    go_wp2
    go_ret
    exact ⟨rfl, rfl⟩

theorem caToInt_q (b : Bool) (w : World) (m : Nat) :
    Calls Try.prog 19 #[.bool b] (w.drewN m) fun e w' => e = .returned (.int .i64 (if b = true then 1 else 0)) ∧ ∃ k, w' = w.drewN k :=
  Calls.quiet_of_same ((caToInt_any b _).mono fun _ _ ⟨he, hw⟩ => ⟨he, hw.symm⟩)
theorem sisIn_q (A : Option Addr) (c : Nat) (xs : List Int) (x : Int) (w : World) (m : Nat) {B : Nat} (h : Sees w B A (ints xs)) (hn : xs.length ≤ 4194304) :
    Calls Try.prog 17 #[.slice A xs.length c, .int .i64 x] (w.drewN m) fun e w' => e = .returned (.bool (mem xs x)) ∧ ∃ k, w' = w.drewN k :=
  Calls.quiet_of_same ((sisIn_any A c xs x _ (h.drewN m) (Nat.le_trans hn (by decide))).mono fun _ _ ⟨he, hw⟩ => ⟨he, hw.symm⟩)
theorem sisIn_qb {A : Option Addr} {c : Nat} {xs : List Int} {x : Int} {b : Bool} (hx : mem xs x = b) (w : World) (m : Nat) {B : Nat} (h : Sees w B A (ints xs)) (hn : xs.length ≤ 4194304) :
    Calls Try.prog 17 #[.slice A xs.length c, .int .i64 x] (w.drewN m) fun e w' => e = .returned (.bool b) ∧ ∃ k, w' = w.drewN k := by
  subst hx; exact sisIn_q A c xs x w m h hn
set_option maxHeartbeats 4000000 in
theorem sUseStatement_any (s : Cch) (x : Int) (A1 : Option Addr) (c1 : Nat) (w : World) (h : SeesN w w.heap.size A1 s) (h1 : s.n.length ≤ 4194304) :
    Calls Try.prog 37 #[.agg #[.int .i64 s.r, .slice A1 s.n.length c1], .int .i64 x] w (CacAns (useS s x) (hitB s x) w) := by
  have H1 := hid h1
  clear h1
  rcases hv : cacheB s with _ | _
  · skip
    have E3 := hid (show useB s x = false by unfold useB; rw [hv]; rfl)
    have E2 := hid (useS_no E3.out)
    have E := hid (hitB_no E3.out)
    have HV := hid hv
    clear hv
    have hB1 := Below.refl w.heap.size w
    have hB2 := hB1.alloc hB1.size (.cells #[.int .i64 s.r, .slice A1 s.n.length c1] 37)
    clear hB1
    have x3 : At (w.alloc (.cells #[.int .i64 s.r, .slice A1 s.n.length c1] 37)) (w.heap.size) 37 #[.int .i64 s.r, .slice A1 s.n.length c1] := At.newAt _ _ (by first | rfl | (simp; done) | (simp; omega))
    have hB4 := hB2.alloc hB2.size (.cells #[.int .i64 0, .slice none 0 0] 37)
    have x5 := x3.alloc (.cells #[.int .i64 0, .slice none 0 0] 37)
    clear hB2 x3
    have r6 : At ((w.alloc (.cells #[.int .i64 s.r, .slice A1 s.n.length c1] 37)).alloc (.cells #[.int .i64 0, .slice none 0 0] 37)) (w.heap.size + 1) 37 #[.int .i64 0, .slice none 0 0] := At.newAt _ _ (by first | rfl | (simp; done) | (simp; omega))
    go_enter Try.func37, Try.ntmps37
    obtain ⟨p0, p1, pl, pf⟩ := (⟨x5.cell 0, x5.cell 1, x5.lt, x5.frozen⟩ : _ ∧ _ ∧ _ ∧ _)
    obtain ⟨q0, q1, ql, qf⟩ := (⟨r6.cell 0, r6.cell 1, r6.lt, r6.frozen⟩ : _ ∧ _ ∧ _ ∧ _)
    have ne_pq : ¬ w.heap.size = w.heap.size + 1 := by omega
    have ne_qp : ¬ w.heap.size + 1 = w.heap.size := by omega
    go_wp2_with fail
    with_reducible refine (svalidCache_any s A1 c1 _ (h.on hB4) H1.out).mono ?_
    rintro e w1 ⟨he, hb1⟩
    rw [HV.out] at he
    subst he
    have sz1 : w.heap.size + 2 ≤ w1.heap.size := Nat.le_trans (by first | exact Nat.le_refl _ | (simp; done) | (simp; omega)) (hb1.size)
    have hB7 := hB4.trans (hb1.mono hB4.size)
    have x8 := x5.below hb1 x5.lt
    have r9 := r6.below hb1 r6.lt
    clear hB4 x5 r6
    clear p0 p1 pl pf q0 q1 ql qf ne_pq ne_qp
    obtain ⟨p0, p1, pl, pf⟩ := (⟨x8.cell 0, x8.cell 1, x8.lt, x8.frozen⟩ : _ ∧ _ ∧ _ ∧ _)
    obtain ⟨q0, q1, ql, qf⟩ := (⟨r9.cell 0, r9.cell 1, r9.lt, r9.frozen⟩ : _ ∧ _ ∧ _ ∧ _)
    have ne_pq : ¬ w.heap.size = w.heap.size + 1 := by omega
    have ne_qp : ¬ w.heap.size + 1 = w.heap.size := by omega
    have hB10 := below_put hB7 (grown_set w1 (w.heap.size + 1) 0 (.int .i64 0)) (by omega) (by have := hB7.size; omega)
    have x11 := x8.past (grown_set w1 (w.heap.size + 1) 0 (.int .i64 0)) (by omega)
    have r12 : At (w1.setCell ⟨w.heap.size + 1, 0, none⟩ (.int .i64 0)) (w.heap.size + 1) 37 #[.int .i64 0, .slice none 0 0] := by simpa using r9.set 0 (.int .i64 0)
    clear hB7 x8 r9
    have hB13 := below_put hB10 (grown_set (w1.setCell ⟨w.heap.size + 1, 0, none⟩ (.int .i64 0)) (w.heap.size + 1) 1 (.slice none 0 0)) (by omega) (by have := hB10.size; omega)
    have x14 := x11.past (grown_set (w1.setCell ⟨w.heap.size + 1, 0, none⟩ (.int .i64 0)) (w.heap.size + 1) 1 (.slice none 0 0)) (by omega)
    have r15 : At ((w1.setCell ⟨w.heap.size + 1, 0, none⟩ (.int .i64 0)).setCell ⟨w.heap.size + 1, 1, none⟩ (.slice none 0 0)) (w.heap.size + 1) 37 #[.int .i64 0, .slice none 0 0] := by simpa using r12.set 1 (.slice none 0 0)
    clear hB10 x11 r12
    go_wp2
    refine bodyPost_ret (v := .tuple #[.agg #[.int .i64 0, .slice none 0 0], .bool false]) (by simp [results, Try.results37, go_sem, r15.cell]) rfl ?_
    exact ⟨none, 0, by rw [E.out, E2.out]; rfl, by rw [E2.out]; exact OwnN.zero _ _, hB13⟩
  have HV := hid hv
  rcases hx : inB x 0 9 with _ | _
  · skip
    have E3 := hid (show useB s x = false from Bool.eq_false_iff.2 fun e => by rw [inB_iff.2 (useB_iff.1 e).2] at hx; cases hx)
    have E2 := hid (useS_no E3.out)
    have E := hid (hitB_no E3.out)
    have HX := hid hx
    clear hv hx
    have hB16 := Below.refl w.heap.size w
    have hB17 := hB16.alloc hB16.size (.cells #[.int .i64 s.r, .slice A1 s.n.length c1] 37)
    clear hB16
    have x18 : At (w.alloc (.cells #[.int .i64 s.r, .slice A1 s.n.length c1] 37)) (w.heap.size) 37 #[.int .i64 s.r, .slice A1 s.n.length c1] := At.newAt _ _ (by first | rfl | (simp; done) | (simp; omega))
    have hB19 := hB17.alloc hB17.size (.cells #[.int .i64 0, .slice none 0 0] 37)
    have x20 := x18.alloc (.cells #[.int .i64 0, .slice none 0 0] 37)
    clear hB17 x18
    have r21 : At ((w.alloc (.cells #[.int .i64 s.r, .slice A1 s.n.length c1] 37)).alloc (.cells #[.int .i64 0, .slice none 0 0] 37)) (w.heap.size + 1) 37 #[.int .i64 0, .slice none 0 0] := At.newAt _ _ (by first | rfl | (simp; done) | (simp; omega))
    go_enter Try.func37, Try.ntmps37
    obtain ⟨p0, p1, pl, pf⟩ := (⟨x20.cell 0, x20.cell 1, x20.lt, x20.frozen⟩ : _ ∧ _ ∧ _ ∧ _)
    obtain ⟨q0, q1, ql, qf⟩ := (⟨r21.cell 0, r21.cell 1, r21.lt, r21.frozen⟩ : _ ∧ _ ∧ _ ∧ _)
    have ne_pq : ¬ w.heap.size = w.heap.size + 1 := by omega
    have ne_qp : ¬ w.heap.size + 1 = w.heap.size := by omega
    go_wp2_with fail
    with_reducible refine (svalidCache_any s A1 c1 _ (h.on hB19) H1.out).mono ?_
    rintro e w1 ⟨he, hb1⟩
    rw [HV.out] at he
    subst he
    have sz1 : w.heap.size + 2 ≤ w1.heap.size := Nat.le_trans (by first | exact Nat.le_refl _ | (simp; done) | (simp; omega)) (hb1.size)
    have hB22 := hB19.trans (hb1.mono hB19.size)
    have x23 := x20.below hb1 x20.lt
    have r24 := r21.below hb1 r21.lt
    clear hB19 x20 r21
    clear p0 p1 pl pf q0 q1 ql qf ne_pq ne_qp
    obtain ⟨p0, p1, pl, pf⟩ := (⟨x23.cell 0, x23.cell 1, x23.lt, x23.frozen⟩ : _ ∧ _ ∧ _ ∧ _)
    obtain ⟨q0, q1, ql, qf⟩ := (⟨r24.cell 0, r24.cell 1, r24.lt, r24.frozen⟩ : _ ∧ _ ∧ _ ∧ _)
    have ne_pq : ¬ w.heap.size = w.heap.size + 1 := by omega
    have ne_qp : ¬ w.heap.size + 1 = w.heap.size := by omega
    go_wp2_with fail
    with_reducible refine (inRange_any x 0 9 _).mono ?_
    rintro e w' ⟨he, rfl⟩
    rw [HX.out] at he
    subst he
    clear p0 p1 pl pf q0 q1 ql qf ne_pq ne_qp
    obtain ⟨p0, p1, pl, pf⟩ := (⟨x23.cell 0, x23.cell 1, x23.lt, x23.frozen⟩ : _ ∧ _ ∧ _ ∧ _)
    obtain ⟨q0, q1, ql, qf⟩ := (⟨r24.cell 0, r24.cell 1, r24.lt, r24.frozen⟩ : _ ∧ _ ∧ _ ∧ _)
    have ne_pq : ¬ w.heap.size = w.heap.size + 1 := by omega
    have ne_qp : ¬ w.heap.size + 1 = w.heap.size := by omega
    have hB25 := below_put hB22 (grown_set w1 (w.heap.size + 1) 0 (.int .i64 0)) (by omega) (by have := hB22.size; omega)
    have x26 := x23.past (grown_set w1 (w.heap.size + 1) 0 (.int .i64 0)) (by omega)
    have r27 : At (w1.setCell ⟨w.heap.size + 1, 0, none⟩ (.int .i64 0)) (w.heap.size + 1) 37 #[.int .i64 0, .slice none 0 0] := by simpa using r24.set 0 (.int .i64 0)
    clear hB22 x23 r24
    have hB28 := below_put hB25 (grown_set (w1.setCell ⟨w.heap.size + 1, 0, none⟩ (.int .i64 0)) (w.heap.size + 1) 1 (.slice none 0 0)) (by omega) (by have := hB25.size; omega)
    have x29 := x26.past (grown_set (w1.setCell ⟨w.heap.size + 1, 0, none⟩ (.int .i64 0)) (w.heap.size + 1) 1 (.slice none 0 0)) (by omega)
    have r30 : At ((w1.setCell ⟨w.heap.size + 1, 0, none⟩ (.int .i64 0)).setCell ⟨w.heap.size + 1, 1, none⟩ (.slice none 0 0)) (w.heap.size + 1) 37 #[.int .i64 0, .slice none 0 0] := by simpa using r27.set 1 (.slice none 0 0)
    clear hB25 x26 r27
    go_wp2
    refine bodyPost_ret (v := .tuple #[.agg #[.int .i64 0, .slice none 0 0], .bool false]) (by simp [results, Try.results37, go_sem, r30.cell]) rfl ?_
    exact ⟨none, 0, by rw [E.out, E2.out]; rfl, by rw [E2.out]; exact OwnN.zero _ _, hB28⟩
  have HX := hid hx
  have E3 := hid (show useB s x = true from useB_iff.2 ⟨hv, inB_iff.1 hx⟩)
  have HR := hid (cache_rs hv)
  have EQ : Hid (useS s x = useC s x) := hid (useS_yes E3.out)
  have EH : Hid (hitB s x = mem s.n x) := hid (hitB_yes E3.out)
  have HL := hid (show s.n.length ≤ 1000 by have := cache_len hv; omega)
  obtain ⟨R, hR⟩ : ∃ R, R = useC s x := ⟨_, rfl⟩
  have HRr := hid (show R.r = s.r by rw [hR]; rfl)
  have HRn := hid hR
  rw [← hR] at EQ
  obtain ⟨b, hb⟩ : ∃ b, b = mem s.n x := ⟨_, rfl⟩
  rw [← hb] at EH
  have EB : Hid (memB s.n x = b) := hid hb.symm
  clear hv hx hR hb
  have hB31 := Below.refl w.heap.size w
  have hB32 := hB31.alloc hB31.size (.cells #[.int .i64 s.r, .slice A1 s.n.length c1] 37)
  clear hB31
  have x33 : At (w.alloc (.cells #[.int .i64 s.r, .slice A1 s.n.length c1] 37)) (w.heap.size) 37 #[.int .i64 s.r, .slice A1 s.n.length c1] := At.newAt _ _ (by first | rfl | (simp; done) | (simp; omega))
  have hB34 := hB32.alloc hB32.size (.cells #[.int .i64 0, .slice none 0 0] 37)
  have x35 := x33.alloc (.cells #[.int .i64 0, .slice none 0 0] 37)
  clear hB32 x33
  have r36 : At ((w.alloc (.cells #[.int .i64 s.r, .slice A1 s.n.length c1] 37)).alloc (.cells #[.int .i64 0, .slice none 0 0] 37)) (w.heap.size + 1) 37 #[.int .i64 0, .slice none 0 0] := At.newAt _ _ (by first | rfl | (simp; done) | (simp; omega))
  go_enter Try.func37, Try.ntmps37
  obtain ⟨p0, p1, pl, pf⟩ := (⟨x35.cell 0, x35.cell 1, x35.lt, x35.frozen⟩ : _ ∧ _ ∧ _ ∧ _)
  obtain ⟨q0, q1, ql, qf⟩ := (⟨r36.cell 0, r36.cell 1, r36.lt, r36.frozen⟩ : _ ∧ _ ∧ _ ∧ _)
  have ne_pq : ¬ w.heap.size = w.heap.size + 1 := by omega
  have ne_qp : ¬ w.heap.size + 1 = w.heap.size := by omega
  go_wp2_with fail
  with_reducible refine (svalidCache_any s A1 c1 _ (h.on hB34) H1.out).mono ?_
  rintro e w1 ⟨he, hb1⟩
  rw [HV.out] at he
  subst he
  have sz1 : w.heap.size + 2 ≤ w1.heap.size := Nat.le_trans (by first | exact Nat.le_refl _ | (simp; done) | (simp; omega)) (hb1.size)
  have hB37 := hB34.trans (hb1.mono hB34.size)
  have x38 := x35.below hb1 x35.lt
  have r39 := r36.below hb1 r36.lt
  clear hB34 x35 r36
  clear p0 p1 pl pf q0 q1 ql qf ne_pq ne_qp
  obtain ⟨p0, p1, pl, pf⟩ := (⟨x38.cell 0, x38.cell 1, x38.lt, x38.frozen⟩ : _ ∧ _ ∧ _ ∧ _)
  obtain ⟨q0, q1, ql, qf⟩ := (⟨r39.cell 0, r39.cell 1, r39.lt, r39.frozen⟩ : _ ∧ _ ∧ _ ∧ _)
  have ne_pq : ¬ w.heap.size = w.heap.size + 1 := by omega
  have ne_qp : ¬ w.heap.size + 1 = w.heap.size := by omega
  go_wp2_with fail
  with_reducible refine (inRange_any x 0 9 _).mono ?_
  rintro e w' ⟨he, rfl⟩
  rw [HX.out] at he
  subst he
  clear p0 p1 pl pf q0 q1 ql qf ne_pq ne_qp
  have xd := x38.drew
  have rd := r39.drew
  have hBd := hB37.drew
  have hsd := h.on hBd
  obtain ⟨p0, p1, pl, pf⟩ := x38.two
  go_wp2_with fail
  go_region_held3 (fun w' => w'.cell? ⟨w.heap.size, 0, none⟩ = some (.int .i64 s.r) ∧ w'.cell? ⟨w.heap.size, 1, none⟩ = some (.slice A1 s.n.length c1))
    (first | with_reducible exact ⟨p0, p1⟩ | with_reducible exact ⟨q0, q1⟩ | go_keep)
    (first
      | (go_at_call 39; (with_reducible refine (useM_any s x A1 c1 _ hsd HL.out HR.out).mono ?_); rintro e w9 ⟨A9, c9, he, ho9, hb9⟩; rw [← HRn.out] at he ho9; rw [HRr.out] at he; subst he; have x9 := xd.below hb9 xd.lt; have r9 := rd.below hb9 rd.lt; have hB9 := hBd.trans (hb9.mono hBd.size); have hs9 := hsd.on hb9; obtain ⟨q0, q1, ql, qf⟩ := x9.two; obtain ⟨t0, t1, tl, tf⟩ := r9.two)
      | (go_at_call 17; (with_reducible refine (sisIn_any A1 c1 s.n x _ (by first | exact hs9.names | exact hsd.names) (Nat.le_trans H1.out (by decide))).mono ?_); rintro e w' ⟨he, rfl⟩; rw [EB.out] at he; subst he)
      | fail)
  all_goals
    obtain ⟨hp2, hg2⟩ := two_put (.int .i64 s.r) (.slice A9 R.n.length c9) r9 rfl
    have hBz := below_put hB9 hg2 (Nat.le_succ _) hB9.size
    have hOz : OwnN _ w.heap.size A9 c9 R := OwnN.past (OwnN.mono (show OwnN w9 _ A9 c9 R from ho9) hBd.size) r9 (by decide) hg2
    go_wp2
    refine bodyPost_ret (v := .tuple #[.agg #[.int .i64 s.r, .slice A9 R.n.length c9], .bool b]) (by simp [results, Try.results37, go_sem, hp2.cell]) rfl ?_
    exact ⟨A9, c9, by rw [EQ.out, EH.out, HRr.out], by rw [EQ.out]; exact hOz, hBz⟩

end Go.Proofs.Ytfophplmdljhbaa

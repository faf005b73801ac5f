/-
  What the model's UseStatement, DropStatement and CountPrepares answer. Condition: the lists lie in memory.
-/
import Derived.Test.YtgliijkpjncfnabCaE
import Derived.StillTailTactics
namespace Go.Proofs.Ytgliijkpjncfnab
open Go.RowKit Cac

set_option maxHeartbeats 400000 in
theorem caToInt_any (b : Bool) (w : World) :
    Calls Try.prog 45 #[.bool b] w fun e w' => e = .returned (.int .i64 (if b = true then 1 else 0)) ∧ w = w' := by
  cases b
  · go_enter Try.func45, Try.ntmps45
    go_wp2
    go_ret
    exact ⟨rfl, rfl⟩
  · go_enter Try.func45, Try.ntmps45
    go_wp2
    go_ret
    exact ⟨rfl, rfl⟩

theorem caToInt_q (b : Bool) (w : World) (m : Nat) :
    Calls Try.prog 45 #[.bool b] (w.drewN m) fun e w' => e = .returned (.int .i64 (if b = true then 1 else 0)) ∧ ∃ k, w' = w.drewN k :=
  Calls.quiet_of_same ((caToInt_any b _).mono fun _ _ ⟨he, hw⟩ => ⟨he, hw.symm⟩)
theorem sisIn_q (A : Option Addr) (c : Nat) (xs : List Int) (x : Int) (w : World) (m : Nat) {B : Nat} (h : Sees w B A (ints xs)) (hn : xs.length ≤ 4194304) :
    Calls Try.prog 31 #[.slice A xs.length c, .int .i64 x] (w.drewN m) fun e w' => e = .returned (.bool (mem xs x)) ∧ ∃ k, w' = w.drewN k :=
  Calls.quiet_of_same ((sisIn_any A c xs x _ (h.drewN m) (Nat.le_trans hn (by decide))).mono fun _ _ ⟨he, hw⟩ => ⟨he, hw.symm⟩)
theorem sisIn_qb {A : Option Addr} {c : Nat} {xs : List Int} {x : Int} {b : Bool} (hx : mem xs x = b) (w : World) (m : Nat) {B : Nat} (h : Sees w B A (ints xs)) (hn : xs.length ≤ 4194304) :
    Calls Try.prog 31 #[.slice A xs.length c, .int .i64 x] (w.drewN m) fun e w' => e = .returned (.bool b) ∧ ∃ k, w' = w.drewN k := by
  subst hx; exact sisIn_q A c xs x w m h hn
set_option maxHeartbeats 4000000 in
theorem sUseStatement_any (s : Cch) (x : Int) (A1 : Option Addr) (c1 : Nat) (w : World) (h : SeesN w w.heap.size A1 s) (h1 : s.n.length ≤ 4194304) :
    Calls Try.prog 17 #[.agg #[.int .i64 s.r, .slice A1 s.n.length c1], .int .i64 x] w (CacAns (useS s x) (hitB s x) w) := by
  have H1 := hid h1
  clear h1
  rcases hv : cacheB s with _ | _
  · skip
    have E3 := hid (show useB s x = false by unfold useB; rw [hv]; rfl)
    have E2 := hid (useS_no E3.out)
    have E := hid (hitB_no E3.out)
    have HV := hid hv
    clear hv
    have hB1 := Below.refl w.heap.size w
    have hB2 := hB1.alloc hB1.size (.cells #[.int .i64 s.r, .slice A1 s.n.length c1] 25)
    clear hB1
    have x3 : At (w.alloc (.cells #[.int .i64 s.r, .slice A1 s.n.length c1] 25)) (w.heap.size) 25 #[.int .i64 s.r, .slice A1 s.n.length c1] := At.newAt _ _ (by first | rfl | (simp; done) | (simp; omega))
    have hB4 := hB2.alloc hB2.size (.cells #[.int .i64 0, .slice none 0 0] 25)
    have x5 := x3.alloc (.cells #[.int .i64 0, .slice none 0 0] 25)
    clear hB2 x3
    have r6 : At ((w.alloc (.cells #[.int .i64 s.r, .slice A1 s.n.length c1] 25)).alloc (.cells #[.int .i64 0, .slice none 0 0] 25)) (w.heap.size + 1) 25 #[.int .i64 0, .slice none 0 0] := At.newAt _ _ (by first | rfl | (simp; done) | (simp; omega))
    go_enter Try.func17, Try.ntmps17
    obtain ⟨p0, p1, pl, pf⟩ := (⟨x5.cell 0, x5.cell 1, x5.lt, x5.frozen⟩ : _ ∧ _ ∧ _ ∧ _)
    obtain ⟨q0, q1, ql, qf⟩ := (⟨r6.cell 0, r6.cell 1, r6.lt, r6.frozen⟩ : _ ∧ _ ∧ _ ∧ _)
    have ne_pq : ¬ w.heap.size = w.heap.size + 1 := by omega
    have ne_qp : ¬ w.heap.size + 1 = w.heap.size := by omega
    go_wp2_with fail
    with_reducible refine (svalidCache_any s A1 c1 _ (h.on hB4) H1.out).mono ?_
    rintro e w1 ⟨he, hb1⟩
    rw [HV.out] at he
    subst he
    have sz1 : w.heap.size + 2 ≤ w1.heap.size := Nat.le_trans (by first | exact Nat.le_refl _ | (simp; done) | (simp; omega)) (hb1.size)
    have hB7 := hB4.trans (hb1.mono hB4.size)
    have x8 := x5.below hb1 x5.lt
    have r9 := r6.below hb1 r6.lt
    clear hB4 x5 r6
    clear p0 p1 pl pf q0 q1 ql qf ne_pq ne_qp
    obtain ⟨p0, p1, pl, pf⟩ := (⟨x8.cell 0, x8.cell 1, x8.lt, x8.frozen⟩ : _ ∧ _ ∧ _ ∧ _)
    obtain ⟨q0, q1, ql, qf⟩ := (⟨r9.cell 0, r9.cell 1, r9.lt, r9.frozen⟩ : _ ∧ _ ∧ _ ∧ _)
    have ne_pq : ¬ w.heap.size = w.heap.size + 1 := by omega
    have ne_qp : ¬ w.heap.size + 1 = w.heap.size := by omega
    have hB10 := below_put hB7 (grown_set w1 (w.heap.size + 1) 0 (.int .i64 0)) (by omega) (by have := hB7.size; omega)
    have x11 := x8.past (grown_set w1 (w.heap.size + 1) 0 (.int .i64 0)) (by omega)
    have r12 : At (w1.setCell ⟨w.heap.size + 1, 0, none⟩ (.int .i64 0)) (w.heap.size + 1) 25 #[.int .i64 0, .slice none 0 0] := by simpa using r9.set 0 (.int .i64 0)
    clear hB7 x8 r9
    have hB13 := below_put hB10 (grown_set (w1.setCell ⟨w.heap.size + 1, 0, none⟩ (.int .i64 0)) (w.heap.size + 1) 1 (.slice none 0 0)) (by omega) (by have := hB10.size; omega)
    have x14 := x11.past (grown_set (w1.setCell ⟨w.heap.size + 1, 0, none⟩ (.int .i64 0)) (w.heap.size + 1) 1 (.slice none 0 0)) (by omega)
    have r15 : At ((w1.setCell ⟨w.heap.size + 1, 0, none⟩ (.int .i64 0)).setCell ⟨w.heap.size + 1, 1, none⟩ (.slice none 0 0)) (w.heap.size + 1) 25 #[.int .i64 0, .slice none 0 0] := by simpa using r12.set 1 (.slice none 0 0)
    clear hB10 x11 r12
    go_wp2
    refine bodyPost_ret (v := .tuple #[.agg #[.int .i64 0, .slice none 0 0], .bool false]) (by simp [results, Try.results17, go_sem, r15.cell]) rfl ?_
    exact ⟨none, 0, by rw [E.out, E2.out]; rfl, by rw [E2.out]; exact OwnN.zero _ _, hB13⟩
  have HV := hid hv
  rcases hx : inB x 0 9 with _ | _
  · skip
    have E3 := hid (show useB s x = false from Bool.eq_false_iff.2 fun e => by rw [inB_iff.2 (useB_iff.1 e).2] at hx; cases hx)
    have E2 := hid (useS_no E3.out)
    have E := hid (hitB_no E3.out)
    have HX := hid hx
    clear hv hx
    have hB16 := Below.refl w.heap.size w
    have hB17 := hB16.alloc hB16.size (.cells #[.int .i64 s.r, .slice A1 s.n.length c1] 25)
    clear hB16
    have x18 : At (w.alloc (.cells #[.int .i64 s.r, .slice A1 s.n.length c1] 25)) (w.heap.size) 25 #[.int .i64 s.r, .slice A1 s.n.length c1] := At.newAt _ _ (by first | rfl | (simp; done) | (simp; omega))
    have hB19 := hB17.alloc hB17.size (.cells #[.int .i64 0, .slice none 0 0] 25)
    have x20 := x18.alloc (.cells #[.int .i64 0, .slice none 0 0] 25)
    clear hB17 x18
    have r21 : At ((w.alloc (.cells #[.int .i64 s.r, .slice A1 s.n.length c1] 25)).alloc (.cells #[.int .i64 0, .slice none 0 0] 25)) (w.heap.size + 1) 25 #[.int .i64 0, .slice none 0 0] := At.newAt _ _ (by first | rfl | (simp; done) | (simp; omega))
    go_enter Try.func17, Try.ntmps17
    obtain ⟨p0, p1, pl, pf⟩ := (⟨x20.cell 0, x20.cell 1, x20.lt, x20.frozen⟩ : _ ∧ _ ∧ _ ∧ _)
    obtain ⟨q0, q1, ql, qf⟩ := (⟨r21.cell 0, r21.cell 1, r21.lt, r21.frozen⟩ : _ ∧ _ ∧ _ ∧ _)
    have ne_pq : ¬ w.heap.size = w.heap.size + 1 := by omega
    have ne_qp : ¬ w.heap.size + 1 = w.heap.size := by omega
    go_wp2_with fail
    with_reducible refine (svalidCache_any s A1 c1 _ (h.on hB19) H1.out).mono ?_
    rintro e w1 ⟨he, hb1⟩
    rw [HV.out] at he
    subst he
    have sz1 : w.heap.size + 2 ≤ w1.heap.size := Nat.le_trans (by first | exact Nat.le_refl _ | (simp; done) | (simp; omega)) (hb1.size)
    have hB22 := hB19.trans (hb1.mono hB19.size)
    have x23 := x20.below hb1 x20.lt
    have r24 := r21.below hb1 r21.lt
    clear hB19 x20 r21
    clear p0 p1 pl pf q0 q1 ql qf ne_pq ne_qp
    obtain ⟨p0, p1, pl, pf⟩ := (⟨x23.cell 0, x23.cell 1, x23.lt, x23.frozen⟩ : _ ∧ _ ∧ _ ∧ _)
    obtain ⟨q0, q1, ql, qf⟩ := (⟨r24.cell 0, r24.cell 1, r24.lt, r24.frozen⟩ : _ ∧ _ ∧ _ ∧ _)
    have ne_pq : ¬ w.heap.size = w.heap.size + 1 := by omega
    have ne_qp : ¬ w.heap.size + 1 = w.heap.size := by omega
    go_wp2_with fail
    with_reducible refine (inRange_any x 0 9 _).mono ?_
    rintro e w' ⟨he, rfl⟩
    rw [HX.out] at he
    subst he
    clear p0 p1 pl pf q0 q1 ql qf ne_pq ne_qp
    obtain ⟨p0, p1, pl, pf⟩ := (⟨x23.cell 0, x23.cell 1, x23.lt, x23.frozen⟩ : _ ∧ _ ∧ _ ∧ _)
    obtain ⟨q0, q1, ql, qf⟩ := (⟨r24.cell 0, r24.cell 1, r24.lt, r24.frozen⟩ : _ ∧ _ ∧ _ ∧ _)
    have ne_pq : ¬ w.heap.size = w.heap.size + 1 := by omega
    have ne_qp : ¬ w.heap.size + 1 = w.heap.size := by omega
    have hB25 := below_put hB22 (grown_set w1 (w.heap.size + 1) 0 (.int .i64 0)) (by omega) (by have := hB22.size; omega)
    have x26 := x23.past (grown_set w1 (w.heap.size + 1) 0 (.int .i64 0)) (by omega)
    have r27 : At (w1.setCell ⟨w.heap.size + 1, 0, none⟩ (.int .i64 0)) (w.heap.size + 1) 25 #[.int .i64 0, .slice none 0 0] := by simpa using r24.set 0 (.int .i64 0)
    clear hB22 x23 r24
    have hB28 := below_put hB25 (grown_set (w1.setCell ⟨w.heap.size + 1, 0, none⟩ (.int .i64 0)) (w.heap.size + 1) 1 (.slice none 0 0)) (by omega) (by have := hB25.size; omega)
    have x29 := x26.past (grown_set (w1.setCell ⟨w.heap.size + 1, 0, none⟩ (.int .i64 0)) (w.heap.size + 1) 1 (.slice none 0 0)) (by omega)
    have r30 : At ((w1.setCell ⟨w.heap.size + 1, 0, none⟩ (.int .i64 0)).setCell ⟨w.heap.size + 1, 1, none⟩ (.slice none 0 0)) (w.heap.size + 1) 25 #[.int .i64 0, .slice none 0 0] := by simpa using r27.set 1 (.slice none 0 0)
    clear hB25 x26 r27
    go_wp2
    refine bodyPost_ret (v := .tuple #[.agg #[.int .i64 0, .slice none 0 0], .bool false]) (by simp [results, Try.results17, go_sem, r30.cell]) rfl ?_
    exact ⟨none, 0, by rw [E.out, E2.out]; rfl, by rw [E2.out]; exact OwnN.zero _ _, hB28⟩
  have HX := hid hx
  have E3 := hid (show useB s x = true from useB_iff.2 ⟨hv, inB_iff.1 hx⟩)
  have HR := hid (cache_rs hv)
  have EQ : Hid (useS s x = useC s x) := hid (useS_yes E3.out)
  have EH : Hid (hitB s x = mem s.n x) := hid (hitB_yes E3.out)
  have HL := hid (show s.n.length ≤ 1000 by have := cache_len hv; omega)
  obtain ⟨R, hR⟩ : ∃ R, R = useC s x := ⟨_, rfl⟩
  have HRr := hid (show R.r = s.r by rw [hR]; rfl)
  have HRn := hid hR
  rw [← hR] at EQ
  obtain ⟨b, hb⟩ : ∃ b, b = mem s.n x := ⟨_, rfl⟩
  rw [← hb] at EH
  have EB : Hid (memB s.n x = b) := hid hb.symm
  clear hv hx hR hb
  have hB31 := Below.refl w.heap.size w
  have hB32 := hB31.alloc hB31.size (.cells #[.int .i64 s.r, .slice A1 s.n.length c1] 25)
  clear hB31
  have x33 : At (w.alloc (.cells #[.int .i64 s.r, .slice A1 s.n.length c1] 25)) (w.heap.size) 25 #[.int .i64 s.r, .slice A1 s.n.length c1] := At.newAt _ _ (by first | rfl | (simp; done) | (simp; omega))
  have hB34 := hB32.alloc hB32.size (.cells #[.int .i64 0, .slice none 0 0] 25)
  have x35 := x33.alloc (.cells #[.int .i64 0, .slice none 0 0] 25)
  clear hB32 x33
  have r36 : At ((w.alloc (.cells #[.int .i64 s.r, .slice A1 s.n.length c1] 25)).alloc (.cells #[.int .i64 0, .slice none 0 0] 25)) (w.heap.size + 1) 25 #[.int .i64 0, .slice none 0 0] := At.newAt _ _ (by first | rfl | (simp; done) | (simp; omega))
  go_enter Try.func17, Try.ntmps17
  obtain ⟨p0, p1, pl, pf⟩ := (⟨x35.cell 0, x35.cell 1, x35.lt, x35.frozen⟩ : _ ∧ _ ∧ _ ∧ _)
  obtain ⟨q0, q1, ql, qf⟩ := (⟨r36.cell 0, r36.cell 1, r36.lt, r36.frozen⟩ : _ ∧ _ ∧ _ ∧ _)
  have ne_pq : ¬ w.heap.size = w.heap.size + 1 := by omega
  have ne_qp : ¬ w.heap.size + 1 = w.heap.size := by omega
  go_wp2_with fail
  with_reducible refine (svalidCache_any s A1 c1 _ (h.on hB34) H1.out).mono ?_
  rintro e w1 ⟨he, hb1⟩
  rw [HV.out] at he
  subst he
  have sz1 : w.heap.size + 2 ≤ w1.heap.size := Nat.le_trans (by first | exact Nat.le_refl _ | (simp; done) | (simp; omega)) (hb1.size)
  have hB37 := hB34.trans (hb1.mono hB34.size)
  have x38 := x35.below hb1 x35.lt
  have r39 := r36.below hb1 r36.lt
  clear hB34 x35 r36
  clear p0 p1 pl pf q0 q1 ql qf ne_pq ne_qp
  obtain ⟨p0, p1, pl, pf⟩ := (⟨x38.cell 0, x38.cell 1, x38.lt, x38.frozen⟩ : _ ∧ _ ∧ _ ∧ _)
  obtain ⟨q0, q1, ql, qf⟩ := (⟨r39.cell 0, r39.cell 1, r39.lt, r39.frozen⟩ : _ ∧ _ ∧ _ ∧ _)
  have ne_pq : ¬ w.heap.size = w.heap.size + 1 := by omega
  have ne_qp : ¬ w.heap.size + 1 = w.heap.size := by omega
  go_wp2_with fail
  with_reducible refine (inRange_any x 0 9 _).mono ?_
  rintro e w' ⟨he, rfl⟩
  rw [HX.out] at he
  subst he
  clear p0 p1 pl pf q0 q1 ql qf ne_pq ne_qp
  have xd := x38.drew
  have rd := r39.drew
  have hBd := hB37.drew
  have hsd := h.on hBd
  obtain ⟨p0, p1, pl, pf⟩ := x38.two
  go_wp2_with fail
  go_region_held3 (fun w' => w'.cell? ⟨w.heap.size, 0, none⟩ = some (.int .i64 s.r) ∧ w'.cell? ⟨w.heap.size, 1, none⟩ = some (.slice A1 s.n.length c1))
    (first | with_reducible exact ⟨p0, p1⟩ | with_reducible exact ⟨q0, q1⟩ | go_keep)
    (first
      | (go_at_call 39; (with_reducible refine (useM_any s x A1 c1 _ hsd HL.out HR.out).mono ?_); rintro e w9 ⟨A9, c9, he, ho9, hb9⟩; rw [← HRn.out] at he ho9; rw [HRr.out] at he; subst he; have x9 := xd.below hb9 xd.lt; have r9 := rd.below hb9 rd.lt; have hB9 := hBd.trans (hb9.mono hBd.size); have hs9 := hsd.on hb9; obtain ⟨q0, q1, ql, qf⟩ := x9.two; obtain ⟨t0, t1, tl, tf⟩ := r9.two)
      | (go_at_call 31; (with_reducible refine (sisIn_any A1 c1 s.n x _ (by first | exact hs9.names | exact hsd.names) (Nat.le_trans H1.out (by decide))).mono ?_); rintro e w' ⟨he, rfl⟩; rw [EB.out] at he; subst he)
      | fail)
  all_goals
    obtain ⟨hp2, hg2⟩ := two_put (.int .i64 s.r) (.slice A9 R.n.length c9) r9 rfl
    have hBz := below_put hB9 hg2 (Nat.le_succ _) hB9.size
    have hOz : OwnN _ w.heap.size A9 c9 R := OwnN.past (OwnN.mono (show OwnN w9 _ A9 c9 R from ho9) hBd.size) r9 (by decide) hg2
    go_wp2
    refine bodyPost_ret (v := .tuple #[.agg #[.int .i64 s.r, .slice A9 R.n.length c9], .bool b]) (by simp [results, Try.results17, go_sem, hp2.cell]) rfl ?_
    exact ⟨A9, c9, by rw [EQ.out, EH.out, HRr.out], by rw [EQ.out]; exact hOz, hBz⟩

set_option maxHeartbeats 4000000 in
theorem sDropStatement_any (s : Cch) (x : Int) (A1 : Option Addr) (c1 : Nat) (w : World) (h : SeesN w w.heap.size A1 s) (h1 : s.n.length ≤ 4194304) :
    Calls Try.prog 13 #[.agg #[.int .i64 s.r, .slice A1 s.n.length c1], .int .i64 x] w (CacAns (dropS s x) (dropB s x) w) := by
  have H1 := hid h1
  clear h1
  rcases hv : cacheB s with _ | _
  · skip
    have E := hid (show dropB s x = false by unfold dropB; rw [hv]; rfl)
    have E2 := hid (dropS_no E.out)
    have HV := hid hv
    clear hv
    have hB1 := Below.refl w.heap.size w
    have hB2 := hB1.alloc hB1.size (.cells #[.int .i64 s.r, .slice A1 s.n.length c1] 25)
    clear hB1
    have x3 : At (w.alloc (.cells #[.int .i64 s.r, .slice A1 s.n.length c1] 25)) (w.heap.size) 25 #[.int .i64 s.r, .slice A1 s.n.length c1] := At.newAt _ _ (by first | rfl | (simp; done) | (simp; omega))
    have hB4 := hB2.alloc hB2.size (.cells #[.int .i64 0, .slice none 0 0] 25)
    have x5 := x3.alloc (.cells #[.int .i64 0, .slice none 0 0] 25)
    clear hB2 x3
    have r6 : At ((w.alloc (.cells #[.int .i64 s.r, .slice A1 s.n.length c1] 25)).alloc (.cells #[.int .i64 0, .slice none 0 0] 25)) (w.heap.size + 1) 25 #[.int .i64 0, .slice none 0 0] := At.newAt _ _ (by first | rfl | (simp; done) | (simp; omega))
    go_enter Try.func13, Try.ntmps13
    obtain ⟨p0, p1, pl, pf⟩ := (⟨x5.cell 0, x5.cell 1, x5.lt, x5.frozen⟩ : _ ∧ _ ∧ _ ∧ _)
    obtain ⟨q0, q1, ql, qf⟩ := (⟨r6.cell 0, r6.cell 1, r6.lt, r6.frozen⟩ : _ ∧ _ ∧ _ ∧ _)
    have ne_pq : ¬ w.heap.size = w.heap.size + 1 := by omega
    have ne_qp : ¬ w.heap.size + 1 = w.heap.size := by omega
    go_wp2_with fail
    with_reducible refine (svalidCache_any s A1 c1 _ (h.on hB4) H1.out).mono ?_
    rintro e w1 ⟨he, hb1⟩
    rw [HV.out] at he
    subst he
    have sz1 : w.heap.size + 2 ≤ w1.heap.size := Nat.le_trans (by first | exact Nat.le_refl _ | (simp; done) | (simp; omega)) (hb1.size)
    have hB7 := hB4.trans (hb1.mono hB4.size)
    have x8 := x5.below hb1 x5.lt
    have r9 := r6.below hb1 r6.lt
    clear hB4 x5 r6
    clear p0 p1 pl pf q0 q1 ql qf ne_pq ne_qp
    obtain ⟨p0, p1, pl, pf⟩ := (⟨x8.cell 0, x8.cell 1, x8.lt, x8.frozen⟩ : _ ∧ _ ∧ _ ∧ _)
    obtain ⟨q0, q1, ql, qf⟩ := (⟨r9.cell 0, r9.cell 1, r9.lt, r9.frozen⟩ : _ ∧ _ ∧ _ ∧ _)
    have ne_pq : ¬ w.heap.size = w.heap.size + 1 := by omega
    have ne_qp : ¬ w.heap.size + 1 = w.heap.size := by omega
    have hB10 := below_put hB7 (grown_set w1 (w.heap.size + 1) 0 (.int .i64 0)) (by omega) (by have := hB7.size; omega)
    have x11 := x8.past (grown_set w1 (w.heap.size + 1) 0 (.int .i64 0)) (by omega)
    have r12 : At (w1.setCell ⟨w.heap.size + 1, 0, none⟩ (.int .i64 0)) (w.heap.size + 1) 25 #[.int .i64 0, .slice none 0 0] := by simpa using r9.set 0 (.int .i64 0)
    clear hB7 x8 r9
    have hB13 := below_put hB10 (grown_set (w1.setCell ⟨w.heap.size + 1, 0, none⟩ (.int .i64 0)) (w.heap.size + 1) 1 (.slice none 0 0)) (by omega) (by have := hB10.size; omega)
    have x14 := x11.past (grown_set (w1.setCell ⟨w.heap.size + 1, 0, none⟩ (.int .i64 0)) (w.heap.size + 1) 1 (.slice none 0 0)) (by omega)
    have r15 : At ((w1.setCell ⟨w.heap.size + 1, 0, none⟩ (.int .i64 0)).setCell ⟨w.heap.size + 1, 1, none⟩ (.slice none 0 0)) (w.heap.size + 1) 25 #[.int .i64 0, .slice none 0 0] := by simpa using r12.set 1 (.slice none 0 0)
    clear hB10 x11 r12
    go_wp2
    refine bodyPost_ret (v := .tuple #[.agg #[.int .i64 0, .slice none 0 0], .bool false]) (by simp [results, Try.results13, go_sem, r15.cell]) rfl ?_
    exact ⟨none, 0, by rw [E.out, E2.out]; rfl, by rw [E2.out]; exact OwnN.zero _ _, hB13⟩
  have HV := hid hv
  rcases hx : memB s.n x with _ | _
  · skip
    have E := hid (show dropB s x = false by unfold dropB; rw [← mem_memB, hx, hv]; rfl)
    have E2 := hid (dropS_no E.out)
    have EV := hid hx
    clear hv hx
    have hB16 := Below.refl w.heap.size w
    have hB17 := hB16.alloc hB16.size (.cells #[.int .i64 s.r, .slice A1 s.n.length c1] 25)
    clear hB16
    have x18 : At (w.alloc (.cells #[.int .i64 s.r, .slice A1 s.n.length c1] 25)) (w.heap.size) 25 #[.int .i64 s.r, .slice A1 s.n.length c1] := At.newAt _ _ (by first | rfl | (simp; done) | (simp; omega))
    have hB19 := hB17.alloc hB17.size (.cells #[.int .i64 0, .slice none 0 0] 25)
    have x20 := x18.alloc (.cells #[.int .i64 0, .slice none 0 0] 25)
    clear hB17 x18
    have r21 : At ((w.alloc (.cells #[.int .i64 s.r, .slice A1 s.n.length c1] 25)).alloc (.cells #[.int .i64 0, .slice none 0 0] 25)) (w.heap.size + 1) 25 #[.int .i64 0, .slice none 0 0] := At.newAt _ _ (by first | rfl | (simp; done) | (simp; omega))
    go_enter Try.func13, Try.ntmps13
    obtain ⟨p0, p1, pl, pf⟩ := (⟨x20.cell 0, x20.cell 1, x20.lt, x20.frozen⟩ : _ ∧ _ ∧ _ ∧ _)
    obtain ⟨q0, q1, ql, qf⟩ := (⟨r21.cell 0, r21.cell 1, r21.lt, r21.frozen⟩ : _ ∧ _ ∧ _ ∧ _)
    have ne_pq : ¬ w.heap.size = w.heap.size + 1 := by omega
    have ne_qp : ¬ w.heap.size + 1 = w.heap.size := by omega
    go_wp2_with fail
    with_reducible refine (svalidCache_any s A1 c1 _ (h.on hB19) H1.out).mono ?_
    rintro e w1 ⟨he, hb1⟩
    rw [HV.out] at he
    subst he
    have sz1 : w.heap.size + 2 ≤ w1.heap.size := Nat.le_trans (by first | exact Nat.le_refl _ | (simp; done) | (simp; omega)) (hb1.size)
    have hB22 := hB19.trans (hb1.mono hB19.size)
    have x23 := x20.below hb1 x20.lt
    have r24 := r21.below hb1 r21.lt
    clear hB19 x20 r21
    clear p0 p1 pl pf q0 q1 ql qf ne_pq ne_qp
    obtain ⟨p0, p1, pl, pf⟩ := (⟨x23.cell 0, x23.cell 1, x23.lt, x23.frozen⟩ : _ ∧ _ ∧ _ ∧ _)
    obtain ⟨q0, q1, ql, qf⟩ := (⟨r24.cell 0, r24.cell 1, r24.lt, r24.frozen⟩ : _ ∧ _ ∧ _ ∧ _)
    have ne_pq : ¬ w.heap.size = w.heap.size + 1 := by omega
    have ne_qp : ¬ w.heap.size + 1 = w.heap.size := by omega
    go_wp2_with fail
    with_reducible refine (sisIn_any A1 c1 s.n x _ ((h.on hB22)).names (Nat.le_trans H1.out (by decide))).mono ?_
    rintro e w' ⟨he, rfl⟩
    rw [EV.out] at he
    subst he
    clear p0 p1 pl pf q0 q1 ql qf ne_pq ne_qp
    obtain ⟨p0, p1, pl, pf⟩ := (⟨x23.cell 0, x23.cell 1, x23.lt, x23.frozen⟩ : _ ∧ _ ∧ _ ∧ _)
    obtain ⟨q0, q1, ql, qf⟩ := (⟨r24.cell 0, r24.cell 1, r24.lt, r24.frozen⟩ : _ ∧ _ ∧ _ ∧ _)
    have ne_pq : ¬ w.heap.size = w.heap.size + 1 := by omega
    have ne_qp : ¬ w.heap.size + 1 = w.heap.size := by omega
    have hB25 := below_put hB22 (grown_set w1 (w.heap.size + 1) 0 (.int .i64 0)) (by omega) (by have := hB22.size; omega)
    have x26 := x23.past (grown_set w1 (w.heap.size + 1) 0 (.int .i64 0)) (by omega)
    have r27 : At (w1.setCell ⟨w.heap.size + 1, 0, none⟩ (.int .i64 0)) (w.heap.size + 1) 25 #[.int .i64 0, .slice none 0 0] := by simpa using r24.set 0 (.int .i64 0)
    clear hB22 x23 r24
    have hB28 := below_put hB25 (grown_set (w1.setCell ⟨w.heap.size + 1, 0, none⟩ (.int .i64 0)) (w.heap.size + 1) 1 (.slice none 0 0)) (by omega) (by have := hB25.size; omega)
    have x29 := x26.past (grown_set (w1.setCell ⟨w.heap.size + 1, 0, none⟩ (.int .i64 0)) (w.heap.size + 1) 1 (.slice none 0 0)) (by omega)
    have r30 : At ((w1.setCell ⟨w.heap.size + 1, 0, none⟩ (.int .i64 0)).setCell ⟨w.heap.size + 1, 1, none⟩ (.slice none 0 0)) (w.heap.size + 1) 25 #[.int .i64 0, .slice none 0 0] := by simpa using r27.set 1 (.slice none 0 0)
    clear hB25 x26 r27
    go_wp2
    refine bodyPost_ret (v := .tuple #[.agg #[.int .i64 0, .slice none 0 0], .bool false]) (by simp [results, Try.results13, go_sem, r30.cell]) rfl ?_
    exact ⟨none, 0, by rw [E.out, E2.out]; rfl, by rw [E2.out]; exact OwnN.zero _ _, hB28⟩
  have E3 := hid (show dropB s x = true by unfold dropB; rw [← mem_memB, hx, hv]; rfl)
  have EV := hid hx
  have EQ : Hid (dropS s x = dropC s x) := hid (dropS_yes E3.out)
  have EH := E3
  obtain ⟨R, hR⟩ : ∃ R, R = dropC s x := ⟨_, rfl⟩
  have HRr := hid (show R.r = s.r by rw [hR]; rfl)
  have HRn := hid (show wo s.n x = R.n by rw [hR]; rfl)
  rw [← hR] at EQ
  clear hv hx hR
  have hB31 := Below.refl w.heap.size w
  have hB32 := hB31.alloc hB31.size (.cells #[.int .i64 s.r, .slice A1 s.n.length c1] 25)
  clear hB31
  have x33 : At (w.alloc (.cells #[.int .i64 s.r, .slice A1 s.n.length c1] 25)) (w.heap.size) 25 #[.int .i64 s.r, .slice A1 s.n.length c1] := At.newAt _ _ (by first | rfl | (simp; done) | (simp; omega))
  have hB34 := hB32.alloc hB32.size (.cells #[.int .i64 0, .slice none 0 0] 25)
  have x35 := x33.alloc (.cells #[.int .i64 0, .slice none 0 0] 25)
  clear hB32 x33
  have r36 : At ((w.alloc (.cells #[.int .i64 s.r, .slice A1 s.n.length c1] 25)).alloc (.cells #[.int .i64 0, .slice none 0 0] 25)) (w.heap.size + 1) 25 #[.int .i64 0, .slice none 0 0] := At.newAt _ _ (by first | rfl | (simp; done) | (simp; omega))
  go_enter Try.func13, Try.ntmps13
  obtain ⟨p0, p1, pl, pf⟩ := (⟨x35.cell 0, x35.cell 1, x35.lt, x35.frozen⟩ : _ ∧ _ ∧ _ ∧ _)
  obtain ⟨q0, q1, ql, qf⟩ := (⟨r36.cell 0, r36.cell 1, r36.lt, r36.frozen⟩ : _ ∧ _ ∧ _ ∧ _)
  have ne_pq : ¬ w.heap.size = w.heap.size + 1 := by omega
  have ne_qp : ¬ w.heap.size + 1 = w.heap.size := by omega
  go_wp2_with fail
  with_reducible refine (svalidCache_any s A1 c1 _ (h.on hB34) H1.out).mono ?_
  rintro e w1 ⟨he, hb1⟩
  rw [HV.out] at he
  subst he
  have sz1 : w.heap.size + 2 ≤ w1.heap.size := Nat.le_trans (by first | exact Nat.le_refl _ | (simp; done) | (simp; omega)) (hb1.size)
  have hB37 := hB34.trans (hb1.mono hB34.size)
  have x38 := x35.below hb1 x35.lt
  have r39 := r36.below hb1 r36.lt
  clear hB34 x35 r36
  clear p0 p1 pl pf q0 q1 ql qf ne_pq ne_qp
  obtain ⟨p0, p1, pl, pf⟩ := (⟨x38.cell 0, x38.cell 1, x38.lt, x38.frozen⟩ : _ ∧ _ ∧ _ ∧ _)
  obtain ⟨q0, q1, ql, qf⟩ := (⟨r39.cell 0, r39.cell 1, r39.lt, r39.frozen⟩ : _ ∧ _ ∧ _ ∧ _)
  have ne_pq : ¬ w.heap.size = w.heap.size + 1 := by omega
  have ne_qp : ¬ w.heap.size + 1 = w.heap.size := by omega
  go_wp2_with fail
  with_reducible refine (sisIn_any A1 c1 s.n x _ ((h.on hB37)).names (Nat.le_trans H1.out (by decide))).mono ?_
  rintro e w' ⟨he, rfl⟩
  rw [EV.out] at he
  subst he
  clear p0 p1 pl pf q0 q1 ql qf ne_pq ne_qp
  have xd := x38.drew
  have rd := r39.drew
  have hBd := hB37.drew
  have hsd := h.on hBd
  obtain ⟨p0, p1, pl, pf⟩ := x38.two
  go_wp2_with fail
  go_region_held3 (fun w' => w'.cell? ⟨w.heap.size, 0, none⟩ = some (.int .i64 s.r) ∧ w'.cell? ⟨w.heap.size, 1, none⟩ = some (.slice A1 s.n.length c1))
    (first | with_reducible exact ⟨p0, p1⟩ | with_reducible exact ⟨q0, q1⟩ | go_keep)
    (first
      | (go_at_call 32; (refine (leave_any A1 c1 s.n x _ hsd.names H1.out).mono ?_); rintro e w9 ⟨v9, rfl, ho9, hb9⟩; rw [HRn.out] at ho9; obtain ⟨A9, c9, rfl, _⟩ := ho9.form; have x9 := xd.below hb9 xd.lt; have r9 := rd.below hb9 rd.lt; have hB9 := hBd.trans (hb9.mono hBd.size); have hs9 := hsd.on hb9; obtain ⟨q0, q1, ql, qf⟩ := x9.two; obtain ⟨t0, t1, tl, tf⟩ := r9.two)
      | fail)
  all_goals
    obtain ⟨hp2, hg2⟩ := two_put (.int .i64 s.r) (.slice A9 R.n.length c9) r9 rfl
    have hBz := below_put hB9 hg2 (Nat.le_succ _) hB9.size
    have hOz : OwnN _ w.heap.size A9 c9 R := OwnN.past (OwnN.mono (show OwnN w9 _ A9 c9 R from ho9) hBd.size) r9 (by decide) hg2
    go_wp2
    refine bodyPost_ret (v := .tuple #[.agg #[.int .i64 s.r, .slice A9 R.n.length c9], .bool true]) (by simp [results, Try.results13, go_sem, hp2.cell]) rfl ?_
    exact ⟨A9, c9, by rw [EQ.out, EH.out, HRr.out], by rw [EQ.out]; exact hOz, hBz⟩

set_option maxHeartbeats 8000000 in
theorem sCountPrepares_any (s : Cch) (l : List Int) (A1 A2 : Option Addr) (c1 c2 : Nat) (w : World) (h : SeesN w w.heap.size A1 s) (hl : Sees w w.heap.size A2 (ints l)) (h1 : s.n.length ≤ 4194304) (h2 : l.length ≤ 4194304) :
    Calls Try.prog 24 #[.agg #[.int .i64 s.r, .slice A1 s.n.length c1], .slice A2 l.length c2] w fun e w' => e = .returned (.int .i64 (prepV s l)) ∧ Below w.heap.size w w' := by
  have H1 := hid h1
  have H2 := hid h2
  clear h1 h2
  have px0 := At.new w 25 #[.int .i64 s.r, .slice A1 s.n.length c1]
  have hB0 := (Below.refl w.heap.size w).alloc (Nat.le_refl _) (.cells #[.int .i64 s.r, .slice A1 s.n.length c1] 25)
  have hs0 := h.on hB0
  rcases hv : cacheB s with _ | _
  · have E := hid (prepV_no (c := s) (l := l) (by simp [hv]))
    have HV := hid hv
    clear hv
    obtain ⟨p0, p1, pl, pf⟩ := px0.two
    go_enter Try.func24, Try.ntmps24
    go_wp2_with fail
    with_reducible refine (svalidCache_any s A1 c1 _ hs0 H1.out).mono ?_
    rintro e w1 ⟨he, hb1⟩
    rw [HV.out] at he
    subst he
    go_wp2
    go_ret
    exact ⟨ret_int E.out.symm, hB0.trans (hb1.mono hB0.size)⟩
  by_cases hm1 : (l.length : Int) > 16
  · have E := hid (prepV_no (c := s) (l := l) (fun hh => by have := (namesB_iff.1 hh.2).1; omega))
    have HV := hid hv
    clear hv
    obtain ⟨p0, p1, pl, pf⟩ := px0.two
    go_enter Try.func24, Try.ntmps24
    go_wp2_with fail
    with_reducible refine (svalidCache_any s A1 c1 _ hs0 H1.out).mono ?_
    rintro e w1 ⟨he, hb1⟩
    rw [HV.out] at he
    subst he
    have hB1 := hB0.trans (hb1.mono hB0.size)
    go_wp2
    go_ret
    exact ⟨ret_int E.out.symm, hB1⟩
  rcases hm : allB l 0 9 with _ | _
  · have E := hid (prepV_no (c := s) (l := l) (fun hh => inN_no.1 hm (namesB_iff.1 hh.2).2))
    have HV := hid hv
    have HM := hid hm
    clear hv hm
    obtain ⟨p0, p1, pl, pf⟩ := px0.two
    go_enter Try.func24, Try.ntmps24
    go_wp2_with fail
    with_reducible refine (svalidCache_any s A1 c1 _ hs0 H1.out).mono ?_
    rintro e w1 ⟨he, hb1⟩
    rw [HV.out] at he
    subst he
    have hB1 := hB0.trans (hb1.mono hB0.size)
    go_wp2_with fail
    with_reducible refine (allIn_any A2 c2 l 0 9 _ (hl.on4 hB1) (Nat.le_trans H2.out (by decide))).mono ?_
    rintro e w' ⟨he, rfl⟩
    rw [HM.out] at he
    subst he
    go_wp2
    go_ret
    exact ⟨ret_int E.out.symm, hB1⟩
  have hnb : namesB l = true := namesB_iff.2 ⟨by omega, inN_allB.1 hm⟩
  have E := hid (prepV_yes hv hnb)
  have HV := hid hv
  have HM := hid hm
  have HN := hid (namesB_iff.1 hnb)
  clear hv hm hnb
  obtain ⟨p0, p1, pl, pf⟩ := px0.two
  go_enter Try.func24, Try.ntmps24
  go_wp2_with fail
  with_reducible refine (svalidCache_any s A1 c1 _ hs0 H1.out).mono ?_
  rintro e w1 ⟨he, hb1⟩
  rw [HV.out] at he
  subst he
  have hB1 := hB0.trans (hb1.mono hB0.size)
  have px1 := px0.below hb1 px0.lt
  clear px0 hs0 p0 p1 pl pf hB0 hb1
  go_wp2_with fail
  with_reducible refine (allIn_any A2 c2 l 0 9 _ (hl.on4 hB1) (Nat.le_trans H2.out (by decide))).mono ?_
  rintro e w' ⟨he, rfl⟩
  rw [HM.out] at he
  subst he
  have hs3 : SeesF w1 (fun b => b = w.heap.size) A1 (ints s.n) := SeesF.of_sees (h.below hB1).names hB1.size (fun b hb e => by omega)
  go_wp2
  go_loopw [5, 6] (fun v i wr => ∃ (k : Nat) (n : Int) (C : Cch) (B : Option Addr) (d : Nat), k ≤ l.length ∧ i = .int .i64 k ∧ v = .int .i64 n ∧ Hid (prep s (l.take k) = n) ∧ Hid (after s (l.take k) = C) ∧ At wr w.heap.size 25 #[.int .i64 C.r, .slice B C.n.length d] ∧ SeesF wr (fun b => b = w.heap.size) B (ints C.n) ∧ Below w.heap.size w wr) (fun _ i _ => l.length - (intOf i).toNat)
  case atStart => exact ⟨0, 0, s, A1, c1, Nat.zero_le _, rfl, rfl, hid rfl, hid rfl, px1, hs3, hB1⟩
  case round =>
    clear px1 hs3 hB1
    obtain ⟨k, n, C, B, d, hk, rfl, rfl, HP, HA, px, hs, hb⟩ := hrel
    have hn := H2.out
    by_cases hlt : k < l.length
    · have hi : (k : Int) < (l.length : Int) := by omega
      have hi0 : (0 : Int) ≤ (k : Int) := by omega
      obtain ⟨b, o, rfl, hbl, e0⟩ := (hl.below hb).int hlt
      have hv := after_valid (c := s) (l := l.take k) HV.out (fun x hx => HN.out.2 x (List.mem_of_mem_take hx))
      have hx := HN.out.2 _ (List.getElem_mem hlt)
      rw [HA.out] at hv
      have HP2 : Hid (prep s (l.take (k + 1)) = n + if mem C.n l[k] = true then 0 else 1) := hid (by rw [prep_succ hlt, HP.out, HA.out])
      have HA2 : Hid (after s (l.take (k + 1)) = useC C l[k]) := hid (by rw [after_succ hlt, HA.out])
      have hr := prep_range s (l.take k)
      rw [HP.out] at hr
      have hlk : (l.take k).length ≤ 16 := by have := HN.out.1; rw [List.length_take]; omega
      obtain ⟨x, hxx⟩ : ∃ x, x = l[k] := ⟨_, rfl⟩
      rw [← hxx] at e0 HP2 HA2
      have HCL := hid (show C.n.length ≤ 1000 by have := cache_len hv; omega)
      have HCL4 := hid (show C.n.length ≤ 4194304 by have := cache_len hv; omega)
      have HCR := hid (cache_rs hv)
      obtain ⟨D, hD⟩ : ∃ D, D = useC C x := ⟨_, rfl⟩
      have HD := hid hD
      rw [← hD] at HA2
      clear hxx hD hv hx
      obtain ⟨p0, p1, pl, pf⟩ := px.two
      have hz := hb.size
      have hnw : IntKind.i64.wrap (n + 1) = n + 1 := by rw [IntKind.wrap_i64]; omega
      have hnw0 : IntKind.i64.wrap n = n := by rw [IntKind.wrap_i64]; omega
      have HS := hid (show Sees wr wr.heap.size B (ints C.n) from hs.sees)
      rcases hm : mem C.n x with _ | _
      all_goals
        have HMM := hid hm
        rw [hm] at HP2
        clear hm
        go_wp2_with fail
        go_quiet (first
          | (go_at_call 31; (with_reducible refine sisIn_qb HMM.out _ _ HS.out HCL4.out))
          | (go_at_call 45; (with_reducible refine caToInt_q _ _ _)))
        have pxd := (px.drewN nq).drew
        have hbd := (below_drewN hb nq).drew
        have hsd := hs.below (below_drewN (Below.refl _ _) nq).drew
        have y2 : (wr.drewN nq).drew.cell? ⟨b, o + k, none⟩ = some (.int .i64 x) := e0
        have hbl2 := Nat.lt_of_lt_of_le hbl hbd.size
        clear p0 p1 pl pf e0 px hb hs
        go_wp2_with fail
        refine wp_region_still_tail 5 (by kernel_rfl) (by kernel_rfl) ?_
        simp only [List.take_succ_cons, List.take_zero, List.drop_succ_cons, List.drop_zero]
        change wpStill _ _ (World.drew (wr.drewN nq)) (fun a' => wpList _ _ _ _ a' (World.drew (wr.drewN nq))) _ _
        obtain ⟨wz, hwz⟩ : ∃ wz, wz = World.drew (wr.drewN nq) := ⟨_, rfl⟩
        rw [← hwz] at pxd hbd hsd y2 hbl2 ⊢
        clear hwz
        obtain ⟨p0, p1, pl, pf⟩ := pxd.two
        repeat still_step
        refine wpStill_nil ?_
        go_wp2_with fail
        with_reducible refine (useM_any C x B d _ (SeesN.of hsd.sees) HCL.out HCR.out).mono ?_
        rintro e w9 ⟨A9, c9, he, ho9, hb9⟩
        rw [← HD.out] at he ho9
        subst he
        have x9 := pxd.below hb9 pxd.lt
        have hB9 := hbd.trans (hb9.mono hbd.size)
        clear p0 p1 pl pf y2
        obtain ⟨px3, g3⟩ := two_put (.int .i64 D.r) (.slice A9 D.n.length c9) x9 rfl
        have hb4 := below_put hB9 g3 (Nat.le_refl _) hB9.size
        have hO4 := OwnN.past ho9 x9 (by decide) g3
        have hs4 : SeesF _ (fun b => b = w.heap.size) A9 (ints D.n) := SeesF.of_row hO4.own.out (fun b hb _ e => by have := pxd.lt; omega)
        obtain ⟨q0, q1, ql, qf⟩ := x9.two
        clear x9 g3 ho9 hO4
        go_wp2
        go_roundw
        case rel => exact ⟨k + 1, _, D, A9, c9, by omega, by go_num, rfl, hid (by rw [HP2.out]; simp), HA2, px3, hs4, hb4⟩
        case measure => simp [intOf]; omega
    · have hi : ¬ (k : Int) < (l.length : Int) := by omega
      have HX := hid (show prepV s l = n by have := HP.out; rw [take_whole hlt] at this; rw [E.out, this])
      go_wp2
      go_ret
      exact ⟨ret_int HX.out.symm, hb⟩

end Go.Proofs.Ytgliijkpjncfnab

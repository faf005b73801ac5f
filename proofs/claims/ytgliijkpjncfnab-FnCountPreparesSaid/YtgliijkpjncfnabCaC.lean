/-
  What the program's UseStatement and DropStatement answer. Condition: the list lies in memory.
-/
import Derived.Test.YtgliijkpjncfnabCaB
import Derived.Deep.RegionHeld3
namespace Go.Proofs.Ytgliijkpjncfnab
open Go.RowKit Cac

theorem cache_r {s : Cch} (h : cacheB s = true) : 0 ≤ s.r ∧ s.r ≤ 4194304 := by have := cache_room h; omega
theorem lastNumbers_int {A : Option Addr} {c n : Nat} {r : Int} {l : List Int} {w : World} (hl : l.length = n) (h : Sees w w.heap.size A (ints l)) (hc : l.length ≤ c) (hcc : c ≤ maxLen) (hn : l.length ≤ 4194304) (hr : 0 ≤ r ∧ r ≤ 4194304) :
    Calls Try.prog 34 #[.slice A n c, .int .i64 r] w fun e w' => ∃ v, e = .returned v ∧ Own w' w.heap.size v (lastN l r.toNat) ∧ Below w.heap.size w w' := by
  subst hl
  obtain ⟨m, rfl⟩ : ∃ m : Nat, r = m := ⟨r.toNat, by omega⟩
  exact lastNumbers_any A c m l w h hc hcc hn (by omega)
set_option maxHeartbeats 4000000 in
theorem iUseStatement_any (s : Cch) (x : Int) (A1 : Option Addr) (c1 : Nat) (w : World) (h : SeesN w w.heap.size A1 s) (hc : s.n.length ≤ c1) (h1 : s.n.length ≤ 4194304) :
    Calls Try.prog 15 #[.agg #[.int .i64 s.r, .slice A1 s.n.length c1], .int .i64 x] w (CacAns (useS s x) (hitB s x) w) := by
  obtain ⟨i0, hi0, hz0, hz1, hz2⟩ := info_parts intInfo
  have H1 := hid h1
  have HC := hid hc
  clear h1 hc
  rcases hv : cacheB s with _ | _
  · skip
    have E3 := hid (show useB s x = false by unfold useB; rw [hv]; rfl)
    have E2 := hid (useS_no E3.out)
    have E := hid (hitB_no E3.out)
    have HV := hid hv
    clear hv
    have hB1 := Below.refl w.heap.size w
    have hB2 := hB1.alloc hB1.size (.cells #[.int .i64 s.r, .slice A1 s.n.length c1] 25)
    clear hB1
    have x3 : At (w.alloc (.cells #[.int .i64 s.r, .slice A1 s.n.length c1] 25)) (w.heap.size) 25 #[.int .i64 s.r, .slice A1 s.n.length c1] := At.newAt _ _ (by first | rfl | (simp; done) | (simp; omega))
    have hB4 := hB2.alloc hB2.size (.cells #[.int .i64 0, .slice none 0 0] 25)
    have x5 := x3.alloc (.cells #[.int .i64 0, .slice none 0 0] 25)
    clear hB2 x3
    have r6 : At ((w.alloc (.cells #[.int .i64 s.r, .slice A1 s.n.length c1] 25)).alloc (.cells #[.int .i64 0, .slice none 0 0] 25)) (w.heap.size + 1) 25 #[.int .i64 0, .slice none 0 0] := At.newAt _ _ (by first | rfl | (simp; done) | (simp; omega))
    go_enter Try.func15, Try.ntmps15
    obtain ⟨p0, p1, pl, pf⟩ := (⟨x5.cell 0, x5.cell 1, x5.lt, x5.frozen⟩ : _ ∧ _ ∧ _ ∧ _)
    obtain ⟨q0, q1, ql, qf⟩ := (⟨r6.cell 0, r6.cell 1, r6.lt, r6.frozen⟩ : _ ∧ _ ∧ _ ∧ _)
    have ne_pq : ¬ w.heap.size = w.heap.size + 1 := by omega
    have ne_qp : ¬ w.heap.size + 1 = w.heap.size := by omega
    go_wp2_with fail
    with_reducible refine (iValidCache_any s A1 c1 _ (h.on hB4) HC.out H1.out).mono ?_
    rintro e w1 ⟨he, hb1⟩
    rw [HV.out] at he
    subst he
    have sz1 : w.heap.size + 2 ≤ w1.heap.size := Nat.le_trans (by first | exact Nat.le_refl _ | (simp; done) | (simp; omega)) (hb1.size)
    have hB7 := hB4.trans (hb1.mono hB4.size)
    have x8 := x5.below hb1 x5.lt
    have r9 := r6.below hb1 r6.lt
    clear hB4 x5 r6
    clear p0 p1 pl pf q0 q1 ql qf ne_pq ne_qp
    obtain ⟨p0, p1, pl, pf⟩ := (⟨x8.cell 0, x8.cell 1, x8.lt, x8.frozen⟩ : _ ∧ _ ∧ _ ∧ _)
    obtain ⟨q0, q1, ql, qf⟩ := (⟨r9.cell 0, r9.cell 1, r9.lt, r9.frozen⟩ : _ ∧ _ ∧ _ ∧ _)
    have ne_pq : ¬ w.heap.size = w.heap.size + 1 := by omega
    have ne_qp : ¬ w.heap.size + 1 = w.heap.size := by omega
    have hB10 := below_put hB7 (grown_set w1 (w.heap.size + 1) 0 (.int .i64 0)) (by omega) (by have := hB7.size; omega)
    have x11 := x8.past (grown_set w1 (w.heap.size + 1) 0 (.int .i64 0)) (by omega)
    have r12 : At (w1.setCell ⟨w.heap.size + 1, 0, none⟩ (.int .i64 0)) (w.heap.size + 1) 25 #[.int .i64 0, .slice none 0 0] := by simpa using r9.set 0 (.int .i64 0)
    clear hB7 x8 r9
    have hB13 := below_put hB10 (grown_set (w1.setCell ⟨w.heap.size + 1, 0, none⟩ (.int .i64 0)) (w.heap.size + 1) 1 (.slice none 0 0)) (by omega) (by have := hB10.size; omega)
    have x14 := x11.past (grown_set (w1.setCell ⟨w.heap.size + 1, 0, none⟩ (.int .i64 0)) (w.heap.size + 1) 1 (.slice none 0 0)) (by omega)
    have r15 : At ((w1.setCell ⟨w.heap.size + 1, 0, none⟩ (.int .i64 0)).setCell ⟨w.heap.size + 1, 1, none⟩ (.slice none 0 0)) (w.heap.size + 1) 25 #[.int .i64 0, .slice none 0 0] := by simpa using r12.set 1 (.slice none 0 0)
    clear hB10 x11 r12
    go_wp2
    refine bodyPost_ret (v := .tuple #[.agg #[.int .i64 0, .slice none 0 0], .bool false]) (by simp [results, Try.results15, go_sem, r15.cell]) rfl ?_
    exact ⟨none, 0, by rw [E.out, E2.out]; rfl, by rw [E2.out]; exact OwnN.zero _ _, hB13⟩
  have HV := hid hv
  rcases hx : nameB x with _ | _
  · skip
    have E3 := hid (show useB s x = false by unfold useB; rw [hx, hv]; rfl)
    have E2 := hid (useS_no E3.out)
    have E := hid (hitB_no E3.out)
    have HX := hid hx
    clear hv hx
    have hB16 := Below.refl w.heap.size w
    have hB17 := hB16.alloc hB16.size (.cells #[.int .i64 s.r, .slice A1 s.n.length c1] 25)
    clear hB16
    have x18 : At (w.alloc (.cells #[.int .i64 s.r, .slice A1 s.n.length c1] 25)) (w.heap.size) 25 #[.int .i64 s.r, .slice A1 s.n.length c1] := At.newAt _ _ (by first | rfl | (simp; done) | (simp; omega))
    have hB19 := hB17.alloc hB17.size (.cells #[.int .i64 0, .slice none 0 0] 25)
    have x20 := x18.alloc (.cells #[.int .i64 0, .slice none 0 0] 25)
    clear hB17 x18
    have r21 : At ((w.alloc (.cells #[.int .i64 s.r, .slice A1 s.n.length c1] 25)).alloc (.cells #[.int .i64 0, .slice none 0 0] 25)) (w.heap.size + 1) 25 #[.int .i64 0, .slice none 0 0] := At.newAt _ _ (by first | rfl | (simp; done) | (simp; omega))
    go_enter Try.func15, Try.ntmps15
    obtain ⟨p0, p1, pl, pf⟩ := (⟨x20.cell 0, x20.cell 1, x20.lt, x20.frozen⟩ : _ ∧ _ ∧ _ ∧ _)
    obtain ⟨q0, q1, ql, qf⟩ := (⟨r21.cell 0, r21.cell 1, r21.lt, r21.frozen⟩ : _ ∧ _ ∧ _ ∧ _)
    have ne_pq : ¬ w.heap.size = w.heap.size + 1 := by omega
    have ne_qp : ¬ w.heap.size + 1 = w.heap.size := by omega
    go_wp2_with fail
    with_reducible refine (iValidCache_any s A1 c1 _ (h.on hB19) HC.out H1.out).mono ?_
    rintro e w1 ⟨he, hb1⟩
    rw [HV.out] at he
    subst he
    have sz1 : w.heap.size + 2 ≤ w1.heap.size := Nat.le_trans (by first | exact Nat.le_refl _ | (simp; done) | (simp; omega)) (hb1.size)
    have hB22 := hB19.trans (hb1.mono hB19.size)
    have x23 := x20.below hb1 x20.lt
    have r24 := r21.below hb1 r21.lt
    clear hB19 x20 r21
    clear p0 p1 pl pf q0 q1 ql qf ne_pq ne_qp
    obtain ⟨p0, p1, pl, pf⟩ := (⟨x23.cell 0, x23.cell 1, x23.lt, x23.frozen⟩ : _ ∧ _ ∧ _ ∧ _)
    obtain ⟨q0, q1, ql, qf⟩ := (⟨r24.cell 0, r24.cell 1, r24.lt, r24.frozen⟩ : _ ∧ _ ∧ _ ∧ _)
    have ne_pq : ¬ w.heap.size = w.heap.size + 1 := by omega
    have ne_qp : ¬ w.heap.size + 1 = w.heap.size := by omega
    go_wp2_with fail
    with_reducible refine (validName_any x _).mono ?_
    rintro e w' ⟨he, rfl⟩
    rw [HX.out] at he
    subst he
    clear p0 p1 pl pf q0 q1 ql qf ne_pq ne_qp
    obtain ⟨p0, p1, pl, pf⟩ := (⟨x23.cell 0, x23.cell 1, x23.lt, x23.frozen⟩ : _ ∧ _ ∧ _ ∧ _)
    obtain ⟨q0, q1, ql, qf⟩ := (⟨r24.cell 0, r24.cell 1, r24.lt, r24.frozen⟩ : _ ∧ _ ∧ _ ∧ _)
    have ne_pq : ¬ w.heap.size = w.heap.size + 1 := by omega
    have ne_qp : ¬ w.heap.size + 1 = w.heap.size := by omega
    have hB25 := below_put hB22 (grown_set w1 (w.heap.size + 1) 0 (.int .i64 0)) (by omega) (by have := hB22.size; omega)
    have x26 := x23.past (grown_set w1 (w.heap.size + 1) 0 (.int .i64 0)) (by omega)
    have r27 : At (w1.setCell ⟨w.heap.size + 1, 0, none⟩ (.int .i64 0)) (w.heap.size + 1) 25 #[.int .i64 0, .slice none 0 0] := by simpa using r24.set 0 (.int .i64 0)
    clear hB22 x23 r24
    have hB28 := below_put hB25 (grown_set (w1.setCell ⟨w.heap.size + 1, 0, none⟩ (.int .i64 0)) (w.heap.size + 1) 1 (.slice none 0 0)) (by omega) (by have := hB25.size; omega)
    have x29 := x26.past (grown_set (w1.setCell ⟨w.heap.size + 1, 0, none⟩ (.int .i64 0)) (w.heap.size + 1) 1 (.slice none 0 0)) (by omega)
    have r30 : At ((w1.setCell ⟨w.heap.size + 1, 0, none⟩ (.int .i64 0)).setCell ⟨w.heap.size + 1, 1, none⟩ (.slice none 0 0)) (w.heap.size + 1) 25 #[.int .i64 0, .slice none 0 0] := by simpa using r27.set 1 (.slice none 0 0)
    clear hB25 x26 r27
    go_wp2
    refine bodyPost_ret (v := .tuple #[.agg #[.int .i64 0, .slice none 0 0], .bool false]) (by simp [results, Try.results15, go_sem, r30.cell]) rfl ?_
    exact ⟨none, 0, by rw [E.out, E2.out]; rfl, by rw [E2.out]; exact OwnN.zero _ _, hB28⟩
  have HX := hid hx
  have E3 := hid (show useB s x = true by unfold useB; rw [hx, hv]; rfl)
  have HR := hid (cache_r hv)
  have EQ : Hid (useS s x = useC s x) := hid (useS_yes E3.out)
  have EH : Hid (hitB s x = mem s.n x) := hid (hitB_yes E3.out)
  have hpl : (Line.place s.n x != -1) = mem s.n x := place_in
  obtain ⟨R, hR⟩ : ∃ R, R = useC s x := ⟨_, rfl⟩
  have HRr := hid (show R.r = s.r by rw [hR]; rfl)
  have HRn := hid (show lastN (wo s.n x ++ [x]) s.r.toNat = R.n by rw [hR]; rfl)
  rw [← hR] at EQ
  obtain ⟨b, hb⟩ : ∃ b, b = mem s.n x := ⟨_, rfl⟩
  rw [← hb] at EH hpl
  obtain ⟨V, hV⟩ : ∃ V, V = Line.place s.n x := ⟨_, rfl⟩
  have EV : Hid (Line.place s.n x = V) := hid hV.symm
  rw [← hV] at hpl
  have HLn := hid (show (wo s.n x ++ [x]).length ≤ 4194304 by have := wo_len s.n x; have := cache_len hv; simp; omega)
  have HW := hid (show (wo s.n x).length ≤ 4194304 by have := wo_len s.n x; have := H1.out; omega)
  obtain ⟨M, hM⟩ : ∃ M, M = wo s.n x := ⟨_, rfl⟩
  have EM : Hid (wo s.n x = M) := hid hM.symm
  rw [← hM] at HRn HLn HW
  clear hv hx hR hb hV hM
  have hB31 := Below.refl w.heap.size w
  have hB32 := hB31.alloc hB31.size (.cells #[.int .i64 s.r, .slice A1 s.n.length c1] 25)
  clear hB31
  have x33 : At (w.alloc (.cells #[.int .i64 s.r, .slice A1 s.n.length c1] 25)) (w.heap.size) 25 #[.int .i64 s.r, .slice A1 s.n.length c1] := At.newAt _ _ (by first | rfl | (simp; done) | (simp; omega))
  have hB34 := hB32.alloc hB32.size (.cells #[.int .i64 0, .slice none 0 0] 25)
  have x35 := x33.alloc (.cells #[.int .i64 0, .slice none 0 0] 25)
  clear hB32 x33
  have r36 : At ((w.alloc (.cells #[.int .i64 s.r, .slice A1 s.n.length c1] 25)).alloc (.cells #[.int .i64 0, .slice none 0 0] 25)) (w.heap.size + 1) 25 #[.int .i64 0, .slice none 0 0] := At.newAt _ _ (by first | rfl | (simp; done) | (simp; omega))
  go_enter Try.func15, Try.ntmps15
  obtain ⟨p0, p1, pl, pf⟩ := (⟨x35.cell 0, x35.cell 1, x35.lt, x35.frozen⟩ : _ ∧ _ ∧ _ ∧ _)
  obtain ⟨q0, q1, ql, qf⟩ := (⟨r36.cell 0, r36.cell 1, r36.lt, r36.frozen⟩ : _ ∧ _ ∧ _ ∧ _)
  have ne_pq : ¬ w.heap.size = w.heap.size + 1 := by omega
  have ne_qp : ¬ w.heap.size + 1 = w.heap.size := by omega
  go_wp2_with fail
  with_reducible refine (iValidCache_any s A1 c1 _ (h.on hB34) HC.out H1.out).mono ?_
  rintro e w1 ⟨he, hb1⟩
  rw [HV.out] at he
  subst he
  have sz1 : w.heap.size + 2 ≤ w1.heap.size := Nat.le_trans (by first | exact Nat.le_refl _ | (simp; done) | (simp; omega)) (hb1.size)
  have hB37 := hB34.trans (hb1.mono hB34.size)
  have x38 := x35.below hb1 x35.lt
  have r39 := r36.below hb1 r36.lt
  clear hB34 x35 r36
  clear p0 p1 pl pf q0 q1 ql qf ne_pq ne_qp
  obtain ⟨p0, p1, pl, pf⟩ := (⟨x38.cell 0, x38.cell 1, x38.lt, x38.frozen⟩ : _ ∧ _ ∧ _ ∧ _)
  obtain ⟨q0, q1, ql, qf⟩ := (⟨r39.cell 0, r39.cell 1, r39.lt, r39.frozen⟩ : _ ∧ _ ∧ _ ∧ _)
  have ne_pq : ¬ w.heap.size = w.heap.size + 1 := by omega
  have ne_qp : ¬ w.heap.size + 1 = w.heap.size := by omega
  go_wp2_with fail
  with_reducible refine (validName_any x _).mono ?_
  rintro e w' ⟨he, rfl⟩
  rw [HX.out] at he
  subst he
  clear p0 p1 pl pf q0 q1 ql qf ne_pq ne_qp
  obtain ⟨p0, p1, pl, pf⟩ := (⟨x38.cell 0, x38.cell 1, x38.lt, x38.frozen⟩ : _ ∧ _ ∧ _ ∧ _)
  obtain ⟨q0, q1, ql, qf⟩ := (⟨r39.cell 0, r39.cell 1, r39.lt, r39.frozen⟩ : _ ∧ _ ∧ _ ∧ _)
  have ne_pq : ¬ w.heap.size = w.heap.size + 1 := by omega
  have ne_qp : ¬ w.heap.size + 1 = w.heap.size := by omega
  go_wp2_with fail
  with_reducible refine (numbersWithout_any A1 c1 s.n x _ ((h.on hB37)).names H1.out).mono ?_
  rintro e w2 ⟨v2, rfl, ho2, hb2⟩
  rw [EM.out] at ho2
  have sz2 : w1.heap.size ≤ w2.heap.size := Nat.le_trans (by first | exact Nat.le_refl _ | (simp; done) | (simp; omega)) (hb2.size)
  have ho2 := ho2.mono (show w.heap.size + 2 ≤ _ by first | (simp; done) | omega | (have := hB37.size; simp at this; omega) | (simp; omega))
  have hB40 := hB37.trans (hb2.mono hB37.size)
  have x41 := x38.below hb2 x38.lt
  have r42 := r39.below hb2 r39.lt
  clear hB37 x38 r39
  clear p0 p1 pl pf q0 q1 ql qf ne_pq ne_qp
  obtain ⟨p0, p1, pl, pf⟩ := (⟨x41.cell 0, x41.cell 1, x41.lt, x41.frozen⟩ : _ ∧ _ ∧ _ ∧ _)
  obtain ⟨q0, q1, ql, qf⟩ := (⟨r42.cell 0, r42.cell 1, r42.lt, r42.frozen⟩ : _ ∧ _ ∧ _ ∧ _)
  have ne_pq : ¬ w.heap.size = w.heap.size + 1 := by omega
  have ne_qp : ¬ w.heap.size + 1 = w.heap.size := by omega
  have hB43 := hB40.alloc hB40.size (.cells #[.int .i64 x] 3)
  have x44 := x41.alloc (.cells #[.int .i64 x] 3)
  have r45 := r42.alloc (.cells #[.int .i64 x] 3)
  clear hB40 x41 r42
  have hlow := ho2.out.lt
  go_wp2_with (at_builtin; refine wpList_append_own_at _ rfl _ _ 23 rfl (w.heap.size + 2) 3 i0 (.int .i64 0) 1 8 Try.underlying23 hi0 hz0 hz1 hz2 rfl (by decide) _ _ _ rfl (ho2.alloc4 _).out ⟨w2.heap.size, 0, none⟩ 1 1 [.int .i64 x] rfl rfl (cell_one_new _ _ _) ?c2 ?c3 ?c4 ?c5 ?_)
  case c2 => simp [Value.oneCell']
  case c3 => have := HW.out; unfold maxLen; omega
  case c4 => have := HW.out; omega
  case c5 => first | omega | (simp; omega) | (simp; done)
  case _ =>
    intro v3 w3 h1 hg1 _ _
    have sz3 : w2.heap.size + 1 ≤ w3.heap.size := Nat.le_trans (by first | exact Nat.le_refl _ | (simp; done) | (simp; omega)) (hg1.size)
    have hB46 := hB43.grown hg1 hB43.size (fun q hq => by have := hlow q hq; omega)
    have x47 := x44.grown hg1 (fun e => by have := hlow _ e.symm; omega)
    have r48 := r45.grown hg1 (fun e => by have := hlow _ e.symm; omega)
    have ho3 : Own w3 (w.heap.size + 2) v3 (M ++ [x]) := by unfold Own; rw [ints_app, List.length_append]; exact h1
    obtain ⟨A3, c3, rfl, hc3, hcc3⟩ := own_form ho3.out
    clear h1 hg1 hlow hB43 x44 r45
    clear p0 p1 pl pf q0 q1 ql qf ne_pq ne_qp
    obtain ⟨L, hL⟩ : ∃ L, L = M ++ [x] := ⟨_, rfl⟩
    rw [← hL] at ho3 HRn HLn hc3
    rw [← hL]
    clear hL
    have hs3 := Sees.of_own ho3.out
    have xd := x47.drew
    have rd := r48.drew
    have hBd := hB46.drew
    have hsd := h.on hBd
    have hLd := hs3.on4 (Below.refl _ _).drew
    obtain ⟨p0, p1, pl, pf⟩ := x47.two
    have HCC := hid hcc3
    clear hcc3 ho3
    go_wp2_with fail
    go_region_held3 (fun w' => w'.cell? ⟨w.heap.size, 0, none⟩ = some (.int .i64 s.r) ∧ w'.cell? ⟨w.heap.size, 1, none⟩ = some (.slice A1 s.n.length c1))
      (first | with_reducible exact ⟨p0, p1⟩ | with_reducible exact ⟨q0, q1⟩ | go_keep)
      (first
        | (go_at_call 34; (refine (lastNumbers_int rfl hLd hc3 HCC.out HLn.out HR.out).mono ?_); rintro e w9 ⟨v9, rfl, ho9, hb9⟩; rw [HRn.out] at ho9; obtain ⟨A9, c9, rfl, _⟩ := ho9.form; have x9 := xd.below hb9 xd.lt; have r9 := rd.below hb9 rd.lt; have hB9 := hBd.trans (hb9.mono hBd.size); have hs9 := hsd.on hb9; obtain ⟨q0, q1, ql, qf⟩ := x9.two; obtain ⟨t0, t1, tl, tf⟩ := r9.two)
        | (go_at_call 28; (refine (placeOf_any A1 c1 s.n x _ (by first | exact hs9.names | exact hsd.names) (Nat.le_trans H1.out (by decide))).mono ?_); rintro e w' ⟨he, rfl⟩; rw [EV.out] at he; subst he)
        | fail)
    all_goals
      obtain ⟨hp2, hg2⟩ := two_put (.int .i64 s.r) (.slice A9 R.n.length c9) r9 rfl
      have hBz := below_put hB9 hg2 (Nat.le_succ _) hB9.size
      have hOz : OwnN _ w.heap.size A9 c9 R := OwnN.past (OwnN.mono (show OwnN w9 _ A9 c9 R from ho9) hBd.size) r9 (by decide) hg2
      go_wp2
      refine bodyPost_ret (v := .tuple #[.agg #[.int .i64 s.r, .slice A9 R.n.length c9], .bool b]) (by simp [results, Try.results15, go_sem, hp2.cell]) rfl ?_
      exact ⟨A9, c9, by rw [EQ.out, EH.out, HRr.out], by rw [EQ.out]; exact hOz, hBz⟩

set_option maxHeartbeats 4000000 in
theorem iDropStatement_any (s : Cch) (x : Int) (A1 : Option Addr) (c1 : Nat) (w : World) (h : SeesN w w.heap.size A1 s) (hc : s.n.length ≤ c1) (h1 : s.n.length ≤ 4194304) :
    Calls Try.prog 12 #[.agg #[.int .i64 s.r, .slice A1 s.n.length c1], .int .i64 x] w (CacAns (dropS s x) (dropB s x) w) := by
  obtain ⟨i0, hi0, hz0, hz1, hz2⟩ := info_parts intInfo
  have H1 := hid h1
  have HC := hid hc
  clear h1 hc
  rcases hv : cacheB s with _ | _
  · skip
    have E := hid (show dropB s x = false by unfold dropB; rw [hv]; rfl)
    have E2 := hid (dropS_no E.out)
    have HV := hid hv
    clear hv
    have hB1 := Below.refl w.heap.size w
    have hB2 := hB1.alloc hB1.size (.cells #[.int .i64 s.r, .slice A1 s.n.length c1] 25)
    clear hB1
    have x3 : At (w.alloc (.cells #[.int .i64 s.r, .slice A1 s.n.length c1] 25)) (w.heap.size) 25 #[.int .i64 s.r, .slice A1 s.n.length c1] := At.newAt _ _ (by first | rfl | (simp; done) | (simp; omega))
    have hB4 := hB2.alloc hB2.size (.cells #[.int .i64 0, .slice none 0 0] 25)
    have x5 := x3.alloc (.cells #[.int .i64 0, .slice none 0 0] 25)
    clear hB2 x3
    have r6 : At ((w.alloc (.cells #[.int .i64 s.r, .slice A1 s.n.length c1] 25)).alloc (.cells #[.int .i64 0, .slice none 0 0] 25)) (w.heap.size + 1) 25 #[.int .i64 0, .slice none 0 0] := At.newAt _ _ (by first | rfl | (simp; done) | (simp; omega))
    go_enter Try.func12, Try.ntmps12
    obtain ⟨p0, p1, pl, pf⟩ := (⟨x5.cell 0, x5.cell 1, x5.lt, x5.frozen⟩ : _ ∧ _ ∧ _ ∧ _)
    obtain ⟨q0, q1, ql, qf⟩ := (⟨r6.cell 0, r6.cell 1, r6.lt, r6.frozen⟩ : _ ∧ _ ∧ _ ∧ _)
    have ne_pq : ¬ w.heap.size = w.heap.size + 1 := by omega
    have ne_qp : ¬ w.heap.size + 1 = w.heap.size := by omega
    go_wp2_with fail
    with_reducible refine (iValidCache_any s A1 c1 _ (h.on hB4) HC.out H1.out).mono ?_
    rintro e w1 ⟨he, hb1⟩
    rw [HV.out] at he
    subst he
    have sz1 : w.heap.size + 2 ≤ w1.heap.size := Nat.le_trans (by first | exact Nat.le_refl _ | (simp; done) | (simp; omega)) (hb1.size)
    have hB7 := hB4.trans (hb1.mono hB4.size)
    have x8 := x5.below hb1 x5.lt
    have r9 := r6.below hb1 r6.lt
    clear hB4 x5 r6
    clear p0 p1 pl pf q0 q1 ql qf ne_pq ne_qp
    obtain ⟨p0, p1, pl, pf⟩ := (⟨x8.cell 0, x8.cell 1, x8.lt, x8.frozen⟩ : _ ∧ _ ∧ _ ∧ _)
    obtain ⟨q0, q1, ql, qf⟩ := (⟨r9.cell 0, r9.cell 1, r9.lt, r9.frozen⟩ : _ ∧ _ ∧ _ ∧ _)
    have ne_pq : ¬ w.heap.size = w.heap.size + 1 := by omega
    have ne_qp : ¬ w.heap.size + 1 = w.heap.size := by omega
    have hB10 := below_put hB7 (grown_set w1 (w.heap.size + 1) 0 (.int .i64 0)) (by omega) (by have := hB7.size; omega)
    have x11 := x8.past (grown_set w1 (w.heap.size + 1) 0 (.int .i64 0)) (by omega)
    have r12 : At (w1.setCell ⟨w.heap.size + 1, 0, none⟩ (.int .i64 0)) (w.heap.size + 1) 25 #[.int .i64 0, .slice none 0 0] := by simpa using r9.set 0 (.int .i64 0)
    clear hB7 x8 r9
    have hB13 := below_put hB10 (grown_set (w1.setCell ⟨w.heap.size + 1, 0, none⟩ (.int .i64 0)) (w.heap.size + 1) 1 (.slice none 0 0)) (by omega) (by have := hB10.size; omega)
    have x14 := x11.past (grown_set (w1.setCell ⟨w.heap.size + 1, 0, none⟩ (.int .i64 0)) (w.heap.size + 1) 1 (.slice none 0 0)) (by omega)
    have r15 : At ((w1.setCell ⟨w.heap.size + 1, 0, none⟩ (.int .i64 0)).setCell ⟨w.heap.size + 1, 1, none⟩ (.slice none 0 0)) (w.heap.size + 1) 25 #[.int .i64 0, .slice none 0 0] := by simpa using r12.set 1 (.slice none 0 0)
    clear hB10 x11 r12
    go_wp2
    refine bodyPost_ret (v := .tuple #[.agg #[.int .i64 0, .slice none 0 0], .bool false]) (by simp [results, Try.results12, go_sem, r15.cell]) rfl ?_
    exact ⟨none, 0, by rw [E.out, E2.out]; rfl, by rw [E2.out]; exact OwnN.zero _ _, hB13⟩
  have HV := hid hv
  rcases hx : mem s.n x with _ | _
  · skip
    have E := hid (show dropB s x = false by unfold dropB; rw [hx, hv]; rfl)
    have E2 := hid (dropS_no E.out)
    have EV := hid (Line.place_no (mem_no.1 hx))
    clear hv hx
    have hB16 := Below.refl w.heap.size w
    have hB17 := hB16.alloc hB16.size (.cells #[.int .i64 s.r, .slice A1 s.n.length c1] 25)
    clear hB16
    have x18 : At (w.alloc (.cells #[.int .i64 s.r, .slice A1 s.n.length c1] 25)) (w.heap.size) 25 #[.int .i64 s.r, .slice A1 s.n.length c1] := At.newAt _ _ (by first | rfl | (simp; done) | (simp; omega))
    have hB19 := hB17.alloc hB17.size (.cells #[.int .i64 0, .slice none 0 0] 25)
    have x20 := x18.alloc (.cells #[.int .i64 0, .slice none 0 0] 25)
    clear hB17 x18
    have r21 : At ((w.alloc (.cells #[.int .i64 s.r, .slice A1 s.n.length c1] 25)).alloc (.cells #[.int .i64 0, .slice none 0 0] 25)) (w.heap.size + 1) 25 #[.int .i64 0, .slice none 0 0] := At.newAt _ _ (by first | rfl | (simp; done) | (simp; omega))
    go_enter Try.func12, Try.ntmps12
    obtain ⟨p0, p1, pl, pf⟩ := (⟨x20.cell 0, x20.cell 1, x20.lt, x20.frozen⟩ : _ ∧ _ ∧ _ ∧ _)
    obtain ⟨q0, q1, ql, qf⟩ := (⟨r21.cell 0, r21.cell 1, r21.lt, r21.frozen⟩ : _ ∧ _ ∧ _ ∧ _)
    have ne_pq : ¬ w.heap.size = w.heap.size + 1 := by omega
    have ne_qp : ¬ w.heap.size + 1 = w.heap.size := by omega
    go_wp2_with fail
    with_reducible refine (iValidCache_any s A1 c1 _ (h.on hB19) HC.out H1.out).mono ?_
    rintro e w1 ⟨he, hb1⟩
    rw [HV.out] at he
    subst he
    have sz1 : w.heap.size + 2 ≤ w1.heap.size := Nat.le_trans (by first | exact Nat.le_refl _ | (simp; done) | (simp; omega)) (hb1.size)
    have hB22 := hB19.trans (hb1.mono hB19.size)
    have x23 := x20.below hb1 x20.lt
    have r24 := r21.below hb1 r21.lt
    clear hB19 x20 r21
    clear p0 p1 pl pf q0 q1 ql qf ne_pq ne_qp
    obtain ⟨p0, p1, pl, pf⟩ := (⟨x23.cell 0, x23.cell 1, x23.lt, x23.frozen⟩ : _ ∧ _ ∧ _ ∧ _)
    obtain ⟨q0, q1, ql, qf⟩ := (⟨r24.cell 0, r24.cell 1, r24.lt, r24.frozen⟩ : _ ∧ _ ∧ _ ∧ _)
    have ne_pq : ¬ w.heap.size = w.heap.size + 1 := by omega
    have ne_qp : ¬ w.heap.size + 1 = w.heap.size := by omega
    go_wp2_with fail
    with_reducible refine (placeOf_any A1 c1 s.n x _ ((h.on hB22)).names (Nat.le_trans H1.out (by decide))).mono ?_
    rintro e w' ⟨he, rfl⟩
    rw [EV.out] at he
    subst he
    clear p0 p1 pl pf q0 q1 ql qf ne_pq ne_qp
    obtain ⟨p0, p1, pl, pf⟩ := (⟨x23.cell 0, x23.cell 1, x23.lt, x23.frozen⟩ : _ ∧ _ ∧ _ ∧ _)
    obtain ⟨q0, q1, ql, qf⟩ := (⟨r24.cell 0, r24.cell 1, r24.lt, r24.frozen⟩ : _ ∧ _ ∧ _ ∧ _)
    have ne_pq : ¬ w.heap.size = w.heap.size + 1 := by omega
    have ne_qp : ¬ w.heap.size + 1 = w.heap.size := by omega
    have hB25 := below_put hB22 (grown_set w1 (w.heap.size + 1) 0 (.int .i64 0)) (by omega) (by have := hB22.size; omega)
    have x26 := x23.past (grown_set w1 (w.heap.size + 1) 0 (.int .i64 0)) (by omega)
    have r27 : At (w1.setCell ⟨w.heap.size + 1, 0, none⟩ (.int .i64 0)) (w.heap.size + 1) 25 #[.int .i64 0, .slice none 0 0] := by simpa using r24.set 0 (.int .i64 0)
    clear hB22 x23 r24
    have hB28 := below_put hB25 (grown_set (w1.setCell ⟨w.heap.size + 1, 0, none⟩ (.int .i64 0)) (w.heap.size + 1) 1 (.slice none 0 0)) (by omega) (by have := hB25.size; omega)
    have x29 := x26.past (grown_set (w1.setCell ⟨w.heap.size + 1, 0, none⟩ (.int .i64 0)) (w.heap.size + 1) 1 (.slice none 0 0)) (by omega)
    have r30 : At ((w1.setCell ⟨w.heap.size + 1, 0, none⟩ (.int .i64 0)).setCell ⟨w.heap.size + 1, 1, none⟩ (.slice none 0 0)) (w.heap.size + 1) 25 #[.int .i64 0, .slice none 0 0] := by simpa using r27.set 1 (.slice none 0 0)
    clear hB25 x26 r27
    go_wp2
    refine bodyPost_ret (v := .tuple #[.agg #[.int .i64 0, .slice none 0 0], .bool false]) (by simp [results, Try.results12, go_sem, r30.cell]) rfl ?_
    exact ⟨none, 0, by rw [E.out, E2.out]; rfl, by rw [E2.out]; exact OwnN.zero _ _, hB28⟩
  have E3 := hid (show dropB s x = true by unfold dropB; rw [hx, hv]; rfl)
  have EQ : Hid (dropS s x = dropC s x) := hid (dropS_yes E3.out)
  have EH := E3
  have hpl := Line.place_lt (mem_iff.1 hx)
  obtain ⟨R, hR⟩ : ∃ R, R = dropC s x := ⟨_, rfl⟩
  have HRr := hid (show R.r = s.r by rw [hR]; rfl)
  have HRn := hid (show wo s.n x = R.n by rw [hR]; rfl)
  rw [← hR] at EQ
  obtain ⟨V, hV⟩ : ∃ V, V = Line.place s.n x := ⟨_, rfl⟩
  have EV : Hid (Line.place s.n x = V) := hid hV.symm
  rw [← hV] at hpl
  have hpl2 : (V == -1) = false := by rw [beq_eq_false_iff_ne]; omega
  clear hv hx hR hV hpl
  have hB31 := Below.refl w.heap.size w
  have hB32 := hB31.alloc hB31.size (.cells #[.int .i64 s.r, .slice A1 s.n.length c1] 25)
  clear hB31
  have x33 : At (w.alloc (.cells #[.int .i64 s.r, .slice A1 s.n.length c1] 25)) (w.heap.size) 25 #[.int .i64 s.r, .slice A1 s.n.length c1] := At.newAt _ _ (by first | rfl | (simp; done) | (simp; omega))
  have hB34 := hB32.alloc hB32.size (.cells #[.int .i64 0, .slice none 0 0] 25)
  have x35 := x33.alloc (.cells #[.int .i64 0, .slice none 0 0] 25)
  clear hB32 x33
  have r36 : At ((w.alloc (.cells #[.int .i64 s.r, .slice A1 s.n.length c1] 25)).alloc (.cells #[.int .i64 0, .slice none 0 0] 25)) (w.heap.size + 1) 25 #[.int .i64 0, .slice none 0 0] := At.newAt _ _ (by first | rfl | (simp; done) | (simp; omega))
  go_enter Try.func12, Try.ntmps12
  obtain ⟨p0, p1, pl, pf⟩ := (⟨x35.cell 0, x35.cell 1, x35.lt, x35.frozen⟩ : _ ∧ _ ∧ _ ∧ _)
  obtain ⟨q0, q1, ql, qf⟩ := (⟨r36.cell 0, r36.cell 1, r36.lt, r36.frozen⟩ : _ ∧ _ ∧ _ ∧ _)
  have ne_pq : ¬ w.heap.size = w.heap.size + 1 := by omega
  have ne_qp : ¬ w.heap.size + 1 = w.heap.size := by omega
  go_wp2_with fail
  with_reducible refine (iValidCache_any s A1 c1 _ (h.on hB34) HC.out H1.out).mono ?_
  rintro e w1 ⟨he, hb1⟩
  rw [HV.out] at he
  subst he
  have sz1 : w.heap.size + 2 ≤ w1.heap.size := Nat.le_trans (by first | exact Nat.le_refl _ | (simp; done) | (simp; omega)) (hb1.size)
  have hB37 := hB34.trans (hb1.mono hB34.size)
  have x38 := x35.below hb1 x35.lt
  have r39 := r36.below hb1 r36.lt
  clear hB34 x35 r36
  clear p0 p1 pl pf q0 q1 ql qf ne_pq ne_qp
  obtain ⟨p0, p1, pl, pf⟩ := (⟨x38.cell 0, x38.cell 1, x38.lt, x38.frozen⟩ : _ ∧ _ ∧ _ ∧ _)
  obtain ⟨q0, q1, ql, qf⟩ := (⟨r39.cell 0, r39.cell 1, r39.lt, r39.frozen⟩ : _ ∧ _ ∧ _ ∧ _)
  have ne_pq : ¬ w.heap.size = w.heap.size + 1 := by omega
  have ne_qp : ¬ w.heap.size + 1 = w.heap.size := by omega
  go_wp2_with fail
  with_reducible refine (placeOf_any A1 c1 s.n x _ ((h.on hB37)).names (Nat.le_trans H1.out (by decide))).mono ?_
  rintro e w' ⟨he, rfl⟩
  rw [EV.out] at he
  subst he
  clear p0 p1 pl pf q0 q1 ql qf ne_pq ne_qp
  have xd := x38.drew
  have rd := r39.drew
  have hBd := hB37.drew
  have hsd := h.on hBd
  obtain ⟨p0, p1, pl, pf⟩ := x38.two
  go_wp2_with fail
  go_region_held3 (fun w' => w'.cell? ⟨w.heap.size, 0, none⟩ = some (.int .i64 s.r) ∧ w'.cell? ⟨w.heap.size, 1, none⟩ = some (.slice A1 s.n.length c1))
    (first | with_reducible exact ⟨p0, p1⟩ | with_reducible exact ⟨q0, q1⟩ | go_keep)
    (first
      | (go_at_call 29; (refine (numbersWithout_any A1 c1 s.n x _ hsd.names H1.out).mono ?_); rintro e w9 ⟨v9, rfl, ho9, hb9⟩; rw [HRn.out] at ho9; obtain ⟨A9, c9, rfl, _⟩ := ho9.form; have x9 := xd.below hb9 xd.lt; have r9 := rd.below hb9 rd.lt; have hB9 := hBd.trans (hb9.mono hBd.size); have hs9 := hsd.on hb9; obtain ⟨q0, q1, ql, qf⟩ := x9.two; obtain ⟨t0, t1, tl, tf⟩ := r9.two)
      | fail)
  all_goals
    obtain ⟨hp2, hg2⟩ := two_put (.int .i64 s.r) (.slice A9 R.n.length c9) r9 rfl
    have hBz := below_put hB9 hg2 (Nat.le_succ _) hB9.size
    have hOz : OwnN _ w.heap.size A9 c9 R := OwnN.past (OwnN.mono (show OwnN w9 _ A9 c9 R from ho9) hBd.size) r9 (by decide) hg2
    go_wp2
    refine bodyPost_ret (v := .tuple #[.agg #[.int .i64 s.r, .slice A9 R.n.length c9], .bool true]) (by simp [results, Try.results12, go_sem, hp2.cell]) rfl ?_
    exact ⟨A9, c9, by rw [EQ.out, EH.out, HRr.out], by rw [EQ.out]; exact hOz, hBz⟩

end Go.Proofs.Ytgliijkpjncfnab

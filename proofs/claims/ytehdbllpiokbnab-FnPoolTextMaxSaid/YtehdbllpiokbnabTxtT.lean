/-
  What the model's ParsePool answers. Condition: the text is at most 2,000,000 bytes long.
-/
import Derived.Test.YtehdbllpiokbnabTa
import Derived.Test.YtehdbllpiokbnabTxtO
import Derived.Test.YtehdbllpiokbnabPlN

namespace Go.Proofs.Ytehdbllpiokbnab
open Go.RowKit Txt Pol

theorem numL_up (x : List UInt8) : (numL x).length ≤ x.length + 1 := by
  by_cases h : x = []
  · subst h; simp [numL]
  · rw [numL_of h, List.length_map]; exact spl_up 44 x
theorem holL_up (x : List UInt8) : (holL x).length ≤ x.length + 1 := by
  by_cases h : x = []
  · subst h; simp [holL]
  · rw [holL_of h, List.length_map]; exact spl_up 44 x
theorem raw_neg {s a b x y z : List UInt8} (e : spl 32 s = [a, b]) (e2 : spl 124 b = [x, y, z]) (h : nnB (numL x) = false ∨ hnB (holL y) = false ∨ nnB (numL z) = false) : prsB s = false := by
  rw [prsB_of (raw_yes e e2)]
  refine Bool.eq_false_iff.2 fun hk => ?_
  obtain ⟨_, k1, k2, k3⟩ := ok_numOk (okB_iff.1 hk)
  rcases h with h | h | h
  · exact absurd (nnB_iff.2 fun v hv => (k1 v hv).1) (by simp [h])
  · exact absurd (hnB_iff.2 fun v hv => ⟨(k2 v hv).1.1, (k2 v hv).2.1⟩) (by simp [h])
  · exact absurd (nnB_iff.2 fun v hv => (k3 v hv).1) (by simp [h])
set_option maxHeartbeats 8000000 in
set_option maxRecDepth 16384 in
theorem sParsePool_any (S : List UInt8) (w : World) (hS : S.length ≤ 2000000) :
    Calls Try.prog 14 #[tx S] w (PAnsB (prsP S) (prsB S) w) := by
  have hS4 : S.length ≤ 4194304 := by omega
  by_cases h2 : (spl 32 S).length = 2
  rotate_left
  · skip
    have EB := hid (prsB_no (raw_no2 h2))
    have hB1 := Below.refl w.heap.size w
    have hB2 := hB1.alloc hB1.size (.cells #[.int .i64 0, .slice none 0 0, .slice none 0 0, .slice none 0 0] 26)
    clear hB1
    have r3 : At (w.alloc (.cells #[.int .i64 0, .slice none 0 0, .slice none 0 0, .slice none 0 0] 26)) (w.heap.size) 26 #[.int .i64 0, .slice none 0 0, .slice none 0 0, .slice none 0 0] := At.newAt _ _ (by first | rfl | (simp; done) | (simp; omega))
    go_enter Try.func14, Try.ntmps14
    obtain ⟨q0, q1, q2, q3, ql, qf⟩ := (⟨r3.cell 0, r3.cell 1, r3.cell 2, r3.cell 3, r3.lt, r3.frozen⟩ : _ ∧ _ ∧ _ ∧ _ ∧ _ ∧ _)
    go_wp2_with fail
    with_reducible refine (splitAt_any S 32 32 _ rfl hS4).mono ?_
    rintro e w1 ⟨v, rfl, ho, hb1⟩
    obtain ⟨A1, c1, rfl, _, _, _⟩ := OwnS.form ho
    have hlb : (((spl 32 S).length : Int) != 2) = true := by simp only [bne_iff_ne, ne_eq]; omega
    clear ho
    have sz1 : w.heap.size + 1 ≤ w1.heap.size := Nat.le_trans (by first | exact Nat.le_refl _ | (simp; done) | (simp; omega)) (hb1.size)
    have hB4 := hB2.trans (hb1.mono hB2.size)
    have r5 := r3.below hb1 r3.lt
    clear hB2 r3
    clear q0 q1 q2 q3 ql qf
    obtain ⟨q0, q1, q2, q3, ql, qf⟩ := (⟨r5.cell 0, r5.cell 1, r5.cell 2, r5.cell 3, r5.lt, r5.frozen⟩ : _ ∧ _ ∧ _ ∧ _ ∧ _ ∧ _)
    have hB6 := below_put hB4 (grown_set w1 (w.heap.size) 0 (.int .i64 0)) (by omega) (by have := hB4.size; omega)
    have r7 : At (w1.setCell ⟨w.heap.size, 0, none⟩ (.int .i64 0)) (w.heap.size) 26 #[.int .i64 0, .slice none 0 0, .slice none 0 0, .slice none 0 0] := by simpa using r5.set 0 (.int .i64 0)
    clear hB4 r5
    have hB8 := below_put hB6 (grown_set (w1.setCell ⟨w.heap.size, 0, none⟩ (.int .i64 0)) (w.heap.size) 1 (.slice none 0 0)) (by omega) (by have := hB6.size; omega)
    have r9 : At ((w1.setCell ⟨w.heap.size, 0, none⟩ (.int .i64 0)).setCell ⟨w.heap.size, 1, none⟩ (.slice none 0 0)) (w.heap.size) 26 #[.int .i64 0, .slice none 0 0, .slice none 0 0, .slice none 0 0] := by simpa using r7.set 1 (.slice none 0 0)
    clear hB6 r7
    have hB10 := below_put hB8 (grown_set ((w1.setCell ⟨w.heap.size, 0, none⟩ (.int .i64 0)).setCell ⟨w.heap.size, 1, none⟩ (.slice none 0 0)) (w.heap.size) 2 (.slice none 0 0)) (by omega) (by have := hB8.size; omega)
    have r11 : At (((w1.setCell ⟨w.heap.size, 0, none⟩ (.int .i64 0)).setCell ⟨w.heap.size, 1, none⟩ (.slice none 0 0)).setCell ⟨w.heap.size, 2, none⟩ (.slice none 0 0)) (w.heap.size) 26 #[.int .i64 0, .slice none 0 0, .slice none 0 0, .slice none 0 0] := by simpa using r9.set 2 (.slice none 0 0)
    clear hB8 r9
    have hB12 := below_put hB10 (grown_set (((w1.setCell ⟨w.heap.size, 0, none⟩ (.int .i64 0)).setCell ⟨w.heap.size, 1, none⟩ (.slice none 0 0)).setCell ⟨w.heap.size, 2, none⟩ (.slice none 0 0)) (w.heap.size) 3 (.slice none 0 0)) (by omega) (by have := hB10.size; omega)
    have r13 : At ((((w1.setCell ⟨w.heap.size, 0, none⟩ (.int .i64 0)).setCell ⟨w.heap.size, 1, none⟩ (.slice none 0 0)).setCell ⟨w.heap.size, 2, none⟩ (.slice none 0 0)).setCell ⟨w.heap.size, 3, none⟩ (.slice none 0 0)) (w.heap.size) 26 #[.int .i64 0, .slice none 0 0, .slice none 0 0, .slice none 0 0] := by simpa using r11.set 3 (.slice none 0 0)
    clear hB10 r11
    go_wp2
    refine bodyPost_ret (v := .tuple #[.agg #[.int .i64 0, .slice none 0 0, .slice none 0 0, .slice none 0 0], .bool false]) (by simp [results, Try.results14, go_sem, r13.cell]) rfl ?_
    exact pansb_zero (prsP_no EB.out) EB.out hB12
  obtain ⟨a, b, e⟩ := two_of h2
  have HT := hid e
  have la : a.length ≤ 2000000 := Nat.le_trans (spl_lens (c := 32) (s := S) (by rw [e]; simp)) hS
  have lb : b.length ≤ 2000000 := Nat.le_trans (spl_lens (c := 32) (s := S) (by rw [e]; simp)) hS
  by_cases h3 : (spl 124 b).length = 3
  rotate_left
  · skip
    have EB := hid (prsB_no (raw_no3 e h3))
    clear e
    have hB14 := Below.refl w.heap.size w
    have hB15 := hB14.alloc hB14.size (.cells #[.int .i64 0, .slice none 0 0, .slice none 0 0, .slice none 0 0] 26)
    clear hB14
    have r16 : At (w.alloc (.cells #[.int .i64 0, .slice none 0 0, .slice none 0 0, .slice none 0 0] 26)) (w.heap.size) 26 #[.int .i64 0, .slice none 0 0, .slice none 0 0, .slice none 0 0] := At.newAt _ _ (by first | rfl | (simp; done) | (simp; omega))
    go_enter Try.func14, Try.ntmps14
    obtain ⟨q0, q1, q2, q3, ql, qf⟩ := (⟨r16.cell 0, r16.cell 1, r16.cell 2, r16.cell 3, r16.lt, r16.frozen⟩ : _ ∧ _ ∧ _ ∧ _ ∧ _ ∧ _)
    go_wp2_with fail
    with_reducible refine (splitAt_any S 32 32 _ rfl hS4).mono ?_
    rintro e w1 ⟨v, rfl, ho, hb1⟩
    rw [HT.out] at ho
    obtain ⟨A1, c1, rfl, _, _, _⟩ := OwnS.form ho
    rw [show ([a, b] : List (List UInt8)).length = 2 from rfl]
    have sz1 : w.heap.size + 1 ≤ w1.heap.size := Nat.le_trans (by first | exact Nat.le_refl _ | (simp; done) | (simp; omega)) (hb1.size)
    have hB17 := hB15.trans (hb1.mono hB15.size)
    have r18 := r16.below hb1 r16.lt
    clear hB15 r16
    clear q0 q1 q2 q3 ql qf
    have u19 := ho
    clear ho
    obtain ⟨ku, ou, rfl, _, _⟩ := u19.sees.word (k := 0) (by simp)
    obtain ⟨_, _, e9, lu1, u1⟩ := u19.sees.word (k := 1) (by simp)
    injection e9 with e9
    injection e9 with e8 e9
    subst e8 e9
    rw [show ([a, b] : List (List UInt8))[1] = b from rfl] at u1
    have c0 := fun w => splitAt_any b 124 124 w rfl (Nat.le_trans lb (by decide))
    unfold tx at c0
    have C0 := hid c0
    clear c0
    obtain ⟨q0, q1, q2, q3, ql, qf⟩ := (⟨r18.cell 0, r18.cell 1, r18.cell 2, r18.cell 3, r18.lt, r18.frozen⟩ : _ ∧ _ ∧ _ ∧ _ ∧ _ ∧ _)
    go_wp2_with fail
    with_reducible refine (C0.out _).mono ?_
    rintro e w2 ⟨v, rfl, ho, hb2⟩
    obtain ⟨A2, c2, rfl, _, _, _⟩ := OwnS.form ho
    have hlb : (((spl 124 b).length : Int) != 3) = true := by simp only [bne_iff_ne, ne_eq]; omega
    clear ho
    have sz2 : w1.heap.size ≤ w2.heap.size := Nat.le_trans (by first | exact Nat.le_refl _ | (simp; done) | (simp; omega)) (hb2.size)
    have hB20 := hB17.trans (hb2.mono hB17.size)
    have r21 := r18.below hb2 r18.lt
    have u22 := u19.below hb2
    clear hB17 r18 u19
    clear q0 q1 q2 q3 ql qf
    clear u1 lu1 C0
    clear u22
    obtain ⟨q0, q1, q2, q3, ql, qf⟩ := (⟨r21.cell 0, r21.cell 1, r21.cell 2, r21.cell 3, r21.lt, r21.frozen⟩ : _ ∧ _ ∧ _ ∧ _ ∧ _ ∧ _)
    have hB23 := below_put hB20 (grown_set w2 (w.heap.size) 0 (.int .i64 0)) (by omega) (by have := hB20.size; omega)
    have r24 : At (w2.setCell ⟨w.heap.size, 0, none⟩ (.int .i64 0)) (w.heap.size) 26 #[.int .i64 0, .slice none 0 0, .slice none 0 0, .slice none 0 0] := by simpa using r21.set 0 (.int .i64 0)
    clear hB20 r21
    have hB25 := below_put hB23 (grown_set (w2.setCell ⟨w.heap.size, 0, none⟩ (.int .i64 0)) (w.heap.size) 1 (.slice none 0 0)) (by omega) (by have := hB23.size; omega)
    have r26 : At ((w2.setCell ⟨w.heap.size, 0, none⟩ (.int .i64 0)).setCell ⟨w.heap.size, 1, none⟩ (.slice none 0 0)) (w.heap.size) 26 #[.int .i64 0, .slice none 0 0, .slice none 0 0, .slice none 0 0] := by simpa using r24.set 1 (.slice none 0 0)
    clear hB23 r24
    have hB27 := below_put hB25 (grown_set ((w2.setCell ⟨w.heap.size, 0, none⟩ (.int .i64 0)).setCell ⟨w.heap.size, 1, none⟩ (.slice none 0 0)) (w.heap.size) 2 (.slice none 0 0)) (by omega) (by have := hB25.size; omega)
    have r28 : At (((w2.setCell ⟨w.heap.size, 0, none⟩ (.int .i64 0)).setCell ⟨w.heap.size, 1, none⟩ (.slice none 0 0)).setCell ⟨w.heap.size, 2, none⟩ (.slice none 0 0)) (w.heap.size) 26 #[.int .i64 0, .slice none 0 0, .slice none 0 0, .slice none 0 0] := by simpa using r26.set 2 (.slice none 0 0)
    clear hB25 r26
    have hB29 := below_put hB27 (grown_set (((w2.setCell ⟨w.heap.size, 0, none⟩ (.int .i64 0)).setCell ⟨w.heap.size, 1, none⟩ (.slice none 0 0)).setCell ⟨w.heap.size, 2, none⟩ (.slice none 0 0)) (w.heap.size) 3 (.slice none 0 0)) (by omega) (by have := hB27.size; omega)
    have r30 : At ((((w2.setCell ⟨w.heap.size, 0, none⟩ (.int .i64 0)).setCell ⟨w.heap.size, 1, none⟩ (.slice none 0 0)).setCell ⟨w.heap.size, 2, none⟩ (.slice none 0 0)).setCell ⟨w.heap.size, 3, none⟩ (.slice none 0 0)) (w.heap.size) 26 #[.int .i64 0, .slice none 0 0, .slice none 0 0, .slice none 0 0] := by simpa using r28.set 3 (.slice none 0 0)
    clear hB27 r28
    go_wp2
    refine bodyPost_ret (v := .tuple #[.agg #[.int .i64 0, .slice none 0 0, .slice none 0 0, .slice none 0 0], .bool false]) (by simp [results, Try.results14, go_sem, r30.cell]) rfl ?_
    exact pansb_zero (prsP_no EB.out) EB.out hB29
  obtain ⟨x, y, z, e2⟩ := three_of h3
  have HT3 := hid e2
  have lx : x.length ≤ 2000000 := Nat.le_trans (spl_lens (c := 124) (s := b) (by rw [e2]; simp)) lb
  have ly : y.length ≤ 2000000 := Nat.le_trans (spl_lens (c := 124) (s := b) (by rw [e2]; simp)) lb
  have lz : z.length ≤ 2000000 := Nat.le_trans (spl_lens (c := 124) (s := b) (by rw [e2]; simp)) lb
  clear h2 h3
  obtain ⟨m, hm⟩ : ∃ m, m = num a := ⟨_, rfl⟩
  have HM := hid hm.symm
  rcases hx : nnB (numL x) with _ | _
  · skip
    have EB := hid (raw_neg e e2 (.inl hx))
    have Bx := hid hx
    clear hx e e2 hm
    have hB31 := Below.refl w.heap.size w
    have hB32 := hB31.alloc hB31.size (.cells #[.int .i64 0, .slice none 0 0, .slice none 0 0, .slice none 0 0] 26)
    clear hB31
    have r33 : At (w.alloc (.cells #[.int .i64 0, .slice none 0 0, .slice none 0 0, .slice none 0 0] 26)) (w.heap.size) 26 #[.int .i64 0, .slice none 0 0, .slice none 0 0, .slice none 0 0] := At.newAt _ _ (by first | rfl | (simp; done) | (simp; omega))
    go_enter Try.func14, Try.ntmps14
    obtain ⟨q0, q1, q2, q3, ql, qf⟩ := (⟨r33.cell 0, r33.cell 1, r33.cell 2, r33.cell 3, r33.lt, r33.frozen⟩ : _ ∧ _ ∧ _ ∧ _ ∧ _ ∧ _)
    go_wp2_with fail
    with_reducible refine (splitAt_any S 32 32 _ rfl hS4).mono ?_
    rintro e w1 ⟨v, rfl, ho, hb1⟩
    rw [HT.out] at ho
    obtain ⟨A1, c1, rfl, _, _, _⟩ := OwnS.form ho
    rw [show ([a, b] : List (List UInt8)).length = 2 from rfl]
    have sz1 : w.heap.size + 1 ≤ w1.heap.size := Nat.le_trans (by first | exact Nat.le_refl _ | (simp; done) | (simp; omega)) (hb1.size)
    have hB34 := hB32.trans (hb1.mono hB32.size)
    have r35 := r33.below hb1 r33.lt
    clear hB32 r33
    clear q0 q1 q2 q3 ql qf
    have u36 := ho
    clear ho
    obtain ⟨ku, ou, rfl, _, _⟩ := u36.sees.word (k := 0) (by simp)
    obtain ⟨_, _, e9, lu1, u1⟩ := u36.sees.word (k := 1) (by simp)
    injection e9 with e9
    injection e9 with e8 e9
    subst e8 e9
    rw [show ([a, b] : List (List UInt8))[1] = b from rfl] at u1
    have c0 := fun w => splitAt_any b 124 124 w rfl (Nat.le_trans lb (by decide))
    unfold tx at c0
    have C0 := hid c0
    clear c0
    obtain ⟨q0, q1, q2, q3, ql, qf⟩ := (⟨r35.cell 0, r35.cell 1, r35.cell 2, r35.cell 3, r35.lt, r35.frozen⟩ : _ ∧ _ ∧ _ ∧ _ ∧ _ ∧ _)
    go_wp2_with fail
    with_reducible refine (C0.out _).mono ?_
    rintro e w2 ⟨v, rfl, ho, hb2⟩
    rw [HT3.out] at ho
    obtain ⟨A2, c2, rfl, _, _, _⟩ := OwnS.form ho
    rw [show ([x, y, z] : List (List UInt8)).length = 3 from rfl]
    have sz2 : w1.heap.size ≤ w2.heap.size := Nat.le_trans (by first | exact Nat.le_refl _ | (simp; done) | (simp; omega)) (hb2.size)
    have hB37 := hB34.trans (hb2.mono hB34.size)
    have r38 := r35.below hb2 r35.lt
    have u39 := u36.below hb2
    clear hB34 r35 u36
    clear q0 q1 q2 q3 ql qf
    clear u1 lu1 C0
    have v40 := ho
    clear ho
    obtain ⟨kv, ov, rfl, _, _⟩ := v40.sees.word (k := 0) (by simp)
    obtain ⟨_, _, e9, lv0, v0⟩ := v40.sees.word (k := 0) (by simp)
    injection e9 with e9
    injection e9 with e8 e9
    subst e8 e9
    rw [Nat.add_zero] at v0
    rw [show ([x, y, z] : List (List UInt8))[0] = x from rfl] at v0
    have c0 := fun w => parseList_any x w (Nat.le_trans lx (by decide))
    unfold tx at c0
    have C0 := hid c0
    clear c0
    obtain ⟨q0, q1, q2, q3, ql, qf⟩ := (⟨r38.cell 0, r38.cell 1, r38.cell 2, r38.cell 3, r38.lt, r38.frozen⟩ : _ ∧ _ ∧ _ ∧ _ ∧ _ ∧ _)
    go_wp2_with fail
    with_reducible refine (C0.out _).mono ?_
    rintro e w3 ⟨v, rfl, ho, hb3⟩
    rw [Bx.out]
    have sz3 : w2.heap.size ≤ w3.heap.size := Nat.le_trans (by first | exact Nat.le_refl _ | (simp; done) | (simp; omega)) (hb3.size)
    have hB41 := hB37.trans (hb3.mono hB37.size)
    have r42 := r38.below hb3 r38.lt
    have u43 := u39.below hb3
    have v44 := v40.below hb3
    clear hB37 r38 u39 v40
    clear q0 q1 q2 q3 ql qf
    clear v0 lv0 C0
    obtain ⟨Bx, dx, rfl, _⟩ := ho.form
    clear ho
    obtain ⟨_, _, e9, lv1, v1⟩ := v44.sees.word (k := 1) (by simp)
    injection e9 with e9
    injection e9 with e8 e9
    subst e8 e9
    rw [show ([x, y, z] : List (List UInt8))[1] = y from rfl] at v1
    have c0 := fun w => sparseHolds_any y w (Nat.le_trans ly (by decide))
    unfold tx at c0
    have C0 := hid c0
    clear c0
    obtain ⟨q0, q1, q2, q3, ql, qf⟩ := (⟨r42.cell 0, r42.cell 1, r42.cell 2, r42.cell 3, r42.lt, r42.frozen⟩ : _ ∧ _ ∧ _ ∧ _ ∧ _ ∧ _)
    go_wp2_with fail
    with_reducible refine (C0.out _).mono ?_
    rintro e w4 ⟨v, rfl, ho, hb4⟩
    skip
    have sz4 : w3.heap.size ≤ w4.heap.size := Nat.le_trans (by first | exact Nat.le_refl _ | (simp; done) | (simp; omega)) (hb4.size)
    have hB45 := hB41.trans (hb4.mono hB41.size)
    have r46 := r42.below hb4 r42.lt
    have u47 := u43.below hb4
    have v48 := v44.below hb4
    clear hB41 r42 u43 v44
    clear q0 q1 q2 q3 ql qf
    clear v1 lv1 C0
    obtain ⟨By, dy, rfl, _⟩ := ho.form
    clear ho
    obtain ⟨_, _, e9, lv2, v2⟩ := v48.sees.word (k := 2) (by simp)
    injection e9 with e9
    injection e9 with e8 e9
    subst e8 e9
    rw [show ([x, y, z] : List (List UInt8))[2] = z from rfl] at v2
    have c0 := fun w => parseList_any z w (Nat.le_trans lz (by decide))
    unfold tx at c0
    have C0 := hid c0
    clear c0
    obtain ⟨q0, q1, q2, q3, ql, qf⟩ := (⟨r46.cell 0, r46.cell 1, r46.cell 2, r46.cell 3, r46.lt, r46.frozen⟩ : _ ∧ _ ∧ _ ∧ _ ∧ _ ∧ _)
    go_wp2_with fail
    with_reducible refine (C0.out _).mono ?_
    rintro e w5 ⟨v, rfl, ho, hb5⟩
    skip
    have sz5 : w4.heap.size ≤ w5.heap.size := Nat.le_trans (by first | exact Nat.le_refl _ | (simp; done) | (simp; omega)) (hb5.size)
    have hB49 := hB45.trans (hb5.mono hB45.size)
    have r50 := r46.below hb5 r46.lt
    have u51 := u47.below hb5
    have v52 := v48.below hb5
    clear hB45 r46 u47 v48
    clear q0 q1 q2 q3 ql qf
    clear v2 lv2 C0
    obtain ⟨Bz, dz, rfl, _⟩ := ho.form
    clear ho
    obtain ⟨_, _, e9, lu0, u0⟩ := u51.sees.word (k := 0) (by simp)
    injection e9 with e9
    injection e9 with e8 e9
    subst e8 e9
    rw [Nat.add_zero, show ([a, b] : List (List UInt8))[0] = a from rfl] at u0
    have c0 := fun w => parseInt_any a w (Nat.le_trans la (by decide))
    unfold tx at c0
    have C0 := hid c0
    clear c0
    obtain ⟨q0, q1, q2, q3, ql, qf⟩ := (⟨r50.cell 0, r50.cell 1, r50.cell 2, r50.cell 3, r50.lt, r50.frozen⟩ : _ ∧ _ ∧ _ ∧ _ ∧ _ ∧ _)
    go_wp2_with fail
    with_reducible refine (C0.out _).mono ?_
    rintro e w6 ⟨he, hb6⟩
    rw [HM.out] at he
    subst he
    have sz6 : w5.heap.size ≤ w6.heap.size := Nat.le_trans (by first | exact Nat.le_refl _ | (simp; done) | (simp; omega)) (hb6.size)
    have hB53 := hB49.trans (hb6.mono hB49.size)
    have r54 := r50.below hb6 r50.lt
    have u55 := u51.below hb6
    have v56 := v52.below hb6
    clear hB49 r50 u51 v52
    clear q0 q1 q2 q3 ql qf
    clear u0 lu0 C0
    clear u55
    clear v56
    have hB57 := hB53.alloc hB53.size (.cells #[.int .i64 m, .slice Bx (nlT x).length dx, .slice By (hlT y).length dy, .slice Bz (nlT z).length dz] 26)
    have r58 := r54.alloc (.cells #[.int .i64 m, .slice Bx (nlT x).length dx, .slice By (hlT y).length dy, .slice Bz (nlT z).length dz] 26)
    clear hB53 r54
    have t59 : At (w6.alloc (.cells #[.int .i64 m, .slice Bx (nlT x).length dx, .slice By (hlT y).length dy, .slice Bz (nlT z).length dz] 26)) (w6.heap.size) 26 #[.int .i64 m, .slice Bx (nlT x).length dx, .slice By (hlT y).length dy, .slice Bz (nlT z).length dz] := At.newAt _ _ (by first | rfl | (simp; done) | (simp; omega))
    clear t59
    obtain ⟨q0, q1, q2, q3, ql, qf⟩ := (⟨r58.cell 0, r58.cell 1, r58.cell 2, r58.cell 3, r58.lt, r58.frozen⟩ : _ ∧ _ ∧ _ ∧ _ ∧ _ ∧ _)
    have hB60 := below_put hB57 (grown_set (w6.alloc (.cells #[.int .i64 m, .slice Bx (nlT x).length dx, .slice By (hlT y).length dy, .slice Bz (nlT z).length dz] 26)) (w.heap.size) 0 (.int .i64 0)) (by omega) (by have := hB57.size; omega)
    have r61 : At ((w6.alloc (.cells #[.int .i64 m, .slice Bx (nlT x).length dx, .slice By (hlT y).length dy, .slice Bz (nlT z).length dz] 26)).setCell ⟨w.heap.size, 0, none⟩ (.int .i64 0)) (w.heap.size) 26 #[.int .i64 0, .slice none 0 0, .slice none 0 0, .slice none 0 0] := by simpa using r58.set 0 (.int .i64 0)
    clear hB57 r58
    have hB62 := below_put hB60 (grown_set ((w6.alloc (.cells #[.int .i64 m, .slice Bx (nlT x).length dx, .slice By (hlT y).length dy, .slice Bz (nlT z).length dz] 26)).setCell ⟨w.heap.size, 0, none⟩ (.int .i64 0)) (w.heap.size) 1 (.slice none 0 0)) (by omega) (by have := hB60.size; omega)
    have r63 : At (((w6.alloc (.cells #[.int .i64 m, .slice Bx (nlT x).length dx, .slice By (hlT y).length dy, .slice Bz (nlT z).length dz] 26)).setCell ⟨w.heap.size, 0, none⟩ (.int .i64 0)).setCell ⟨w.heap.size, 1, none⟩ (.slice none 0 0)) (w.heap.size) 26 #[.int .i64 0, .slice none 0 0, .slice none 0 0, .slice none 0 0] := by simpa using r61.set 1 (.slice none 0 0)
    clear hB60 r61
    have hB64 := below_put hB62 (grown_set (((w6.alloc (.cells #[.int .i64 m, .slice Bx (nlT x).length dx, .slice By (hlT y).length dy, .slice Bz (nlT z).length dz] 26)).setCell ⟨w.heap.size, 0, none⟩ (.int .i64 0)).setCell ⟨w.heap.size, 1, none⟩ (.slice none 0 0)) (w.heap.size) 2 (.slice none 0 0)) (by omega) (by have := hB62.size; omega)
    have r65 : At ((((w6.alloc (.cells #[.int .i64 m, .slice Bx (nlT x).length dx, .slice By (hlT y).length dy, .slice Bz (nlT z).length dz] 26)).setCell ⟨w.heap.size, 0, none⟩ (.int .i64 0)).setCell ⟨w.heap.size, 1, none⟩ (.slice none 0 0)).setCell ⟨w.heap.size, 2, none⟩ (.slice none 0 0)) (w.heap.size) 26 #[.int .i64 0, .slice none 0 0, .slice none 0 0, .slice none 0 0] := by simpa using r63.set 2 (.slice none 0 0)
    clear hB62 r63
    have hB66 := below_put hB64 (grown_set ((((w6.alloc (.cells #[.int .i64 m, .slice Bx (nlT x).length dx, .slice By (hlT y).length dy, .slice Bz (nlT z).length dz] 26)).setCell ⟨w.heap.size, 0, none⟩ (.int .i64 0)).setCell ⟨w.heap.size, 1, none⟩ (.slice none 0 0)).setCell ⟨w.heap.size, 2, none⟩ (.slice none 0 0)) (w.heap.size) 3 (.slice none 0 0)) (by omega) (by have := hB64.size; omega)
    have r67 : At (((((w6.alloc (.cells #[.int .i64 m, .slice Bx (nlT x).length dx, .slice By (hlT y).length dy, .slice Bz (nlT z).length dz] 26)).setCell ⟨w.heap.size, 0, none⟩ (.int .i64 0)).setCell ⟨w.heap.size, 1, none⟩ (.slice none 0 0)).setCell ⟨w.heap.size, 2, none⟩ (.slice none 0 0)).setCell ⟨w.heap.size, 3, none⟩ (.slice none 0 0)) (w.heap.size) 26 #[.int .i64 0, .slice none 0 0, .slice none 0 0, .slice none 0 0] := by simpa using r65.set 3 (.slice none 0 0)
    clear hB64 r65
    go_wp2
    refine bodyPost_ret (v := .tuple #[.agg #[.int .i64 0, .slice none 0 0, .slice none 0 0, .slice none 0 0], .bool false]) (by simp [results, Try.results14, go_sem, r67.cell]) rfl ?_
    exact pansb_zero (prsP_no EB.out) EB.out hB66
  rcases hy : hnB (holL y) with _ | _
  · skip
    have EB := hid (raw_neg e e2 (.inr (.inl hy)))
    have Bx := hid hx
    have By := hid hy
    clear hx hy e e2 hm
    have hB68 := Below.refl w.heap.size w
    have hB69 := hB68.alloc hB68.size (.cells #[.int .i64 0, .slice none 0 0, .slice none 0 0, .slice none 0 0] 26)
    clear hB68
    have r70 : At (w.alloc (.cells #[.int .i64 0, .slice none 0 0, .slice none 0 0, .slice none 0 0] 26)) (w.heap.size) 26 #[.int .i64 0, .slice none 0 0, .slice none 0 0, .slice none 0 0] := At.newAt _ _ (by first | rfl | (simp; done) | (simp; omega))
    go_enter Try.func14, Try.ntmps14
    obtain ⟨q0, q1, q2, q3, ql, qf⟩ := (⟨r70.cell 0, r70.cell 1, r70.cell 2, r70.cell 3, r70.lt, r70.frozen⟩ : _ ∧ _ ∧ _ ∧ _ ∧ _ ∧ _)
    go_wp2_with fail
    with_reducible refine (splitAt_any S 32 32 _ rfl hS4).mono ?_
    rintro e w1 ⟨v, rfl, ho, hb1⟩
    rw [HT.out] at ho
    obtain ⟨A1, c1, rfl, _, _, _⟩ := OwnS.form ho
    rw [show ([a, b] : List (List UInt8)).length = 2 from rfl]
    have sz1 : w.heap.size + 1 ≤ w1.heap.size := Nat.le_trans (by first | exact Nat.le_refl _ | (simp; done) | (simp; omega)) (hb1.size)
    have hB71 := hB69.trans (hb1.mono hB69.size)
    have r72 := r70.below hb1 r70.lt
    clear hB69 r70
    clear q0 q1 q2 q3 ql qf
    have u73 := ho
    clear ho
    obtain ⟨ku, ou, rfl, _, _⟩ := u73.sees.word (k := 0) (by simp)
    obtain ⟨_, _, e9, lu1, u1⟩ := u73.sees.word (k := 1) (by simp)
    injection e9 with e9
    injection e9 with e8 e9
    subst e8 e9
    rw [show ([a, b] : List (List UInt8))[1] = b from rfl] at u1
    have c0 := fun w => splitAt_any b 124 124 w rfl (Nat.le_trans lb (by decide))
    unfold tx at c0
    have C0 := hid c0
    clear c0
    obtain ⟨q0, q1, q2, q3, ql, qf⟩ := (⟨r72.cell 0, r72.cell 1, r72.cell 2, r72.cell 3, r72.lt, r72.frozen⟩ : _ ∧ _ ∧ _ ∧ _ ∧ _ ∧ _)
    go_wp2_with fail
    with_reducible refine (C0.out _).mono ?_
    rintro e w2 ⟨v, rfl, ho, hb2⟩
    rw [HT3.out] at ho
    obtain ⟨A2, c2, rfl, _, _, _⟩ := OwnS.form ho
    rw [show ([x, y, z] : List (List UInt8)).length = 3 from rfl]
    have sz2 : w1.heap.size ≤ w2.heap.size := Nat.le_trans (by first | exact Nat.le_refl _ | (simp; done) | (simp; omega)) (hb2.size)
    have hB74 := hB71.trans (hb2.mono hB71.size)
    have r75 := r72.below hb2 r72.lt
    have u76 := u73.below hb2
    clear hB71 r72 u73
    clear q0 q1 q2 q3 ql qf
    clear u1 lu1 C0
    have v77 := ho
    clear ho
    obtain ⟨kv, ov, rfl, _, _⟩ := v77.sees.word (k := 0) (by simp)
    obtain ⟨_, _, e9, lv0, v0⟩ := v77.sees.word (k := 0) (by simp)
    injection e9 with e9
    injection e9 with e8 e9
    subst e8 e9
    rw [Nat.add_zero] at v0
    rw [show ([x, y, z] : List (List UInt8))[0] = x from rfl] at v0
    have c0 := fun w => parseList_any x w (Nat.le_trans lx (by decide))
    unfold tx at c0
    have C0 := hid c0
    clear c0
    obtain ⟨q0, q1, q2, q3, ql, qf⟩ := (⟨r75.cell 0, r75.cell 1, r75.cell 2, r75.cell 3, r75.lt, r75.frozen⟩ : _ ∧ _ ∧ _ ∧ _ ∧ _ ∧ _)
    go_wp2_with fail
    with_reducible refine (C0.out _).mono ?_
    rintro e w3 ⟨v, rfl, ho, hb3⟩
    rw [Bx.out]
    have sz3 : w2.heap.size ≤ w3.heap.size := Nat.le_trans (by first | exact Nat.le_refl _ | (simp; done) | (simp; omega)) (hb3.size)
    have hB78 := hB74.trans (hb3.mono hB74.size)
    have r79 := r75.below hb3 r75.lt
    have u80 := u76.below hb3
    have v81 := v77.below hb3
    clear hB74 r75 u76 v77
    clear q0 q1 q2 q3 ql qf
    clear v0 lv0 C0
    obtain ⟨Bx, dx, rfl, _⟩ := ho.form
    clear ho
    obtain ⟨_, _, e9, lv1, v1⟩ := v81.sees.word (k := 1) (by simp)
    injection e9 with e9
    injection e9 with e8 e9
    subst e8 e9
    rw [show ([x, y, z] : List (List UInt8))[1] = y from rfl] at v1
    have c0 := fun w => sparseHolds_any y w (Nat.le_trans ly (by decide))
    unfold tx at c0
    have C0 := hid c0
    clear c0
    obtain ⟨q0, q1, q2, q3, ql, qf⟩ := (⟨r79.cell 0, r79.cell 1, r79.cell 2, r79.cell 3, r79.lt, r79.frozen⟩ : _ ∧ _ ∧ _ ∧ _ ∧ _ ∧ _)
    go_wp2_with fail
    with_reducible refine (C0.out _).mono ?_
    rintro e w4 ⟨v, rfl, ho, hb4⟩
    rw [By.out]
    have sz4 : w3.heap.size ≤ w4.heap.size := Nat.le_trans (by first | exact Nat.le_refl _ | (simp; done) | (simp; omega)) (hb4.size)
    have hB82 := hB78.trans (hb4.mono hB78.size)
    have r83 := r79.below hb4 r79.lt
    have u84 := u80.below hb4
    have v85 := v81.below hb4
    clear hB78 r79 u80 v81
    clear q0 q1 q2 q3 ql qf
    clear v1 lv1 C0
    obtain ⟨By, dy, rfl, _⟩ := ho.form
    clear ho
    obtain ⟨_, _, e9, lv2, v2⟩ := v85.sees.word (k := 2) (by simp)
    injection e9 with e9
    injection e9 with e8 e9
    subst e8 e9
    rw [show ([x, y, z] : List (List UInt8))[2] = z from rfl] at v2
    have c0 := fun w => parseList_any z w (Nat.le_trans lz (by decide))
    unfold tx at c0
    have C0 := hid c0
    clear c0
    obtain ⟨q0, q1, q2, q3, ql, qf⟩ := (⟨r83.cell 0, r83.cell 1, r83.cell 2, r83.cell 3, r83.lt, r83.frozen⟩ : _ ∧ _ ∧ _ ∧ _ ∧ _ ∧ _)
    go_wp2_with fail
    with_reducible refine (C0.out _).mono ?_
    rintro e w5 ⟨v, rfl, ho, hb5⟩
    skip
    have sz5 : w4.heap.size ≤ w5.heap.size := Nat.le_trans (by first | exact Nat.le_refl _ | (simp; done) | (simp; omega)) (hb5.size)
    have hB86 := hB82.trans (hb5.mono hB82.size)
    have r87 := r83.below hb5 r83.lt
    have u88 := u84.below hb5
    have v89 := v85.below hb5
    clear hB82 r83 u84 v85
    clear q0 q1 q2 q3 ql qf
    clear v2 lv2 C0
    obtain ⟨Bz, dz, rfl, _⟩ := ho.form
    clear ho
    obtain ⟨_, _, e9, lu0, u0⟩ := u88.sees.word (k := 0) (by simp)
    injection e9 with e9
    injection e9 with e8 e9
    subst e8 e9
    rw [Nat.add_zero, show ([a, b] : List (List UInt8))[0] = a from rfl] at u0
    have c0 := fun w => parseInt_any a w (Nat.le_trans la (by decide))
    unfold tx at c0
    have C0 := hid c0
    clear c0
    obtain ⟨q0, q1, q2, q3, ql, qf⟩ := (⟨r87.cell 0, r87.cell 1, r87.cell 2, r87.cell 3, r87.lt, r87.frozen⟩ : _ ∧ _ ∧ _ ∧ _ ∧ _ ∧ _)
    go_wp2_with fail
    with_reducible refine (C0.out _).mono ?_
    rintro e w6 ⟨he, hb6⟩
    rw [HM.out] at he
    subst he
    have sz6 : w5.heap.size ≤ w6.heap.size := Nat.le_trans (by first | exact Nat.le_refl _ | (simp; done) | (simp; omega)) (hb6.size)
    have hB90 := hB86.trans (hb6.mono hB86.size)
    have r91 := r87.below hb6 r87.lt
    have u92 := u88.below hb6
    have v93 := v89.below hb6
    clear hB86 r87 u88 v89
    clear q0 q1 q2 q3 ql qf
    clear u0 lu0 C0
    clear u92
    clear v93
    have hB94 := hB90.alloc hB90.size (.cells #[.int .i64 m, .slice Bx (nlT x).length dx, .slice By (hlT y).length dy, .slice Bz (nlT z).length dz] 26)
    have r95 := r91.alloc (.cells #[.int .i64 m, .slice Bx (nlT x).length dx, .slice By (hlT y).length dy, .slice Bz (nlT z).length dz] 26)
    clear hB90 r91
    have t96 : At (w6.alloc (.cells #[.int .i64 m, .slice Bx (nlT x).length dx, .slice By (hlT y).length dy, .slice Bz (nlT z).length dz] 26)) (w6.heap.size) 26 #[.int .i64 m, .slice Bx (nlT x).length dx, .slice By (hlT y).length dy, .slice Bz (nlT z).length dz] := At.newAt _ _ (by first | rfl | (simp; done) | (simp; omega))
    clear t96
    obtain ⟨q0, q1, q2, q3, ql, qf⟩ := (⟨r95.cell 0, r95.cell 1, r95.cell 2, r95.cell 3, r95.lt, r95.frozen⟩ : _ ∧ _ ∧ _ ∧ _ ∧ _ ∧ _)
    have hB97 := below_put hB94 (grown_set (w6.alloc (.cells #[.int .i64 m, .slice Bx (nlT x).length dx, .slice By (hlT y).length dy, .slice Bz (nlT z).length dz] 26)) (w.heap.size) 0 (.int .i64 0)) (by omega) (by have := hB94.size; omega)
    have r98 : At ((w6.alloc (.cells #[.int .i64 m, .slice Bx (nlT x).length dx, .slice By (hlT y).length dy, .slice Bz (nlT z).length dz] 26)).setCell ⟨w.heap.size, 0, none⟩ (.int .i64 0)) (w.heap.size) 26 #[.int .i64 0, .slice none 0 0, .slice none 0 0, .slice none 0 0] := by simpa using r95.set 0 (.int .i64 0)
    clear hB94 r95
    have hB99 := below_put hB97 (grown_set ((w6.alloc (.cells #[.int .i64 m, .slice Bx (nlT x).length dx, .slice By (hlT y).length dy, .slice Bz (nlT z).length dz] 26)).setCell ⟨w.heap.size, 0, none⟩ (.int .i64 0)) (w.heap.size) 1 (.slice none 0 0)) (by omega) (by have := hB97.size; omega)
    have r100 : At (((w6.alloc (.cells #[.int .i64 m, .slice Bx (nlT x).length dx, .slice By (hlT y).length dy, .slice Bz (nlT z).length dz] 26)).setCell ⟨w.heap.size, 0, none⟩ (.int .i64 0)).setCell ⟨w.heap.size, 1, none⟩ (.slice none 0 0)) (w.heap.size) 26 #[.int .i64 0, .slice none 0 0, .slice none 0 0, .slice none 0 0] := by simpa using r98.set 1 (.slice none 0 0)
    clear hB97 r98
    have hB101 := below_put hB99 (grown_set (((w6.alloc (.cells #[.int .i64 m, .slice Bx (nlT x).length dx, .slice By (hlT y).length dy, .slice Bz (nlT z).length dz] 26)).setCell ⟨w.heap.size, 0, none⟩ (.int .i64 0)).setCell ⟨w.heap.size, 1, none⟩ (.slice none 0 0)) (w.heap.size) 2 (.slice none 0 0)) (by omega) (by have := hB99.size; omega)
    have r102 : At ((((w6.alloc (.cells #[.int .i64 m, .slice Bx (nlT x).length dx, .slice By (hlT y).length dy, .slice Bz (nlT z).length dz] 26)).setCell ⟨w.heap.size, 0, none⟩ (.int .i64 0)).setCell ⟨w.heap.size, 1, none⟩ (.slice none 0 0)).setCell ⟨w.heap.size, 2, none⟩ (.slice none 0 0)) (w.heap.size) 26 #[.int .i64 0, .slice none 0 0, .slice none 0 0, .slice none 0 0] := by simpa using r100.set 2 (.slice none 0 0)
    clear hB99 r100
    have hB103 := below_put hB101 (grown_set ((((w6.alloc (.cells #[.int .i64 m, .slice Bx (nlT x).length dx, .slice By (hlT y).length dy, .slice Bz (nlT z).length dz] 26)).setCell ⟨w.heap.size, 0, none⟩ (.int .i64 0)).setCell ⟨w.heap.size, 1, none⟩ (.slice none 0 0)).setCell ⟨w.heap.size, 2, none⟩ (.slice none 0 0)) (w.heap.size) 3 (.slice none 0 0)) (by omega) (by have := hB101.size; omega)
    have r104 : At (((((w6.alloc (.cells #[.int .i64 m, .slice Bx (nlT x).length dx, .slice By (hlT y).length dy, .slice Bz (nlT z).length dz] 26)).setCell ⟨w.heap.size, 0, none⟩ (.int .i64 0)).setCell ⟨w.heap.size, 1, none⟩ (.slice none 0 0)).setCell ⟨w.heap.size, 2, none⟩ (.slice none 0 0)).setCell ⟨w.heap.size, 3, none⟩ (.slice none 0 0)) (w.heap.size) 26 #[.int .i64 0, .slice none 0 0, .slice none 0 0, .slice none 0 0] := by simpa using r102.set 3 (.slice none 0 0)
    clear hB101 r102
    go_wp2
    refine bodyPost_ret (v := .tuple #[.agg #[.int .i64 0, .slice none 0 0, .slice none 0 0, .slice none 0 0], .bool false]) (by simp [results, Try.results14, go_sem, r104.cell]) rfl ?_
    exact pansb_zero (prsP_no EB.out) EB.out hB103
  rcases hz : nnB (numL z) with _ | _
  · skip
    have EB := hid (raw_neg e e2 (.inr (.inr hz)))
    have Bx := hid hx
    have By := hid hy
    have Bz := hid hz
    clear hx hy hz e e2 hm
    have hB105 := Below.refl w.heap.size w
    have hB106 := hB105.alloc hB105.size (.cells #[.int .i64 0, .slice none 0 0, .slice none 0 0, .slice none 0 0] 26)
    clear hB105
    have r107 : At (w.alloc (.cells #[.int .i64 0, .slice none 0 0, .slice none 0 0, .slice none 0 0] 26)) (w.heap.size) 26 #[.int .i64 0, .slice none 0 0, .slice none 0 0, .slice none 0 0] := At.newAt _ _ (by first | rfl | (simp; done) | (simp; omega))
    go_enter Try.func14, Try.ntmps14
    obtain ⟨q0, q1, q2, q3, ql, qf⟩ := (⟨r107.cell 0, r107.cell 1, r107.cell 2, r107.cell 3, r107.lt, r107.frozen⟩ : _ ∧ _ ∧ _ ∧ _ ∧ _ ∧ _)
    go_wp2_with fail
    with_reducible refine (splitAt_any S 32 32 _ rfl hS4).mono ?_
    rintro e w1 ⟨v, rfl, ho, hb1⟩
    rw [HT.out] at ho
    obtain ⟨A1, c1, rfl, _, _, _⟩ := OwnS.form ho
    rw [show ([a, b] : List (List UInt8)).length = 2 from rfl]
    have sz1 : w.heap.size + 1 ≤ w1.heap.size := Nat.le_trans (by first | exact Nat.le_refl _ | (simp; done) | (simp; omega)) (hb1.size)
    have hB108 := hB106.trans (hb1.mono hB106.size)
    have r109 := r107.below hb1 r107.lt
    clear hB106 r107
    clear q0 q1 q2 q3 ql qf
    have u110 := ho
    clear ho
    obtain ⟨ku, ou, rfl, _, _⟩ := u110.sees.word (k := 0) (by simp)
    obtain ⟨_, _, e9, lu1, u1⟩ := u110.sees.word (k := 1) (by simp)
    injection e9 with e9
    injection e9 with e8 e9
    subst e8 e9
    rw [show ([a, b] : List (List UInt8))[1] = b from rfl] at u1
    have c0 := fun w => splitAt_any b 124 124 w rfl (Nat.le_trans lb (by decide))
    unfold tx at c0
    have C0 := hid c0
    clear c0
    obtain ⟨q0, q1, q2, q3, ql, qf⟩ := (⟨r109.cell 0, r109.cell 1, r109.cell 2, r109.cell 3, r109.lt, r109.frozen⟩ : _ ∧ _ ∧ _ ∧ _ ∧ _ ∧ _)
    go_wp2_with fail
    with_reducible refine (C0.out _).mono ?_
    rintro e w2 ⟨v, rfl, ho, hb2⟩
    rw [HT3.out] at ho
    obtain ⟨A2, c2, rfl, _, _, _⟩ := OwnS.form ho
    rw [show ([x, y, z] : List (List UInt8)).length = 3 from rfl]
    have sz2 : w1.heap.size ≤ w2.heap.size := Nat.le_trans (by first | exact Nat.le_refl _ | (simp; done) | (simp; omega)) (hb2.size)
    have hB111 := hB108.trans (hb2.mono hB108.size)
    have r112 := r109.below hb2 r109.lt
    have u113 := u110.below hb2
    clear hB108 r109 u110
    clear q0 q1 q2 q3 ql qf
    clear u1 lu1 C0
    have v114 := ho
    clear ho
    obtain ⟨kv, ov, rfl, _, _⟩ := v114.sees.word (k := 0) (by simp)
    obtain ⟨_, _, e9, lv0, v0⟩ := v114.sees.word (k := 0) (by simp)
    injection e9 with e9
    injection e9 with e8 e9
    subst e8 e9
    rw [Nat.add_zero] at v0
    rw [show ([x, y, z] : List (List UInt8))[0] = x from rfl] at v0
    have c0 := fun w => parseList_any x w (Nat.le_trans lx (by decide))
    unfold tx at c0
    have C0 := hid c0
    clear c0
    obtain ⟨q0, q1, q2, q3, ql, qf⟩ := (⟨r112.cell 0, r112.cell 1, r112.cell 2, r112.cell 3, r112.lt, r112.frozen⟩ : _ ∧ _ ∧ _ ∧ _ ∧ _ ∧ _)
    go_wp2_with fail
    with_reducible refine (C0.out _).mono ?_
    rintro e w3 ⟨v, rfl, ho, hb3⟩
    rw [Bx.out]
    have sz3 : w2.heap.size ≤ w3.heap.size := Nat.le_trans (by first | exact Nat.le_refl _ | (simp; done) | (simp; omega)) (hb3.size)
    have hB115 := hB111.trans (hb3.mono hB111.size)
    have r116 := r112.below hb3 r112.lt
    have u117 := u113.below hb3
    have v118 := v114.below hb3
    clear hB111 r112 u113 v114
    clear q0 q1 q2 q3 ql qf
    clear v0 lv0 C0
    obtain ⟨Bx, dx, rfl, _⟩ := ho.form
    clear ho
    obtain ⟨_, _, e9, lv1, v1⟩ := v118.sees.word (k := 1) (by simp)
    injection e9 with e9
    injection e9 with e8 e9
    subst e8 e9
    rw [show ([x, y, z] : List (List UInt8))[1] = y from rfl] at v1
    have c0 := fun w => sparseHolds_any y w (Nat.le_trans ly (by decide))
    unfold tx at c0
    have C0 := hid c0
    clear c0
    obtain ⟨q0, q1, q2, q3, ql, qf⟩ := (⟨r116.cell 0, r116.cell 1, r116.cell 2, r116.cell 3, r116.lt, r116.frozen⟩ : _ ∧ _ ∧ _ ∧ _ ∧ _ ∧ _)
    go_wp2_with fail
    with_reducible refine (C0.out _).mono ?_
    rintro e w4 ⟨v, rfl, ho, hb4⟩
    rw [By.out]
    have sz4 : w3.heap.size ≤ w4.heap.size := Nat.le_trans (by first | exact Nat.le_refl _ | (simp; done) | (simp; omega)) (hb4.size)
    have hB119 := hB115.trans (hb4.mono hB115.size)
    have r120 := r116.below hb4 r116.lt
    have u121 := u117.below hb4
    have v122 := v118.below hb4
    clear hB115 r116 u117 v118
    clear q0 q1 q2 q3 ql qf
    clear v1 lv1 C0
    obtain ⟨By, dy, rfl, _⟩ := ho.form
    clear ho
    obtain ⟨_, _, e9, lv2, v2⟩ := v122.sees.word (k := 2) (by simp)
    injection e9 with e9
    injection e9 with e8 e9
    subst e8 e9
    rw [show ([x, y, z] : List (List UInt8))[2] = z from rfl] at v2
    have c0 := fun w => parseList_any z w (Nat.le_trans lz (by decide))
    unfold tx at c0
    have C0 := hid c0
    clear c0
    obtain ⟨q0, q1, q2, q3, ql, qf⟩ := (⟨r120.cell 0, r120.cell 1, r120.cell 2, r120.cell 3, r120.lt, r120.frozen⟩ : _ ∧ _ ∧ _ ∧ _ ∧ _ ∧ _)
    go_wp2_with fail
    with_reducible refine (C0.out _).mono ?_
    rintro e w5 ⟨v, rfl, ho, hb5⟩
    rw [Bz.out]
    have sz5 : w4.heap.size ≤ w5.heap.size := Nat.le_trans (by first | exact Nat.le_refl _ | (simp; done) | (simp; omega)) (hb5.size)
    have hB123 := hB119.trans (hb5.mono hB119.size)
    have r124 := r120.below hb5 r120.lt
    have u125 := u121.below hb5
    have v126 := v122.below hb5
    clear hB119 r120 u121 v122
    clear q0 q1 q2 q3 ql qf
    clear v2 lv2 C0
    obtain ⟨Bz, dz, rfl, _⟩ := ho.form
    clear ho
    obtain ⟨_, _, e9, lu0, u0⟩ := u125.sees.word (k := 0) (by simp)
    injection e9 with e9
    injection e9 with e8 e9
    subst e8 e9
    rw [Nat.add_zero, show ([a, b] : List (List UInt8))[0] = a from rfl] at u0
    have c0 := fun w => parseInt_any a w (Nat.le_trans la (by decide))
    unfold tx at c0
    have C0 := hid c0
    clear c0
    obtain ⟨q0, q1, q2, q3, ql, qf⟩ := (⟨r124.cell 0, r124.cell 1, r124.cell 2, r124.cell 3, r124.lt, r124.frozen⟩ : _ ∧ _ ∧ _ ∧ _ ∧ _ ∧ _)
    go_wp2_with fail
    with_reducible refine (C0.out _).mono ?_
    rintro e w6 ⟨he, hb6⟩
    rw [HM.out] at he
    subst he
    have sz6 : w5.heap.size ≤ w6.heap.size := Nat.le_trans (by first | exact Nat.le_refl _ | (simp; done) | (simp; omega)) (hb6.size)
    have hB127 := hB123.trans (hb6.mono hB123.size)
    have r128 := r124.below hb6 r124.lt
    have u129 := u125.below hb6
    have v130 := v126.below hb6
    clear hB123 r124 u125 v126
    clear q0 q1 q2 q3 ql qf
    clear u0 lu0 C0
    clear u129
    clear v130
    have hB131 := hB127.alloc hB127.size (.cells #[.int .i64 m, .slice Bx (nlT x).length dx, .slice By (hlT y).length dy, .slice Bz (nlT z).length dz] 26)
    have r132 := r128.alloc (.cells #[.int .i64 m, .slice Bx (nlT x).length dx, .slice By (hlT y).length dy, .slice Bz (nlT z).length dz] 26)
    clear hB127 r128
    have t133 : At (w6.alloc (.cells #[.int .i64 m, .slice Bx (nlT x).length dx, .slice By (hlT y).length dy, .slice Bz (nlT z).length dz] 26)) (w6.heap.size) 26 #[.int .i64 m, .slice Bx (nlT x).length dx, .slice By (hlT y).length dy, .slice Bz (nlT z).length dz] := At.newAt _ _ (by first | rfl | (simp; done) | (simp; omega))
    clear t133
    obtain ⟨q0, q1, q2, q3, ql, qf⟩ := (⟨r132.cell 0, r132.cell 1, r132.cell 2, r132.cell 3, r132.lt, r132.frozen⟩ : _ ∧ _ ∧ _ ∧ _ ∧ _ ∧ _)
    have hB134 := below_put hB131 (grown_set (w6.alloc (.cells #[.int .i64 m, .slice Bx (nlT x).length dx, .slice By (hlT y).length dy, .slice Bz (nlT z).length dz] 26)) (w.heap.size) 0 (.int .i64 0)) (by omega) (by have := hB131.size; omega)
    have r135 : At ((w6.alloc (.cells #[.int .i64 m, .slice Bx (nlT x).length dx, .slice By (hlT y).length dy, .slice Bz (nlT z).length dz] 26)).setCell ⟨w.heap.size, 0, none⟩ (.int .i64 0)) (w.heap.size) 26 #[.int .i64 0, .slice none 0 0, .slice none 0 0, .slice none 0 0] := by simpa using r132.set 0 (.int .i64 0)
    clear hB131 r132
    have hB136 := below_put hB134 (grown_set ((w6.alloc (.cells #[.int .i64 m, .slice Bx (nlT x).length dx, .slice By (hlT y).length dy, .slice Bz (nlT z).length dz] 26)).setCell ⟨w.heap.size, 0, none⟩ (.int .i64 0)) (w.heap.size) 1 (.slice none 0 0)) (by omega) (by have := hB134.size; omega)
    have r137 : At (((w6.alloc (.cells #[.int .i64 m, .slice Bx (nlT x).length dx, .slice By (hlT y).length dy, .slice Bz (nlT z).length dz] 26)).setCell ⟨w.heap.size, 0, none⟩ (.int .i64 0)).setCell ⟨w.heap.size, 1, none⟩ (.slice none 0 0)) (w.heap.size) 26 #[.int .i64 0, .slice none 0 0, .slice none 0 0, .slice none 0 0] := by simpa using r135.set 1 (.slice none 0 0)
    clear hB134 r135
    have hB138 := below_put hB136 (grown_set (((w6.alloc (.cells #[.int .i64 m, .slice Bx (nlT x).length dx, .slice By (hlT y).length dy, .slice Bz (nlT z).length dz] 26)).setCell ⟨w.heap.size, 0, none⟩ (.int .i64 0)).setCell ⟨w.heap.size, 1, none⟩ (.slice none 0 0)) (w.heap.size) 2 (.slice none 0 0)) (by omega) (by have := hB136.size; omega)
    have r139 : At ((((w6.alloc (.cells #[.int .i64 m, .slice Bx (nlT x).length dx, .slice By (hlT y).length dy, .slice Bz (nlT z).length dz] 26)).setCell ⟨w.heap.size, 0, none⟩ (.int .i64 0)).setCell ⟨w.heap.size, 1, none⟩ (.slice none 0 0)).setCell ⟨w.heap.size, 2, none⟩ (.slice none 0 0)) (w.heap.size) 26 #[.int .i64 0, .slice none 0 0, .slice none 0 0, .slice none 0 0] := by simpa using r137.set 2 (.slice none 0 0)
    clear hB136 r137
    have hB140 := below_put hB138 (grown_set ((((w6.alloc (.cells #[.int .i64 m, .slice Bx (nlT x).length dx, .slice By (hlT y).length dy, .slice Bz (nlT z).length dz] 26)).setCell ⟨w.heap.size, 0, none⟩ (.int .i64 0)).setCell ⟨w.heap.size, 1, none⟩ (.slice none 0 0)).setCell ⟨w.heap.size, 2, none⟩ (.slice none 0 0)) (w.heap.size) 3 (.slice none 0 0)) (by omega) (by have := hB138.size; omega)
    have r141 : At (((((w6.alloc (.cells #[.int .i64 m, .slice Bx (nlT x).length dx, .slice By (hlT y).length dy, .slice Bz (nlT z).length dz] 26)).setCell ⟨w.heap.size, 0, none⟩ (.int .i64 0)).setCell ⟨w.heap.size, 1, none⟩ (.slice none 0 0)).setCell ⟨w.heap.size, 2, none⟩ (.slice none 0 0)).setCell ⟨w.heap.size, 3, none⟩ (.slice none 0 0)) (w.heap.size) 26 #[.int .i64 0, .slice none 0 0, .slice none 0 0, .slice none 0 0] := by simpa using r139.set 3 (.slice none 0 0)
    clear hB138 r139
    go_wp2
    refine bodyPost_ret (v := .tuple #[.agg #[.int .i64 0, .slice none 0 0, .slice none 0 0, .slice none 0 0], .bool false]) (by simp [results, Try.results14, go_sem, r141.cell]) rfl ?_
    exact pansb_zero (prsP_no EB.out) EB.out hB140
  have hraw := raw_yes e e2
  have EK := hid (prsB_of hraw)
  have HYP := hid (fun hk => prsP_of hraw hk)
  have L1 : Hid ((numL x).length ≤ 2097152) := hid (by have := numL_up x; omega)
  have L2 : Hid ((holL y).length ≤ 2097152) := hid (by have := holL_up y; omega)
  have L3 : Hid ((numL z).length ≤ 4194304) := hid (by have := numL_up z; omega)
  have Fx := hid (nlT_yes hx)
  have Fy := hid (hlT_yes hy)
  have Fz := hid (nlT_yes hz)
  have Bx := hid hx
  have By := hid hy
  have Bz := hid hz
  clear hx hy hz e e2 hraw
  obtain ⟨I, hI⟩ : ∃ I, I = numL x := ⟨_, rfl⟩
  simp only [← hI] at Fx EK HYP L1 L2 L3 Bx By Bz
  have GI := hid hI.symm
  clear hI
  obtain ⟨H, hH⟩ : ∃ H, H = holL y := ⟨_, rfl⟩
  simp only [← hH] at Fy EK HYP L1 L2 L3 Bx By Bz
  have GH := hid hH.symm
  clear hH
  obtain ⟨U, hU⟩ : ∃ U, U = numL z := ⟨_, rfl⟩
  simp only [← hU] at Fz EK HYP L1 L2 L3 Bx By Bz
  have GU := hid hU.symm
  clear hU
  simp only [← hm] at EK HYP
  clear hm
  have Bx2 := hid (show nnB (numL x) = true by rw [GI.out]; exact Bx.out)
  clear Bx
  have Bx := Bx2
  clear Bx2
  have By2 := hid (show hnB (holL y) = true by rw [GH.out]; exact By.out)
  clear By
  have By := By2
  clear By2
  have Bz2 := hid (show nnB (numL z) = true by rw [GU.out]; exact Bz.out)
  clear Bz
  have Bz := Bz2
  clear Bz2
  rcases hk : okB ⟨m, I, H, U⟩ with _ | _
  · skip
    have EB := hid (EK.out.trans hk)
    have HK := hid hk
    clear hk
    have hB142 := Below.refl w.heap.size w
    have hB143 := hB142.alloc hB142.size (.cells #[.int .i64 0, .slice none 0 0, .slice none 0 0, .slice none 0 0] 26)
    clear hB142
    have r144 : At (w.alloc (.cells #[.int .i64 0, .slice none 0 0, .slice none 0 0, .slice none 0 0] 26)) (w.heap.size) 26 #[.int .i64 0, .slice none 0 0, .slice none 0 0, .slice none 0 0] := At.newAt _ _ (by first | rfl | (simp; done) | (simp; omega))
    go_enter Try.func14, Try.ntmps14
    obtain ⟨q0, q1, q2, q3, ql, qf⟩ := (⟨r144.cell 0, r144.cell 1, r144.cell 2, r144.cell 3, r144.lt, r144.frozen⟩ : _ ∧ _ ∧ _ ∧ _ ∧ _ ∧ _)
    go_wp2_with fail
    with_reducible refine (splitAt_any S 32 32 _ rfl hS4).mono ?_
    rintro e w1 ⟨v, rfl, ho, hb1⟩
    rw [HT.out] at ho
    obtain ⟨A1, c1, rfl, _, _, _⟩ := OwnS.form ho
    rw [show ([a, b] : List (List UInt8)).length = 2 from rfl]
    have sz1 : w.heap.size + 1 ≤ w1.heap.size := Nat.le_trans (by first | exact Nat.le_refl _ | (simp; done) | (simp; omega)) (hb1.size)
    have hB145 := hB143.trans (hb1.mono hB143.size)
    have r146 := r144.below hb1 r144.lt
    clear hB143 r144
    clear q0 q1 q2 q3 ql qf
    have u147 := ho
    clear ho
    obtain ⟨ku, ou, rfl, _, _⟩ := u147.sees.word (k := 0) (by simp)
    obtain ⟨_, _, e9, lu1, u1⟩ := u147.sees.word (k := 1) (by simp)
    injection e9 with e9
    injection e9 with e8 e9
    subst e8 e9
    rw [show ([a, b] : List (List UInt8))[1] = b from rfl] at u1
    have c0 := fun w => splitAt_any b 124 124 w rfl (Nat.le_trans lb (by decide))
    unfold tx at c0
    have C0 := hid c0
    clear c0
    obtain ⟨q0, q1, q2, q3, ql, qf⟩ := (⟨r146.cell 0, r146.cell 1, r146.cell 2, r146.cell 3, r146.lt, r146.frozen⟩ : _ ∧ _ ∧ _ ∧ _ ∧ _ ∧ _)
    go_wp2_with fail
    with_reducible refine (C0.out _).mono ?_
    rintro e w2 ⟨v, rfl, ho, hb2⟩
    rw [HT3.out] at ho
    obtain ⟨A2, c2, rfl, _, _, _⟩ := OwnS.form ho
    rw [show ([x, y, z] : List (List UInt8)).length = 3 from rfl]
    have sz2 : w1.heap.size ≤ w2.heap.size := Nat.le_trans (by first | exact Nat.le_refl _ | (simp; done) | (simp; omega)) (hb2.size)
    have hB148 := hB145.trans (hb2.mono hB145.size)
    have r149 := r146.below hb2 r146.lt
    have u150 := u147.below hb2
    clear hB145 r146 u147
    clear q0 q1 q2 q3 ql qf
    clear u1 lu1 C0
    have v151 := ho
    clear ho
    obtain ⟨kv, ov, rfl, _, _⟩ := v151.sees.word (k := 0) (by simp)
    obtain ⟨_, _, e9, lv0, v0⟩ := v151.sees.word (k := 0) (by simp)
    injection e9 with e9
    injection e9 with e8 e9
    subst e8 e9
    rw [Nat.add_zero] at v0
    rw [show ([x, y, z] : List (List UInt8))[0] = x from rfl] at v0
    have c0 := fun w => parseList_any x w (Nat.le_trans lx (by decide))
    unfold tx at c0
    have C0 := hid c0
    clear c0
    obtain ⟨q0, q1, q2, q3, ql, qf⟩ := (⟨r149.cell 0, r149.cell 1, r149.cell 2, r149.cell 3, r149.lt, r149.frozen⟩ : _ ∧ _ ∧ _ ∧ _ ∧ _ ∧ _)
    go_wp2_with fail
    with_reducible refine (C0.out _).mono ?_
    rintro e w3 ⟨v, rfl, ho, hb3⟩
    rw [Bx.out]
    have sz3 : w2.heap.size ≤ w3.heap.size := Nat.le_trans (by first | exact Nat.le_refl _ | (simp; done) | (simp; omega)) (hb3.size)
    have hB152 := hB148.trans (hb3.mono hB148.size)
    have r153 := r149.below hb3 r149.lt
    have u154 := u150.below hb3
    have v155 := v151.below hb3
    clear hB148 r149 u150 v151
    clear q0 q1 q2 q3 ql qf
    clear v0 lv0 C0
    rw [Fx.out] at ho
    obtain ⟨Bx, dx, rfl, _⟩ := ho.form
    have i156 := ho
    have lowx := fun q hq => (ho.out.lt q hq).1
    have higx := fun q hq => (ho.out.lt q hq).2
    clear ho
    obtain ⟨_, _, e9, lv1, v1⟩ := v155.sees.word (k := 1) (by simp)
    injection e9 with e9
    injection e9 with e8 e9
    subst e8 e9
    rw [show ([x, y, z] : List (List UInt8))[1] = y from rfl] at v1
    have c0 := fun w => sparseHolds_any y w (Nat.le_trans ly (by decide))
    unfold tx at c0
    have C0 := hid c0
    clear c0
    obtain ⟨q0, q1, q2, q3, ql, qf⟩ := (⟨r153.cell 0, r153.cell 1, r153.cell 2, r153.cell 3, r153.lt, r153.frozen⟩ : _ ∧ _ ∧ _ ∧ _ ∧ _ ∧ _)
    go_wp2_with fail
    with_reducible refine (C0.out _).mono ?_
    rintro e w4 ⟨v, rfl, ho, hb4⟩
    rw [By.out]
    have sz4 : w3.heap.size ≤ w4.heap.size := Nat.le_trans (by first | exact Nat.le_refl _ | (simp; done) | (simp; omega)) (hb4.size)
    have hB157 := hB152.trans (hb4.mono hB152.size)
    have r158 := r153.below hb4 r153.lt
    have u159 := u154.below hb4
    have v160 := v155.below hb4
    have i161 := i156.below hb4
    clear hB152 r153 u154 v155 i156
    clear q0 q1 q2 q3 ql qf
    clear v1 lv1 C0
    rw [Fy.out] at ho
    obtain ⟨By, dy, rfl, _⟩ := ho.form
    have h162 := ho
    have lowy := fun q hq => (ho.lt q hq).1
    have higy := fun q hq => (ho.lt q hq).2
    clear ho
    obtain ⟨_, _, e9, lv2, v2⟩ := v160.sees.word (k := 2) (by simp)
    injection e9 with e9
    injection e9 with e8 e9
    subst e8 e9
    rw [show ([x, y, z] : List (List UInt8))[2] = z from rfl] at v2
    have c0 := fun w => parseList_any z w (Nat.le_trans lz (by decide))
    unfold tx at c0
    have C0 := hid c0
    clear c0
    obtain ⟨q0, q1, q2, q3, ql, qf⟩ := (⟨r158.cell 0, r158.cell 1, r158.cell 2, r158.cell 3, r158.lt, r158.frozen⟩ : _ ∧ _ ∧ _ ∧ _ ∧ _ ∧ _)
    go_wp2_with fail
    with_reducible refine (C0.out _).mono ?_
    rintro e w5 ⟨v, rfl, ho, hb5⟩
    rw [Bz.out]
    have sz5 : w4.heap.size ≤ w5.heap.size := Nat.le_trans (by first | exact Nat.le_refl _ | (simp; done) | (simp; omega)) (hb5.size)
    have hB163 := hB157.trans (hb5.mono hB157.size)
    have r164 := r158.below hb5 r158.lt
    have u165 := u159.below hb5
    have v166 := v160.below hb5
    have i167 := i161.below hb5
    have h168 := h162.below hb5
    clear hB157 r158 u159 v160 i161 h162
    clear q0 q1 q2 q3 ql qf
    clear v2 lv2 C0
    rw [Fz.out] at ho
    obtain ⟨Bz, dz, rfl, _⟩ := ho.form
    have tt169 := ho
    have lowz := fun q hq => (ho.out.lt q hq).1
    have higz := fun q hq => (ho.out.lt q hq).2
    clear ho
    obtain ⟨_, _, e9, lu0, u0⟩ := u165.sees.word (k := 0) (by simp)
    injection e9 with e9
    injection e9 with e8 e9
    subst e8 e9
    rw [Nat.add_zero, show ([a, b] : List (List UInt8))[0] = a from rfl] at u0
    have c0 := fun w => parseInt_any a w (Nat.le_trans la (by decide))
    unfold tx at c0
    have C0 := hid c0
    clear c0
    obtain ⟨q0, q1, q2, q3, ql, qf⟩ := (⟨r164.cell 0, r164.cell 1, r164.cell 2, r164.cell 3, r164.lt, r164.frozen⟩ : _ ∧ _ ∧ _ ∧ _ ∧ _ ∧ _)
    go_wp2_with fail
    with_reducible refine (C0.out _).mono ?_
    rintro e w6 ⟨he, hb6⟩
    rw [HM.out] at he
    subst he
    have sz6 : w5.heap.size ≤ w6.heap.size := Nat.le_trans (by first | exact Nat.le_refl _ | (simp; done) | (simp; omega)) (hb6.size)
    have hB170 := hB163.trans (hb6.mono hB163.size)
    have r171 := r164.below hb6 r164.lt
    have u172 := u165.below hb6
    have v173 := v166.below hb6
    have i174 := i167.below hb6
    have h175 := h168.below hb6
    have tt176 := tt169.below hb6
    clear hB163 r164 u165 v166 i167 h168 tt169
    clear q0 q1 q2 q3 ql qf
    clear u0 lu0 C0
    clear u172
    clear v173
    have hB177 := hB170.alloc hB170.size (.cells #[.int .i64 m, .slice Bx I.length dx, .slice By H.length dy, .slice Bz U.length dz] 26)
    have r178 := r171.alloc (.cells #[.int .i64 m, .slice Bx I.length dx, .slice By H.length dy, .slice Bz U.length dz] 26)
    have i179 := i174.alloc4 (.cells #[.int .i64 m, .slice Bx I.length dx, .slice By H.length dy, .slice Bz U.length dz] 26)
    have h180 := h175.alloc (.cells #[.int .i64 m, .slice Bx I.length dx, .slice By H.length dy, .slice Bz U.length dz] 26)
    have tt181 := tt176.alloc4 (.cells #[.int .i64 m, .slice Bx I.length dx, .slice By H.length dy, .slice Bz U.length dz] 26)
    clear hB170 r171 i174 h175 tt176
    have t182 : At (w6.alloc (.cells #[.int .i64 m, .slice Bx I.length dx, .slice By H.length dy, .slice Bz U.length dz] 26)) (w6.heap.size) 26 #[.int .i64 m, .slice Bx I.length dx, .slice By H.length dy, .slice Bz U.length dz] := At.newAt _ _ (by first | rfl | (simp; done) | (simp; omega))
    have sees : SeesP (w6.alloc (.cells #[.int .i64 m, .slice Bx I.length dx, .slice By H.length dy, .slice Bz U.length dz] 26)) _ Bx By Bz ⟨m, I, H, U⟩ := ⟨Sees.of_own i179.out, h180.sees, Sees.of_own tt181.out⟩
    obtain ⟨q0, q1, q2, q3, ql, qf⟩ := (⟨r178.cell 0, r178.cell 1, r178.cell 2, r178.cell 3, r178.lt, r178.frozen⟩ : _ ∧ _ ∧ _ ∧ _ ∧ _ ∧ _)
    obtain ⟨t0, t1, t2, t3, tl, tf⟩ := (⟨t182.cell 0, t182.cell 1, t182.cell 2, t182.cell 3, t182.lt, t182.frozen⟩ : _ ∧ _ ∧ _ ∧ _ ∧ _ ∧ _)
    go_wp2_with fail
    with_reducible refine (svalidPool_any ⟨m, I, H, U⟩ Bx By Bz dx dy dz _ sees L1.out L2.out L3.out).mono ?_
    rintro e w7 ⟨he, hb7⟩
    rw [HK.out] at he
    subst he
    have sz7 : w6.heap.size + 1 ≤ w7.heap.size := Nat.le_trans (by first | exact Nat.le_refl _ | (simp; done) | (simp; omega)) (hb7.size)
    have hB183 := hB177.trans (hb7.mono hB177.size)
    have r184 := r178.below hb7 r178.lt
    have i185 := i179.below hb7
    have h186 := h180.below hb7
    have tt187 := tt181.below hb7
    have t188 := t182.below hb7 t182.lt
    clear hB177 r178 i179 h180 tt181 t182
    clear q0 q1 q2 q3 ql qf t0 t1 t2 t3 tl tf
    clear sees
    clear i185
    clear h186
    clear tt187
    clear t188
    obtain ⟨q0, q1, q2, q3, ql, qf⟩ := (⟨r184.cell 0, r184.cell 1, r184.cell 2, r184.cell 3, r184.lt, r184.frozen⟩ : _ ∧ _ ∧ _ ∧ _ ∧ _ ∧ _)
    have hB189 := below_put hB183 (grown_set w7 (w.heap.size) 0 (.int .i64 0)) (by omega) (by have := hB183.size; omega)
    have r190 : At (w7.setCell ⟨w.heap.size, 0, none⟩ (.int .i64 0)) (w.heap.size) 26 #[.int .i64 0, .slice none 0 0, .slice none 0 0, .slice none 0 0] := by simpa using r184.set 0 (.int .i64 0)
    clear hB183 r184
    have hB191 := below_put hB189 (grown_set (w7.setCell ⟨w.heap.size, 0, none⟩ (.int .i64 0)) (w.heap.size) 1 (.slice none 0 0)) (by omega) (by have := hB189.size; omega)
    have r192 : At ((w7.setCell ⟨w.heap.size, 0, none⟩ (.int .i64 0)).setCell ⟨w.heap.size, 1, none⟩ (.slice none 0 0)) (w.heap.size) 26 #[.int .i64 0, .slice none 0 0, .slice none 0 0, .slice none 0 0] := by simpa using r190.set 1 (.slice none 0 0)
    clear hB189 r190
    have hB193 := below_put hB191 (grown_set ((w7.setCell ⟨w.heap.size, 0, none⟩ (.int .i64 0)).setCell ⟨w.heap.size, 1, none⟩ (.slice none 0 0)) (w.heap.size) 2 (.slice none 0 0)) (by omega) (by have := hB191.size; omega)
    have r194 : At (((w7.setCell ⟨w.heap.size, 0, none⟩ (.int .i64 0)).setCell ⟨w.heap.size, 1, none⟩ (.slice none 0 0)).setCell ⟨w.heap.size, 2, none⟩ (.slice none 0 0)) (w.heap.size) 26 #[.int .i64 0, .slice none 0 0, .slice none 0 0, .slice none 0 0] := by simpa using r192.set 2 (.slice none 0 0)
    clear hB191 r192
    have hB195 := below_put hB193 (grown_set (((w7.setCell ⟨w.heap.size, 0, none⟩ (.int .i64 0)).setCell ⟨w.heap.size, 1, none⟩ (.slice none 0 0)).setCell ⟨w.heap.size, 2, none⟩ (.slice none 0 0)) (w.heap.size) 3 (.slice none 0 0)) (by omega) (by have := hB193.size; omega)
    have r196 : At ((((w7.setCell ⟨w.heap.size, 0, none⟩ (.int .i64 0)).setCell ⟨w.heap.size, 1, none⟩ (.slice none 0 0)).setCell ⟨w.heap.size, 2, none⟩ (.slice none 0 0)).setCell ⟨w.heap.size, 3, none⟩ (.slice none 0 0)) (w.heap.size) 26 #[.int .i64 0, .slice none 0 0, .slice none 0 0, .slice none 0 0] := by simpa using r194.set 3 (.slice none 0 0)
    clear hB193 r194
    go_wp2
    refine bodyPost_ret (v := .tuple #[.agg #[.int .i64 0, .slice none 0 0, .slice none 0 0, .slice none 0 0], .bool false]) (by simp [results, Try.results14, go_sem, r196.cell]) rfl ?_
    exact pansb_zero (prsP_no EB.out) EB.out hB195
  · skip
    have EB := hid (EK.out.trans hk)
    have EP := hid (HYP.out hk)
    have HK := hid hk
    clear hk
    have hB197 := Below.refl w.heap.size w
    have hB198 := hB197.alloc hB197.size (.cells #[.int .i64 0, .slice none 0 0, .slice none 0 0, .slice none 0 0] 26)
    clear hB197
    have r199 : At (w.alloc (.cells #[.int .i64 0, .slice none 0 0, .slice none 0 0, .slice none 0 0] 26)) (w.heap.size) 26 #[.int .i64 0, .slice none 0 0, .slice none 0 0, .slice none 0 0] := At.newAt _ _ (by first | rfl | (simp; done) | (simp; omega))
    go_enter Try.func14, Try.ntmps14
    obtain ⟨q0, q1, q2, q3, ql, qf⟩ := (⟨r199.cell 0, r199.cell 1, r199.cell 2, r199.cell 3, r199.lt, r199.frozen⟩ : _ ∧ _ ∧ _ ∧ _ ∧ _ ∧ _)
    go_wp2_with fail
    with_reducible refine (splitAt_any S 32 32 _ rfl hS4).mono ?_
    rintro e w1 ⟨v, rfl, ho, hb1⟩
    rw [HT.out] at ho
    obtain ⟨A1, c1, rfl, _, _, _⟩ := OwnS.form ho
    rw [show ([a, b] : List (List UInt8)).length = 2 from rfl]
    have sz1 : w.heap.size + 1 ≤ w1.heap.size := Nat.le_trans (by first | exact Nat.le_refl _ | (simp; done) | (simp; omega)) (hb1.size)
    have hB200 := hB198.trans (hb1.mono hB198.size)
    have r201 := r199.below hb1 r199.lt
    clear hB198 r199
    clear q0 q1 q2 q3 ql qf
    have u202 := ho
    clear ho
    obtain ⟨ku, ou, rfl, _, _⟩ := u202.sees.word (k := 0) (by simp)
    obtain ⟨_, _, e9, lu1, u1⟩ := u202.sees.word (k := 1) (by simp)
    injection e9 with e9
    injection e9 with e8 e9
    subst e8 e9
    rw [show ([a, b] : List (List UInt8))[1] = b from rfl] at u1
    have c0 := fun w => splitAt_any b 124 124 w rfl (Nat.le_trans lb (by decide))
    unfold tx at c0
    have C0 := hid c0
    clear c0
    obtain ⟨q0, q1, q2, q3, ql, qf⟩ := (⟨r201.cell 0, r201.cell 1, r201.cell 2, r201.cell 3, r201.lt, r201.frozen⟩ : _ ∧ _ ∧ _ ∧ _ ∧ _ ∧ _)
    go_wp2_with fail
    with_reducible refine (C0.out _).mono ?_
    rintro e w2 ⟨v, rfl, ho, hb2⟩
    rw [HT3.out] at ho
    obtain ⟨A2, c2, rfl, _, _, _⟩ := OwnS.form ho
    rw [show ([x, y, z] : List (List UInt8)).length = 3 from rfl]
    have sz2 : w1.heap.size ≤ w2.heap.size := Nat.le_trans (by first | exact Nat.le_refl _ | (simp; done) | (simp; omega)) (hb2.size)
    have hB203 := hB200.trans (hb2.mono hB200.size)
    have r204 := r201.below hb2 r201.lt
    have u205 := u202.below hb2
    clear hB200 r201 u202
    clear q0 q1 q2 q3 ql qf
    clear u1 lu1 C0
    have v206 := ho
    clear ho
    obtain ⟨kv, ov, rfl, _, _⟩ := v206.sees.word (k := 0) (by simp)
    obtain ⟨_, _, e9, lv0, v0⟩ := v206.sees.word (k := 0) (by simp)
    injection e9 with e9
    injection e9 with e8 e9
    subst e8 e9
    rw [Nat.add_zero] at v0
    rw [show ([x, y, z] : List (List UInt8))[0] = x from rfl] at v0
    have c0 := fun w => parseList_any x w (Nat.le_trans lx (by decide))
    unfold tx at c0
    have C0 := hid c0
    clear c0
    obtain ⟨q0, q1, q2, q3, ql, qf⟩ := (⟨r204.cell 0, r204.cell 1, r204.cell 2, r204.cell 3, r204.lt, r204.frozen⟩ : _ ∧ _ ∧ _ ∧ _ ∧ _ ∧ _)
    go_wp2_with fail
    with_reducible refine (C0.out _).mono ?_
    rintro e w3 ⟨v, rfl, ho, hb3⟩
    rw [Bx.out]
    have sz3 : w2.heap.size ≤ w3.heap.size := Nat.le_trans (by first | exact Nat.le_refl _ | (simp; done) | (simp; omega)) (hb3.size)
    have hB207 := hB203.trans (hb3.mono hB203.size)
    have r208 := r204.below hb3 r204.lt
    have u209 := u205.below hb3
    have v210 := v206.below hb3
    clear hB203 r204 u205 v206
    clear q0 q1 q2 q3 ql qf
    clear v0 lv0 C0
    rw [Fx.out] at ho
    obtain ⟨Bx, dx, rfl, _⟩ := ho.form
    have i211 := ho
    have lowx := fun q hq => (ho.out.lt q hq).1
    have higx := fun q hq => (ho.out.lt q hq).2
    clear ho
    obtain ⟨_, _, e9, lv1, v1⟩ := v210.sees.word (k := 1) (by simp)
    injection e9 with e9
    injection e9 with e8 e9
    subst e8 e9
    rw [show ([x, y, z] : List (List UInt8))[1] = y from rfl] at v1
    have c0 := fun w => sparseHolds_any y w (Nat.le_trans ly (by decide))
    unfold tx at c0
    have C0 := hid c0
    clear c0
    obtain ⟨q0, q1, q2, q3, ql, qf⟩ := (⟨r208.cell 0, r208.cell 1, r208.cell 2, r208.cell 3, r208.lt, r208.frozen⟩ : _ ∧ _ ∧ _ ∧ _ ∧ _ ∧ _)
    go_wp2_with fail
    with_reducible refine (C0.out _).mono ?_
    rintro e w4 ⟨v, rfl, ho, hb4⟩
    rw [By.out]
    have sz4 : w3.heap.size ≤ w4.heap.size := Nat.le_trans (by first | exact Nat.le_refl _ | (simp; done) | (simp; omega)) (hb4.size)
    have hB212 := hB207.trans (hb4.mono hB207.size)
    have r213 := r208.below hb4 r208.lt
    have u214 := u209.below hb4
    have v215 := v210.below hb4
    have i216 := i211.below hb4
    clear hB207 r208 u209 v210 i211
    clear q0 q1 q2 q3 ql qf
    clear v1 lv1 C0
    rw [Fy.out] at ho
    obtain ⟨By, dy, rfl, _⟩ := ho.form
    have h217 := ho
    have lowy := fun q hq => (ho.lt q hq).1
    have higy := fun q hq => (ho.lt q hq).2
    clear ho
    obtain ⟨_, _, e9, lv2, v2⟩ := v215.sees.word (k := 2) (by simp)
    injection e9 with e9
    injection e9 with e8 e9
    subst e8 e9
    rw [show ([x, y, z] : List (List UInt8))[2] = z from rfl] at v2
    have c0 := fun w => parseList_any z w (Nat.le_trans lz (by decide))
    unfold tx at c0
    have C0 := hid c0
    clear c0
    obtain ⟨q0, q1, q2, q3, ql, qf⟩ := (⟨r213.cell 0, r213.cell 1, r213.cell 2, r213.cell 3, r213.lt, r213.frozen⟩ : _ ∧ _ ∧ _ ∧ _ ∧ _ ∧ _)
    go_wp2_with fail
    with_reducible refine (C0.out _).mono ?_
    rintro e w5 ⟨v, rfl, ho, hb5⟩
    rw [Bz.out]
    have sz5 : w4.heap.size ≤ w5.heap.size := Nat.le_trans (by first | exact Nat.le_refl _ | (simp; done) | (simp; omega)) (hb5.size)
    have hB218 := hB212.trans (hb5.mono hB212.size)
    have r219 := r213.below hb5 r213.lt
    have u220 := u214.below hb5
    have v221 := v215.below hb5
    have i222 := i216.below hb5
    have h223 := h217.below hb5
    clear hB212 r213 u214 v215 i216 h217
    clear q0 q1 q2 q3 ql qf
    clear v2 lv2 C0
    rw [Fz.out] at ho
    obtain ⟨Bz, dz, rfl, _⟩ := ho.form
    have tt224 := ho
    have lowz := fun q hq => (ho.out.lt q hq).1
    have higz := fun q hq => (ho.out.lt q hq).2
    clear ho
    obtain ⟨_, _, e9, lu0, u0⟩ := u220.sees.word (k := 0) (by simp)
    injection e9 with e9
    injection e9 with e8 e9
    subst e8 e9
    rw [Nat.add_zero, show ([a, b] : List (List UInt8))[0] = a from rfl] at u0
    have c0 := fun w => parseInt_any a w (Nat.le_trans la (by decide))
    unfold tx at c0
    have C0 := hid c0
    clear c0
    obtain ⟨q0, q1, q2, q3, ql, qf⟩ := (⟨r219.cell 0, r219.cell 1, r219.cell 2, r219.cell 3, r219.lt, r219.frozen⟩ : _ ∧ _ ∧ _ ∧ _ ∧ _ ∧ _)
    go_wp2_with fail
    with_reducible refine (C0.out _).mono ?_
    rintro e w6 ⟨he, hb6⟩
    rw [HM.out] at he
    subst he
    have sz6 : w5.heap.size ≤ w6.heap.size := Nat.le_trans (by first | exact Nat.le_refl _ | (simp; done) | (simp; omega)) (hb6.size)
    have hB225 := hB218.trans (hb6.mono hB218.size)
    have r226 := r219.below hb6 r219.lt
    have u227 := u220.below hb6
    have v228 := v221.below hb6
    have i229 := i222.below hb6
    have h230 := h223.below hb6
    have tt231 := tt224.below hb6
    clear hB218 r219 u220 v221 i222 h223 tt224
    clear q0 q1 q2 q3 ql qf
    clear u0 lu0 C0
    clear u227
    clear v228
    have hB232 := hB225.alloc hB225.size (.cells #[.int .i64 m, .slice Bx I.length dx, .slice By H.length dy, .slice Bz U.length dz] 26)
    have r233 := r226.alloc (.cells #[.int .i64 m, .slice Bx I.length dx, .slice By H.length dy, .slice Bz U.length dz] 26)
    have i234 := i229.alloc4 (.cells #[.int .i64 m, .slice Bx I.length dx, .slice By H.length dy, .slice Bz U.length dz] 26)
    have h235 := h230.alloc (.cells #[.int .i64 m, .slice Bx I.length dx, .slice By H.length dy, .slice Bz U.length dz] 26)
    have tt236 := tt231.alloc4 (.cells #[.int .i64 m, .slice Bx I.length dx, .slice By H.length dy, .slice Bz U.length dz] 26)
    clear hB225 r226 i229 h230 tt231
    have t237 : At (w6.alloc (.cells #[.int .i64 m, .slice Bx I.length dx, .slice By H.length dy, .slice Bz U.length dz] 26)) (w6.heap.size) 26 #[.int .i64 m, .slice Bx I.length dx, .slice By H.length dy, .slice Bz U.length dz] := At.newAt _ _ (by first | rfl | (simp; done) | (simp; omega))
    have sees : SeesP (w6.alloc (.cells #[.int .i64 m, .slice Bx I.length dx, .slice By H.length dy, .slice Bz U.length dz] 26)) _ Bx By Bz ⟨m, I, H, U⟩ := ⟨Sees.of_own i234.out, h235.sees, Sees.of_own tt236.out⟩
    obtain ⟨q0, q1, q2, q3, ql, qf⟩ := (⟨r233.cell 0, r233.cell 1, r233.cell 2, r233.cell 3, r233.lt, r233.frozen⟩ : _ ∧ _ ∧ _ ∧ _ ∧ _ ∧ _)
    obtain ⟨t0, t1, t2, t3, tl, tf⟩ := (⟨t237.cell 0, t237.cell 1, t237.cell 2, t237.cell 3, t237.lt, t237.frozen⟩ : _ ∧ _ ∧ _ ∧ _ ∧ _ ∧ _)
    go_wp2_with fail
    with_reducible refine (svalidPool_any ⟨m, I, H, U⟩ Bx By Bz dx dy dz _ sees L1.out L2.out L3.out).mono ?_
    rintro e w7 ⟨he, hb7⟩
    rw [HK.out] at he
    subst he
    have sz7 : w6.heap.size + 1 ≤ w7.heap.size := Nat.le_trans (by first | exact Nat.le_refl _ | (simp; done) | (simp; omega)) (hb7.size)
    have hB238 := hB232.trans (hb7.mono hB232.size)
    have r239 := r233.below hb7 r233.lt
    have i240 := i234.below hb7
    have h241 := h235.below hb7
    have tt242 := tt236.below hb7
    have t243 := t237.below hb7 t237.lt
    clear hB232 r233 i234 h235 tt236 t237
    clear q0 q1 q2 q3 ql qf t0 t1 t2 t3 tl tf
    clear sees
    have op : OwnP w7 w.heap.size Bx By Bz dx dy dz ⟨m, I, H, U⟩ := ⟨i240.mono (by omega), h241.mono (by omega), tt242.mono (by omega), fun k h1 h2 => by have := higx k h1; have := lowy k h2; omega, fun k h1 h2 => by have := higx k h1; have := lowz k h2; omega, fun k h1 h2 => by have := higy k h1; have := lowz k h2; omega⟩
    clear i240
    clear h241
    clear tt242
    have o244 := op
    clear op
    obtain ⟨q0, q1, q2, q3, ql, qf⟩ := (⟨r239.cell 0, r239.cell 1, r239.cell 2, r239.cell 3, r239.lt, r239.frozen⟩ : _ ∧ _ ∧ _ ∧ _ ∧ _ ∧ _)
    obtain ⟨t0, t1, t2, t3, tl, tf⟩ := (⟨t243.cell 0, t243.cell 1, t243.cell 2, t243.cell 3, t243.lt, t243.frozen⟩ : _ ∧ _ ∧ _ ∧ _ ∧ _ ∧ _)
    have ne_qt : ¬ w.heap.size = w6.heap.size := by omega
    have ne_tq : ¬ w6.heap.size = w.heap.size := by omega
    have hB245 := below_put hB238 (grown_set w7 (w.heap.size) 0 (.int .i64 m)) (by omega) (by have := hB238.size; omega)
    have t246 := t243.past (grown_set w7 (w.heap.size) 0 (.int .i64 m)) (by omega)
    have o247 := o244.past r239 (grown_set w7 (w.heap.size) 0 (.int .i64 m))
    have r248 : At (w7.setCell ⟨w.heap.size, 0, none⟩ (.int .i64 m)) (w.heap.size) 26 #[.int .i64 m, .slice none 0 0, .slice none 0 0, .slice none 0 0] := by simpa using r239.set 0 (.int .i64 m)
    clear hB238 t243 o244 r239
    have hB249 := below_put hB245 (grown_set (w7.setCell ⟨w.heap.size, 0, none⟩ (.int .i64 m)) (w.heap.size) 1 (.slice Bx I.length dx)) (by omega) (by have := hB245.size; omega)
    have t250 := t246.past (grown_set (w7.setCell ⟨w.heap.size, 0, none⟩ (.int .i64 m)) (w.heap.size) 1 (.slice Bx I.length dx)) (by omega)
    have o251 := o247.past r248 (grown_set (w7.setCell ⟨w.heap.size, 0, none⟩ (.int .i64 m)) (w.heap.size) 1 (.slice Bx I.length dx))
    have r252 : At ((w7.setCell ⟨w.heap.size, 0, none⟩ (.int .i64 m)).setCell ⟨w.heap.size, 1, none⟩ (.slice Bx I.length dx)) (w.heap.size) 26 #[.int .i64 m, .slice Bx I.length dx, .slice none 0 0, .slice none 0 0] := by simpa using r248.set 1 (.slice Bx I.length dx)
    clear hB245 t246 o247 r248
    have hB253 := below_put hB249 (grown_set ((w7.setCell ⟨w.heap.size, 0, none⟩ (.int .i64 m)).setCell ⟨w.heap.size, 1, none⟩ (.slice Bx I.length dx)) (w.heap.size) 2 (.slice By H.length dy)) (by omega) (by have := hB249.size; omega)
    have t254 := t250.past (grown_set ((w7.setCell ⟨w.heap.size, 0, none⟩ (.int .i64 m)).setCell ⟨w.heap.size, 1, none⟩ (.slice Bx I.length dx)) (w.heap.size) 2 (.slice By H.length dy)) (by omega)
    have o255 := o251.past r252 (grown_set ((w7.setCell ⟨w.heap.size, 0, none⟩ (.int .i64 m)).setCell ⟨w.heap.size, 1, none⟩ (.slice Bx I.length dx)) (w.heap.size) 2 (.slice By H.length dy))
    have r256 : At (((w7.setCell ⟨w.heap.size, 0, none⟩ (.int .i64 m)).setCell ⟨w.heap.size, 1, none⟩ (.slice Bx I.length dx)).setCell ⟨w.heap.size, 2, none⟩ (.slice By H.length dy)) (w.heap.size) 26 #[.int .i64 m, .slice Bx I.length dx, .slice By H.length dy, .slice none 0 0] := by simpa using r252.set 2 (.slice By H.length dy)
    clear hB249 t250 o251 r252
    have hB257 := below_put hB253 (grown_set (((w7.setCell ⟨w.heap.size, 0, none⟩ (.int .i64 m)).setCell ⟨w.heap.size, 1, none⟩ (.slice Bx I.length dx)).setCell ⟨w.heap.size, 2, none⟩ (.slice By H.length dy)) (w.heap.size) 3 (.slice Bz U.length dz)) (by omega) (by have := hB253.size; omega)
    have t258 := t254.past (grown_set (((w7.setCell ⟨w.heap.size, 0, none⟩ (.int .i64 m)).setCell ⟨w.heap.size, 1, none⟩ (.slice Bx I.length dx)).setCell ⟨w.heap.size, 2, none⟩ (.slice By H.length dy)) (w.heap.size) 3 (.slice Bz U.length dz)) (by omega)
    have o259 := o255.past r256 (grown_set (((w7.setCell ⟨w.heap.size, 0, none⟩ (.int .i64 m)).setCell ⟨w.heap.size, 1, none⟩ (.slice Bx I.length dx)).setCell ⟨w.heap.size, 2, none⟩ (.slice By H.length dy)) (w.heap.size) 3 (.slice Bz U.length dz))
    have r260 : At ((((w7.setCell ⟨w.heap.size, 0, none⟩ (.int .i64 m)).setCell ⟨w.heap.size, 1, none⟩ (.slice Bx I.length dx)).setCell ⟨w.heap.size, 2, none⟩ (.slice By H.length dy)).setCell ⟨w.heap.size, 3, none⟩ (.slice Bz U.length dz)) (w.heap.size) 26 #[.int .i64 m, .slice Bx I.length dx, .slice By H.length dy, .slice Bz U.length dz] := by simpa using r256.set 3 (.slice Bz U.length dz)
    clear hB253 t254 o255 r256
    go_wp2
    refine bodyPost_ret (v := .tuple #[.agg #[.int .i64 m, .slice Bx I.length dx, .slice By H.length dy, .slice Bz U.length dz], .bool true]) (by simp [results, Try.results14, go_sem, r260.cell]) rfl ?_
    rw [EB.out, EP.out]
    exact ⟨_, _, _, _, _, _, rfl, o259, hB257⟩

end Go.Proofs.Ytehdbllpiokbnab

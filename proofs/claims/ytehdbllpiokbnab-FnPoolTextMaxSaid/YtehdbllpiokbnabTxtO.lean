/-
  What the program's ParsePool answers. Condition: the text is at most 2^22 bytes long.
-/
import Derived.Test.YtehdbllpiokbnabTa
import Derived.Test.YtehdbllpiokbnabPlF
import Derived.Test.YtehdbllpiokbnabPlG

namespace Go.Proofs.Ytehdbllpiokbnab
open Go.RowKit Txt Pol

/-- A pool and whether there is one. -/
def PAnsB (R : Pl) (b : Bool) (w : World) (e : Ending) (w' : World) : Prop := ∃ B1 B2 B3 d1 d2 d3, e = .returned (.tuple #[.agg #[.int .i64 R.mx, .slice B1 R.idle.length d1, .slice B2 R.held.length d2, .slice B3 R.wait.length d3], .bool b]) ∧ OwnP w' w.heap.size B1 B2 B3 d1 d2 d3 R ∧ Below w.heap.size w w'
theorem pansb_zero {R : Pl} {b c : Bool} {w w' : World} (hR : R = Pl.zero) (hc : c = b) (h : Below w.heap.size w w') : PAnsB R c w (.returned (.tuple #[.agg #[.int .i64 0, .slice none 0 0, .slice none 0 0, .slice none 0 0], .bool b])) w' := by
  subst hR hc
  exact ⟨none, none, none, 0, 0, 0, rfl, OwnP.zero _ _, h⟩
theorem num_many {x : List UInt8} {m : Nat} (h : splB x 44 m = false) : ¬ (numL x).length ≤ m := by
  have h2 : ¬ (x = [] ∨ (spl 44 x).length ≤ m) := fun e => by simp [splB, e] at h
  rw [numL_of (fun e => h2 (.inl e)), List.length_map]
  exact fun e => h2 (.inr e)
theorem hol_many {x : List UInt8} {m : Nat} (h : splB x 44 m = false) : ¬ (holL x).length ≤ m := by
  have h2 : ¬ (x = [] ∨ (spl 44 x).length ≤ m) := fun e => by simp [splB, e] at h
  rw [holL_of (fun e => h2 (.inl e)), List.length_map]
  exact fun e => h2 (.inr e)
theorem num_few {x : List UInt8} {m : Nat} (h : splB x 44 m = true) : (splT x 44 m).map num = numL x := by
  have h2 : x = [] ∨ (spl 44 x).length ≤ m := by simpa [splB] using h
  by_cases h0 : x = []
  · subst h0; rfl
  · rw [numL_of h0, (splT_yes h0 (h2.resolve_left h0)).1]
theorem hol_few {x : List UInt8} {m : Nat} (h : splB x 44 m = true) : (splT x 44 m).map holOf = holL x := by
  have h2 : x = [] ∨ (spl 44 x).length ≤ m := by simpa [splB] using h
  by_cases h0 : x = []
  · subst h0; rfl
  · rw [holL_of h0, (splT_yes h0 (h2.resolve_left h0)).1]
theorem numL_few {x : List UInt8} {m : Nat} (h : splB x 44 m = true) : (numL x).length ≤ m := by rw [← num_few h, List.length_map]; exact splT_many x 44 m
theorem holL_few {x : List UInt8} {m : Nat} (h : splB x 44 m = true) : (holL x).length ≤ m := by rw [← hol_few h, List.length_map]; exact splT_many x 44 m
theorem raw_few {s a b x y z : List UInt8} (e : spl 32 s = [a, b]) (e2 : spl 124 b = [x, y, z]) (h : splB x 44 6 = false ∨ splB y 44 6 = false ∨ splB z 44 12 = false) : prsB s = false := by
  rw [prsB_of (raw_yes e e2)]
  refine Bool.eq_false_iff.2 fun hk => ?_
  obtain ⟨k1, k2, k3⟩ := (okB_iff.1 hk).small
  rcases h with h | h | h
  · exact num_many h k1
  · exact hol_many h k2
  · exact num_many h k3
set_option maxHeartbeats 8000000 in
set_option maxRecDepth 16384 in
theorem iParsePool_any (S : List UInt8) (w : World) (hS : S.length ≤ 4194304) :
    Calls Try.prog 11 #[tx S] w (PAnsB (prsP S) (prsB S) w) := by
  by_cases h2 : (spl 32 S).length = 2
  rotate_left
  · skip
    have EB := hid (prsB_no (raw_no2 h2))
    have HT := hid (splT_isnt (m := 2) (by decide) (Nat.le_refl _) h2)
    clear h2
    have hB1 := Below.refl w.heap.size w
    have hB2 := hB1.alloc hB1.size (.cells #[.int .i64 0, .slice none 0 0, .slice none 0 0, .slice none 0 0] 26)
    clear hB1
    have r3 : At (w.alloc (.cells #[.int .i64 0, .slice none 0 0, .slice none 0 0, .slice none 0 0] 26)) (w.heap.size) 26 #[.int .i64 0, .slice none 0 0, .slice none 0 0, .slice none 0 0] := At.newAt _ _ (by first | rfl | (simp; done) | (simp; omega))
    go_enter Try.func11, Try.ntmps11
    obtain ⟨q0, q1, q2, q3, ql, qf⟩ := (⟨r3.cell 0, r3.cell 1, r3.cell 2, r3.cell 3, r3.lt, r3.frozen⟩ : _ ∧ _ ∧ _ ∧ _ ∧ _ ∧ _)
    go_wp2_with fail
    with_reducible refine (splitText_z S 32 32 2 2 _ rfl rfl hS (by decide)).mono ?_
    rintro e w1 ⟨v, rfl, ho, hb1⟩
    obtain ⟨A1, c1, rfl, _, _, _⟩ := OwnS.form ho
    have hlb : (((splT S 32 2).length : Int) != 2) = true := by have := HT.out; simp only [bne_iff_ne, ne_eq]; omega
    clear ho
    have sz1 : w.heap.size + 1 ≤ w1.heap.size := Nat.le_trans (by first | exact Nat.le_refl _ | (simp; done) | (simp; omega)) (hb1.size)
    have hB4 := hB2.trans (hb1.mono hB2.size)
    have r5 := r3.below hb1 r3.lt
    clear hB2 r3
    clear q0 q1 q2 q3 ql qf
    obtain ⟨q0, q1, q2, q3, ql, qf⟩ := (⟨r5.cell 0, r5.cell 1, r5.cell 2, r5.cell 3, r5.lt, r5.frozen⟩ : _ ∧ _ ∧ _ ∧ _ ∧ _ ∧ _)
    have hB6 := below_put hB4 (grown_set w1 (w.heap.size) 0 (.int .i64 0)) (by omega) (by have := hB4.size; omega)
    have r7 : At (w1.setCell ⟨w.heap.size, 0, none⟩ (.int .i64 0)) (w.heap.size) 26 #[.int .i64 0, .slice none 0 0, .slice none 0 0, .slice none 0 0] := by simpa using r5.set 0 (.int .i64 0)
    clear hB4 r5
    have hB8 := below_put hB6 (grown_set (w1.setCell ⟨w.heap.size, 0, none⟩ (.int .i64 0)) (w.heap.size) 1 (.slice none 0 0)) (by omega) (by have := hB6.size; omega)
    have r9 : At ((w1.setCell ⟨w.heap.size, 0, none⟩ (.int .i64 0)).setCell ⟨w.heap.size, 1, none⟩ (.slice none 0 0)) (w.heap.size) 26 #[.int .i64 0, .slice none 0 0, .slice none 0 0, .slice none 0 0] := by simpa using r7.set 1 (.slice none 0 0)
    clear hB6 r7
    have hB10 := below_put hB8 (grown_set ((w1.setCell ⟨w.heap.size, 0, none⟩ (.int .i64 0)).setCell ⟨w.heap.size, 1, none⟩ (.slice none 0 0)) (w.heap.size) 2 (.slice none 0 0)) (by omega) (by have := hB8.size; omega)
    have r11 : At (((w1.setCell ⟨w.heap.size, 0, none⟩ (.int .i64 0)).setCell ⟨w.heap.size, 1, none⟩ (.slice none 0 0)).setCell ⟨w.heap.size, 2, none⟩ (.slice none 0 0)) (w.heap.size) 26 #[.int .i64 0, .slice none 0 0, .slice none 0 0, .slice none 0 0] := by simpa using r9.set 2 (.slice none 0 0)
    clear hB8 r9
    have hB12 := below_put hB10 (grown_set (((w1.setCell ⟨w.heap.size, 0, none⟩ (.int .i64 0)).setCell ⟨w.heap.size, 1, none⟩ (.slice none 0 0)).setCell ⟨w.heap.size, 2, none⟩ (.slice none 0 0)) (w.heap.size) 3 (.slice none 0 0)) (by omega) (by have := hB10.size; omega)
    have r13 : At ((((w1.setCell ⟨w.heap.size, 0, none⟩ (.int .i64 0)).setCell ⟨w.heap.size, 1, none⟩ (.slice none 0 0)).setCell ⟨w.heap.size, 2, none⟩ (.slice none 0 0)).setCell ⟨w.heap.size, 3, none⟩ (.slice none 0 0)) (w.heap.size) 26 #[.int .i64 0, .slice none 0 0, .slice none 0 0, .slice none 0 0] := by simpa using r11.set 3 (.slice none 0 0)
    clear hB10 r11
    go_wp2
    refine bodyPost_ret (v := .tuple #[.agg #[.int .i64 0, .slice none 0 0, .slice none 0 0, .slice none 0 0], .bool false]) (by simp [results, Try.results11, go_sem, r13.cell]) rfl ?_
    exact pansb_zero (prsP_no EB.out) EB.out hB12
  obtain ⟨a, b, e⟩ := two_of h2
  have HT := hid (show splT S 32 2 = [a, b] by rw [splT_is (n := 2) (by decide) (Nat.le_refl _) h2, e])
  have la : a.length ≤ 4194304 := Nat.le_trans (spl_lens (c := 32) (s := S) (by rw [e]; simp)) hS
  have lb : b.length ≤ 4194304 := Nat.le_trans (spl_lens (c := 32) (s := S) (by rw [e]; simp)) hS
  by_cases h3 : (spl 124 b).length = 3
  rotate_left
  · skip
    have EB := hid (prsB_no (raw_no3 e h3))
    have HT3 := hid (splT_isnt (m := 3) (by decide) (Nat.le_refl _) h3)
    clear h2 h3 e
    have hB14 := Below.refl w.heap.size w
    have hB15 := hB14.alloc hB14.size (.cells #[.int .i64 0, .slice none 0 0, .slice none 0 0, .slice none 0 0] 26)
    clear hB14
    have r16 : At (w.alloc (.cells #[.int .i64 0, .slice none 0 0, .slice none 0 0, .slice none 0 0] 26)) (w.heap.size) 26 #[.int .i64 0, .slice none 0 0, .slice none 0 0, .slice none 0 0] := At.newAt _ _ (by first | rfl | (simp; done) | (simp; omega))
    go_enter Try.func11, Try.ntmps11
    obtain ⟨q0, q1, q2, q3, ql, qf⟩ := (⟨r16.cell 0, r16.cell 1, r16.cell 2, r16.cell 3, r16.lt, r16.frozen⟩ : _ ∧ _ ∧ _ ∧ _ ∧ _ ∧ _)
    go_wp2_with fail
    with_reducible refine (splitText_z S 32 32 2 2 _ rfl rfl hS (by decide)).mono ?_
    rintro e w1 ⟨v, rfl, ho, hb1⟩
    rw [HT.out] at ho
    obtain ⟨A1, c1, rfl, _, _, _⟩ := OwnS.form ho
    rw [show ([a, b] : List (List UInt8)).length = 2 from rfl]
    have sz1 : w.heap.size + 1 ≤ w1.heap.size := Nat.le_trans (by first | exact Nat.le_refl _ | (simp; done) | (simp; omega)) (hb1.size)
    have hB17 := hB15.trans (hb1.mono hB15.size)
    have r18 := r16.below hb1 r16.lt
    clear hB15 r16
    clear q0 q1 q2 q3 ql qf
    have u19 := ho
    clear ho
    obtain ⟨ku, ou, rfl, _, _⟩ := u19.sees.word (k := 0) (by simp)
    obtain ⟨_, _, e9, lu1, u1⟩ := u19.sees.word (k := 1) (by simp)
    injection e9 with e9
    injection e9 with e8 e9
    subst e8 e9
    rw [show ([a, b] : List (List UInt8))[1] = b from rfl] at u1
    have c0 := fun w => splitText_z b 124 124 3 3 w rfl rfl lb (by decide)
    unfold tx at c0
    have C0 := hid c0
    clear c0
    obtain ⟨q0, q1, q2, q3, ql, qf⟩ := (⟨r18.cell 0, r18.cell 1, r18.cell 2, r18.cell 3, r18.lt, r18.frozen⟩ : _ ∧ _ ∧ _ ∧ _ ∧ _ ∧ _)
    go_wp2_with fail
    with_reducible refine (C0.out _).mono ?_
    rintro e w2 ⟨v, rfl, ho, hb2⟩
    obtain ⟨A2, c2, rfl, _, _, _⟩ := OwnS.form ho
    have hlb : (((splT b 124 3).length : Int) != 3) = true := by have := HT3.out; simp only [bne_iff_ne, ne_eq]; omega
    clear ho
    have sz2 : w1.heap.size ≤ w2.heap.size := Nat.le_trans (by first | exact Nat.le_refl _ | (simp; done) | (simp; omega)) (hb2.size)
    have hB20 := hB17.trans (hb2.mono hB17.size)
    have r21 := r18.below hb2 r18.lt
    have u22 := u19.below hb2
    clear hB17 r18 u19
    clear q0 q1 q2 q3 ql qf
    clear u1 lu1 C0
    clear u22
    obtain ⟨q0, q1, q2, q3, ql, qf⟩ := (⟨r21.cell 0, r21.cell 1, r21.cell 2, r21.cell 3, r21.lt, r21.frozen⟩ : _ ∧ _ ∧ _ ∧ _ ∧ _ ∧ _)
    have hB23 := below_put hB20 (grown_set w2 (w.heap.size) 0 (.int .i64 0)) (by omega) (by have := hB20.size; omega)
    have r24 : At (w2.setCell ⟨w.heap.size, 0, none⟩ (.int .i64 0)) (w.heap.size) 26 #[.int .i64 0, .slice none 0 0, .slice none 0 0, .slice none 0 0] := by simpa using r21.set 0 (.int .i64 0)
    clear hB20 r21
    have hB25 := below_put hB23 (grown_set (w2.setCell ⟨w.heap.size, 0, none⟩ (.int .i64 0)) (w.heap.size) 1 (.slice none 0 0)) (by omega) (by have := hB23.size; omega)
    have r26 : At ((w2.setCell ⟨w.heap.size, 0, none⟩ (.int .i64 0)).setCell ⟨w.heap.size, 1, none⟩ (.slice none 0 0)) (w.heap.size) 26 #[.int .i64 0, .slice none 0 0, .slice none 0 0, .slice none 0 0] := by simpa using r24.set 1 (.slice none 0 0)
    clear hB23 r24
    have hB27 := below_put hB25 (grown_set ((w2.setCell ⟨w.heap.size, 0, none⟩ (.int .i64 0)).setCell ⟨w.heap.size, 1, none⟩ (.slice none 0 0)) (w.heap.size) 2 (.slice none 0 0)) (by omega) (by have := hB25.size; omega)
    have r28 : At (((w2.setCell ⟨w.heap.size, 0, none⟩ (.int .i64 0)).setCell ⟨w.heap.size, 1, none⟩ (.slice none 0 0)).setCell ⟨w.heap.size, 2, none⟩ (.slice none 0 0)) (w.heap.size) 26 #[.int .i64 0, .slice none 0 0, .slice none 0 0, .slice none 0 0] := by simpa using r26.set 2 (.slice none 0 0)
    clear hB25 r26
    have hB29 := below_put hB27 (grown_set (((w2.setCell ⟨w.heap.size, 0, none⟩ (.int .i64 0)).setCell ⟨w.heap.size, 1, none⟩ (.slice none 0 0)).setCell ⟨w.heap.size, 2, none⟩ (.slice none 0 0)) (w.heap.size) 3 (.slice none 0 0)) (by omega) (by have := hB27.size; omega)
    have r30 : At ((((w2.setCell ⟨w.heap.size, 0, none⟩ (.int .i64 0)).setCell ⟨w.heap.size, 1, none⟩ (.slice none 0 0)).setCell ⟨w.heap.size, 2, none⟩ (.slice none 0 0)).setCell ⟨w.heap.size, 3, none⟩ (.slice none 0 0)) (w.heap.size) 26 #[.int .i64 0, .slice none 0 0, .slice none 0 0, .slice none 0 0] := by simpa using r28.set 3 (.slice none 0 0)
    clear hB27 r28
    go_wp2
    refine bodyPost_ret (v := .tuple #[.agg #[.int .i64 0, .slice none 0 0, .slice none 0 0, .slice none 0 0], .bool false]) (by simp [results, Try.results11, go_sem, r30.cell]) rfl ?_
    exact pansb_zero (prsP_no EB.out) EB.out hB29
  obtain ⟨x, y, z, e2⟩ := three_of h3
  have HT3 := hid (show splT b 124 3 = [x, y, z] by rw [splT_is (n := 3) (by decide) (Nat.le_refl _) h3, e2])
  have lx : x.length ≤ 4194304 := Nat.le_trans (spl_lens (c := 124) (s := b) (by rw [e2]; simp)) lb
  have ly : y.length ≤ 4194304 := Nat.le_trans (spl_lens (c := 124) (s := b) (by rw [e2]; simp)) lb
  have lz : z.length ≤ 4194304 := Nat.le_trans (spl_lens (c := 124) (s := b) (by rw [e2]; simp)) lb
  clear h2 h3
  rcases hx : splB x 44 6 with _ | _
  · skip
    have EB := hid (raw_few e e2 (.inl hx))
    have Bx := hid hx
    clear hx e e2
    have hB31 := Below.refl w.heap.size w
    have hB32 := hB31.alloc hB31.size (.cells #[.int .i64 0, .slice none 0 0, .slice none 0 0, .slice none 0 0] 26)
    clear hB31
    have r33 : At (w.alloc (.cells #[.int .i64 0, .slice none 0 0, .slice none 0 0, .slice none 0 0] 26)) (w.heap.size) 26 #[.int .i64 0, .slice none 0 0, .slice none 0 0, .slice none 0 0] := At.newAt _ _ (by first | rfl | (simp; done) | (simp; omega))
    go_enter Try.func11, Try.ntmps11
    obtain ⟨q0, q1, q2, q3, ql, qf⟩ := (⟨r33.cell 0, r33.cell 1, r33.cell 2, r33.cell 3, r33.lt, r33.frozen⟩ : _ ∧ _ ∧ _ ∧ _ ∧ _ ∧ _)
    go_wp2_with fail
    with_reducible refine (splitText_z S 32 32 2 2 _ rfl rfl hS (by decide)).mono ?_
    rintro e w1 ⟨v, rfl, ho, hb1⟩
    rw [HT.out] at ho
    obtain ⟨A1, c1, rfl, _, _, _⟩ := OwnS.form ho
    rw [show ([a, b] : List (List UInt8)).length = 2 from rfl]
    have sz1 : w.heap.size + 1 ≤ w1.heap.size := Nat.le_trans (by first | exact Nat.le_refl _ | (simp; done) | (simp; omega)) (hb1.size)
    have hB34 := hB32.trans (hb1.mono hB32.size)
    have r35 := r33.below hb1 r33.lt
    clear hB32 r33
    clear q0 q1 q2 q3 ql qf
    have u36 := ho
    clear ho
    obtain ⟨ku, ou, rfl, _, _⟩ := u36.sees.word (k := 0) (by simp)
    obtain ⟨_, _, e9, lu1, u1⟩ := u36.sees.word (k := 1) (by simp)
    injection e9 with e9
    injection e9 with e8 e9
    subst e8 e9
    rw [show ([a, b] : List (List UInt8))[1] = b from rfl] at u1
    have c0 := fun w => splitText_z b 124 124 3 3 w rfl rfl lb (by decide)
    unfold tx at c0
    have C0 := hid c0
    clear c0
    obtain ⟨q0, q1, q2, q3, ql, qf⟩ := (⟨r35.cell 0, r35.cell 1, r35.cell 2, r35.cell 3, r35.lt, r35.frozen⟩ : _ ∧ _ ∧ _ ∧ _ ∧ _ ∧ _)
    go_wp2_with fail
    with_reducible refine (C0.out _).mono ?_
    rintro e w2 ⟨v, rfl, ho, hb2⟩
    rw [HT3.out] at ho
    obtain ⟨A2, c2, rfl, _, _, _⟩ := OwnS.form ho
    rw [show ([x, y, z] : List (List UInt8)).length = 3 from rfl]
    have sz2 : w1.heap.size ≤ w2.heap.size := Nat.le_trans (by first | exact Nat.le_refl _ | (simp; done) | (simp; omega)) (hb2.size)
    have hB37 := hB34.trans (hb2.mono hB34.size)
    have r38 := r35.below hb2 r35.lt
    have u39 := u36.below hb2
    clear hB34 r35 u36
    clear q0 q1 q2 q3 ql qf
    clear u1 lu1 C0
    have v40 := ho
    clear ho
    obtain ⟨kv, ov, rfl, _, _⟩ := v40.sees.word (k := 0) (by simp)
    obtain ⟨_, _, e9, lv0, v0⟩ := v40.sees.word (k := 0) (by simp)
    injection e9 with e9
    injection e9 with e8 e9
    subst e8 e9
    rw [Nat.add_zero] at v0
    rw [show ([x, y, z] : List (List UInt8))[0] = x from rfl] at v0
    have c0 := fun w => parseNumbers_any x 6 6 w rfl lx (by decide)
    unfold tx at c0
    have C0 := hid c0
    clear c0
    obtain ⟨q0, q1, q2, q3, ql, qf⟩ := (⟨r38.cell 0, r38.cell 1, r38.cell 2, r38.cell 3, r38.lt, r38.frozen⟩ : _ ∧ _ ∧ _ ∧ _ ∧ _ ∧ _)
    go_wp2_with fail
    with_reducible refine (C0.out _).mono ?_
    rintro e w3 ⟨v, rfl, ho, hb3⟩
    rw [Bx.out]
    have sz3 : w2.heap.size ≤ w3.heap.size := Nat.le_trans (by first | exact Nat.le_refl _ | (simp; done) | (simp; omega)) (hb3.size)
    have hB41 := hB37.trans (hb3.mono hB37.size)
    have r42 := r38.below hb3 r38.lt
    have u43 := u39.below hb3
    have v44 := v40.below hb3
    clear hB37 r38 u39 v40
    clear q0 q1 q2 q3 ql qf
    clear v0 lv0 C0
    obtain ⟨Ax9, cx9, rfl, _⟩ := ho.form
    clear ho
    obtain ⟨_, _, e9, lv1, v1⟩ := v44.sees.word (k := 1) (by simp)
    injection e9 with e9
    injection e9 with e8 e9
    subst e8 e9
    rw [show ([x, y, z] : List (List UInt8))[1] = y from rfl] at v1
    have c0 := fun w => iparseHolds_any y w ly
    unfold tx at c0
    have C0 := hid c0
    clear c0
    obtain ⟨q0, q1, q2, q3, ql, qf⟩ := (⟨r42.cell 0, r42.cell 1, r42.cell 2, r42.cell 3, r42.lt, r42.frozen⟩ : _ ∧ _ ∧ _ ∧ _ ∧ _ ∧ _)
    go_wp2_with fail
    with_reducible refine (C0.out _).mono ?_
    rintro e w4 ⟨v, rfl, ho, hb4⟩
    skip
    have sz4 : w3.heap.size ≤ w4.heap.size := Nat.le_trans (by first | exact Nat.le_refl _ | (simp; done) | (simp; omega)) (hb4.size)
    have hB45 := hB41.trans (hb4.mono hB41.size)
    have r46 := r42.below hb4 r42.lt
    have u47 := u43.below hb4
    have v48 := v44.below hb4
    clear hB41 r42 u43 v44
    clear q0 q1 q2 q3 ql qf
    clear v1 lv1 C0
    obtain ⟨Ay9, cy9, rfl, _⟩ := ho.form
    clear ho
    obtain ⟨_, _, e9, lv2, v2⟩ := v48.sees.word (k := 2) (by simp)
    injection e9 with e9
    injection e9 with e8 e9
    subst e8 e9
    rw [show ([x, y, z] : List (List UInt8))[2] = z from rfl] at v2
    have c0 := fun w => parseNumbers_any z 12 12 w rfl lz (by decide)
    unfold tx at c0
    have C0 := hid c0
    clear c0
    obtain ⟨q0, q1, q2, q3, ql, qf⟩ := (⟨r46.cell 0, r46.cell 1, r46.cell 2, r46.cell 3, r46.lt, r46.frozen⟩ : _ ∧ _ ∧ _ ∧ _ ∧ _ ∧ _)
    go_wp2_with fail
    with_reducible refine (C0.out _).mono ?_
    rintro e w5 ⟨v, rfl, ho, hb5⟩
    skip
    have sz5 : w4.heap.size ≤ w5.heap.size := Nat.le_trans (by first | exact Nat.le_refl _ | (simp; done) | (simp; omega)) (hb5.size)
    have hB49 := hB45.trans (hb5.mono hB45.size)
    have r50 := r46.below hb5 r46.lt
    have u51 := u47.below hb5
    have v52 := v48.below hb5
    clear hB45 r46 u47 v48
    clear q0 q1 q2 q3 ql qf
    clear v2 lv2 C0
    obtain ⟨Az9, cz9, rfl, _⟩ := ho.form
    clear ho
    clear u51
    clear v52
    obtain ⟨q0, q1, q2, q3, ql, qf⟩ := (⟨r50.cell 0, r50.cell 1, r50.cell 2, r50.cell 3, r50.lt, r50.frozen⟩ : _ ∧ _ ∧ _ ∧ _ ∧ _ ∧ _)
    have hB53 := below_put hB49 (grown_set w5 (w.heap.size) 0 (.int .i64 0)) (by omega) (by have := hB49.size; omega)
    have r54 : At (w5.setCell ⟨w.heap.size, 0, none⟩ (.int .i64 0)) (w.heap.size) 26 #[.int .i64 0, .slice none 0 0, .slice none 0 0, .slice none 0 0] := by simpa using r50.set 0 (.int .i64 0)
    clear hB49 r50
    have hB55 := below_put hB53 (grown_set (w5.setCell ⟨w.heap.size, 0, none⟩ (.int .i64 0)) (w.heap.size) 1 (.slice none 0 0)) (by omega) (by have := hB53.size; omega)
    have r56 : At ((w5.setCell ⟨w.heap.size, 0, none⟩ (.int .i64 0)).setCell ⟨w.heap.size, 1, none⟩ (.slice none 0 0)) (w.heap.size) 26 #[.int .i64 0, .slice none 0 0, .slice none 0 0, .slice none 0 0] := by simpa using r54.set 1 (.slice none 0 0)
    clear hB53 r54
    have hB57 := below_put hB55 (grown_set ((w5.setCell ⟨w.heap.size, 0, none⟩ (.int .i64 0)).setCell ⟨w.heap.size, 1, none⟩ (.slice none 0 0)) (w.heap.size) 2 (.slice none 0 0)) (by omega) (by have := hB55.size; omega)
    have r58 : At (((w5.setCell ⟨w.heap.size, 0, none⟩ (.int .i64 0)).setCell ⟨w.heap.size, 1, none⟩ (.slice none 0 0)).setCell ⟨w.heap.size, 2, none⟩ (.slice none 0 0)) (w.heap.size) 26 #[.int .i64 0, .slice none 0 0, .slice none 0 0, .slice none 0 0] := by simpa using r56.set 2 (.slice none 0 0)
    clear hB55 r56
    have hB59 := below_put hB57 (grown_set (((w5.setCell ⟨w.heap.size, 0, none⟩ (.int .i64 0)).setCell ⟨w.heap.size, 1, none⟩ (.slice none 0 0)).setCell ⟨w.heap.size, 2, none⟩ (.slice none 0 0)) (w.heap.size) 3 (.slice none 0 0)) (by omega) (by have := hB57.size; omega)
    have r60 : At ((((w5.setCell ⟨w.heap.size, 0, none⟩ (.int .i64 0)).setCell ⟨w.heap.size, 1, none⟩ (.slice none 0 0)).setCell ⟨w.heap.size, 2, none⟩ (.slice none 0 0)).setCell ⟨w.heap.size, 3, none⟩ (.slice none 0 0)) (w.heap.size) 26 #[.int .i64 0, .slice none 0 0, .slice none 0 0, .slice none 0 0] := by simpa using r58.set 3 (.slice none 0 0)
    clear hB57 r58
    go_wp2
    refine bodyPost_ret (v := .tuple #[.agg #[.int .i64 0, .slice none 0 0, .slice none 0 0, .slice none 0 0], .bool false]) (by simp [results, Try.results11, go_sem, r60.cell]) rfl ?_
    exact pansb_zero (prsP_no EB.out) EB.out hB59
  rcases hy : splB y 44 6 with _ | _
  · skip
    have EB := hid (raw_few e e2 (.inr (.inl hy)))
    have Bx := hid hx
    have By := hid hy
    clear hx hy e e2
    have hB61 := Below.refl w.heap.size w
    have hB62 := hB61.alloc hB61.size (.cells #[.int .i64 0, .slice none 0 0, .slice none 0 0, .slice none 0 0] 26)
    clear hB61
    have r63 : At (w.alloc (.cells #[.int .i64 0, .slice none 0 0, .slice none 0 0, .slice none 0 0] 26)) (w.heap.size) 26 #[.int .i64 0, .slice none 0 0, .slice none 0 0, .slice none 0 0] := At.newAt _ _ (by first | rfl | (simp; done) | (simp; omega))
    go_enter Try.func11, Try.ntmps11
    obtain ⟨q0, q1, q2, q3, ql, qf⟩ := (⟨r63.cell 0, r63.cell 1, r63.cell 2, r63.cell 3, r63.lt, r63.frozen⟩ : _ ∧ _ ∧ _ ∧ _ ∧ _ ∧ _)
    go_wp2_with fail
    with_reducible refine (splitText_z S 32 32 2 2 _ rfl rfl hS (by decide)).mono ?_
    rintro e w1 ⟨v, rfl, ho, hb1⟩
    rw [HT.out] at ho
    obtain ⟨A1, c1, rfl, _, _, _⟩ := OwnS.form ho
    rw [show ([a, b] : List (List UInt8)).length = 2 from rfl]
    have sz1 : w.heap.size + 1 ≤ w1.heap.size := Nat.le_trans (by first | exact Nat.le_refl _ | (simp; done) | (simp; omega)) (hb1.size)
    have hB64 := hB62.trans (hb1.mono hB62.size)
    have r65 := r63.below hb1 r63.lt
    clear hB62 r63
    clear q0 q1 q2 q3 ql qf
    have u66 := ho
    clear ho
    obtain ⟨ku, ou, rfl, _, _⟩ := u66.sees.word (k := 0) (by simp)
    obtain ⟨_, _, e9, lu1, u1⟩ := u66.sees.word (k := 1) (by simp)
    injection e9 with e9
    injection e9 with e8 e9
    subst e8 e9
    rw [show ([a, b] : List (List UInt8))[1] = b from rfl] at u1
    have c0 := fun w => splitText_z b 124 124 3 3 w rfl rfl lb (by decide)
    unfold tx at c0
    have C0 := hid c0
    clear c0
    obtain ⟨q0, q1, q2, q3, ql, qf⟩ := (⟨r65.cell 0, r65.cell 1, r65.cell 2, r65.cell 3, r65.lt, r65.frozen⟩ : _ ∧ _ ∧ _ ∧ _ ∧ _ ∧ _)
    go_wp2_with fail
    with_reducible refine (C0.out _).mono ?_
    rintro e w2 ⟨v, rfl, ho, hb2⟩
    rw [HT3.out] at ho
    obtain ⟨A2, c2, rfl, _, _, _⟩ := OwnS.form ho
    rw [show ([x, y, z] : List (List UInt8)).length = 3 from rfl]
    have sz2 : w1.heap.size ≤ w2.heap.size := Nat.le_trans (by first | exact Nat.le_refl _ | (simp; done) | (simp; omega)) (hb2.size)
    have hB67 := hB64.trans (hb2.mono hB64.size)
    have r68 := r65.below hb2 r65.lt
    have u69 := u66.below hb2
    clear hB64 r65 u66
    clear q0 q1 q2 q3 ql qf
    clear u1 lu1 C0
    have v70 := ho
    clear ho
    obtain ⟨kv, ov, rfl, _, _⟩ := v70.sees.word (k := 0) (by simp)
    obtain ⟨_, _, e9, lv0, v0⟩ := v70.sees.word (k := 0) (by simp)
    injection e9 with e9
    injection e9 with e8 e9
    subst e8 e9
    rw [Nat.add_zero] at v0
    rw [show ([x, y, z] : List (List UInt8))[0] = x from rfl] at v0
    have c0 := fun w => parseNumbers_any x 6 6 w rfl lx (by decide)
    unfold tx at c0
    have C0 := hid c0
    clear c0
    obtain ⟨q0, q1, q2, q3, ql, qf⟩ := (⟨r68.cell 0, r68.cell 1, r68.cell 2, r68.cell 3, r68.lt, r68.frozen⟩ : _ ∧ _ ∧ _ ∧ _ ∧ _ ∧ _)
    go_wp2_with fail
    with_reducible refine (C0.out _).mono ?_
    rintro e w3 ⟨v, rfl, ho, hb3⟩
    rw [Bx.out]
    have sz3 : w2.heap.size ≤ w3.heap.size := Nat.le_trans (by first | exact Nat.le_refl _ | (simp; done) | (simp; omega)) (hb3.size)
    have hB71 := hB67.trans (hb3.mono hB67.size)
    have r72 := r68.below hb3 r68.lt
    have u73 := u69.below hb3
    have v74 := v70.below hb3
    clear hB67 r68 u69 v70
    clear q0 q1 q2 q3 ql qf
    clear v0 lv0 C0
    obtain ⟨Ax9, cx9, rfl, _⟩ := ho.form
    clear ho
    obtain ⟨_, _, e9, lv1, v1⟩ := v74.sees.word (k := 1) (by simp)
    injection e9 with e9
    injection e9 with e8 e9
    subst e8 e9
    rw [show ([x, y, z] : List (List UInt8))[1] = y from rfl] at v1
    have c0 := fun w => iparseHolds_any y w ly
    unfold tx at c0
    have C0 := hid c0
    clear c0
    obtain ⟨q0, q1, q2, q3, ql, qf⟩ := (⟨r72.cell 0, r72.cell 1, r72.cell 2, r72.cell 3, r72.lt, r72.frozen⟩ : _ ∧ _ ∧ _ ∧ _ ∧ _ ∧ _)
    go_wp2_with fail
    with_reducible refine (C0.out _).mono ?_
    rintro e w4 ⟨v, rfl, ho, hb4⟩
    rw [By.out]
    have sz4 : w3.heap.size ≤ w4.heap.size := Nat.le_trans (by first | exact Nat.le_refl _ | (simp; done) | (simp; omega)) (hb4.size)
    have hB75 := hB71.trans (hb4.mono hB71.size)
    have r76 := r72.below hb4 r72.lt
    have u77 := u73.below hb4
    have v78 := v74.below hb4
    clear hB71 r72 u73 v74
    clear q0 q1 q2 q3 ql qf
    clear v1 lv1 C0
    obtain ⟨Ay9, cy9, rfl, _⟩ := ho.form
    clear ho
    obtain ⟨_, _, e9, lv2, v2⟩ := v78.sees.word (k := 2) (by simp)
    injection e9 with e9
    injection e9 with e8 e9
    subst e8 e9
    rw [show ([x, y, z] : List (List UInt8))[2] = z from rfl] at v2
    have c0 := fun w => parseNumbers_any z 12 12 w rfl lz (by decide)
    unfold tx at c0
    have C0 := hid c0
    clear c0
    obtain ⟨q0, q1, q2, q3, ql, qf⟩ := (⟨r76.cell 0, r76.cell 1, r76.cell 2, r76.cell 3, r76.lt, r76.frozen⟩ : _ ∧ _ ∧ _ ∧ _ ∧ _ ∧ _)
    go_wp2_with fail
    with_reducible refine (C0.out _).mono ?_
    rintro e w5 ⟨v, rfl, ho, hb5⟩
    skip
    have sz5 : w4.heap.size ≤ w5.heap.size := Nat.le_trans (by first | exact Nat.le_refl _ | (simp; done) | (simp; omega)) (hb5.size)
    have hB79 := hB75.trans (hb5.mono hB75.size)
    have r80 := r76.below hb5 r76.lt
    have u81 := u77.below hb5
    have v82 := v78.below hb5
    clear hB75 r76 u77 v78
    clear q0 q1 q2 q3 ql qf
    clear v2 lv2 C0
    obtain ⟨Az9, cz9, rfl, _⟩ := ho.form
    clear ho
    clear u81
    clear v82
    obtain ⟨q0, q1, q2, q3, ql, qf⟩ := (⟨r80.cell 0, r80.cell 1, r80.cell 2, r80.cell 3, r80.lt, r80.frozen⟩ : _ ∧ _ ∧ _ ∧ _ ∧ _ ∧ _)
    have hB83 := below_put hB79 (grown_set w5 (w.heap.size) 0 (.int .i64 0)) (by omega) (by have := hB79.size; omega)
    have r84 : At (w5.setCell ⟨w.heap.size, 0, none⟩ (.int .i64 0)) (w.heap.size) 26 #[.int .i64 0, .slice none 0 0, .slice none 0 0, .slice none 0 0] := by simpa using r80.set 0 (.int .i64 0)
    clear hB79 r80
    have hB85 := below_put hB83 (grown_set (w5.setCell ⟨w.heap.size, 0, none⟩ (.int .i64 0)) (w.heap.size) 1 (.slice none 0 0)) (by omega) (by have := hB83.size; omega)
    have r86 : At ((w5.setCell ⟨w.heap.size, 0, none⟩ (.int .i64 0)).setCell ⟨w.heap.size, 1, none⟩ (.slice none 0 0)) (w.heap.size) 26 #[.int .i64 0, .slice none 0 0, .slice none 0 0, .slice none 0 0] := by simpa using r84.set 1 (.slice none 0 0)
    clear hB83 r84
    have hB87 := below_put hB85 (grown_set ((w5.setCell ⟨w.heap.size, 0, none⟩ (.int .i64 0)).setCell ⟨w.heap.size, 1, none⟩ (.slice none 0 0)) (w.heap.size) 2 (.slice none 0 0)) (by omega) (by have := hB85.size; omega)
    have r88 : At (((w5.setCell ⟨w.heap.size, 0, none⟩ (.int .i64 0)).setCell ⟨w.heap.size, 1, none⟩ (.slice none 0 0)).setCell ⟨w.heap.size, 2, none⟩ (.slice none 0 0)) (w.heap.size) 26 #[.int .i64 0, .slice none 0 0, .slice none 0 0, .slice none 0 0] := by simpa using r86.set 2 (.slice none 0 0)
    clear hB85 r86
    have hB89 := below_put hB87 (grown_set (((w5.setCell ⟨w.heap.size, 0, none⟩ (.int .i64 0)).setCell ⟨w.heap.size, 1, none⟩ (.slice none 0 0)).setCell ⟨w.heap.size, 2, none⟩ (.slice none 0 0)) (w.heap.size) 3 (.slice none 0 0)) (by omega) (by have := hB87.size; omega)
    have r90 : At ((((w5.setCell ⟨w.heap.size, 0, none⟩ (.int .i64 0)).setCell ⟨w.heap.size, 1, none⟩ (.slice none 0 0)).setCell ⟨w.heap.size, 2, none⟩ (.slice none 0 0)).setCell ⟨w.heap.size, 3, none⟩ (.slice none 0 0)) (w.heap.size) 26 #[.int .i64 0, .slice none 0 0, .slice none 0 0, .slice none 0 0] := by simpa using r88.set 3 (.slice none 0 0)
    clear hB87 r88
    go_wp2
    refine bodyPost_ret (v := .tuple #[.agg #[.int .i64 0, .slice none 0 0, .slice none 0 0, .slice none 0 0], .bool false]) (by simp [results, Try.results11, go_sem, r90.cell]) rfl ?_
    exact pansb_zero (prsP_no EB.out) EB.out hB89
  rcases hz : splB z 44 12 with _ | _
  · skip
    have EB := hid (raw_few e e2 (.inr (.inr hz)))
    have Bx := hid hx
    have By := hid hy
    have Bz := hid hz
    clear hx hy hz e e2
    have hB91 := Below.refl w.heap.size w
    have hB92 := hB91.alloc hB91.size (.cells #[.int .i64 0, .slice none 0 0, .slice none 0 0, .slice none 0 0] 26)
    clear hB91
    have r93 : At (w.alloc (.cells #[.int .i64 0, .slice none 0 0, .slice none 0 0, .slice none 0 0] 26)) (w.heap.size) 26 #[.int .i64 0, .slice none 0 0, .slice none 0 0, .slice none 0 0] := At.newAt _ _ (by first | rfl | (simp; done) | (simp; omega))
    go_enter Try.func11, Try.ntmps11
    obtain ⟨q0, q1, q2, q3, ql, qf⟩ := (⟨r93.cell 0, r93.cell 1, r93.cell 2, r93.cell 3, r93.lt, r93.frozen⟩ : _ ∧ _ ∧ _ ∧ _ ∧ _ ∧ _)
    go_wp2_with fail
    with_reducible refine (splitText_z S 32 32 2 2 _ rfl rfl hS (by decide)).mono ?_
    rintro e w1 ⟨v, rfl, ho, hb1⟩
    rw [HT.out] at ho
    obtain ⟨A1, c1, rfl, _, _, _⟩ := OwnS.form ho
    rw [show ([a, b] : List (List UInt8)).length = 2 from rfl]
    have sz1 : w.heap.size + 1 ≤ w1.heap.size := Nat.le_trans (by first | exact Nat.le_refl _ | (simp; done) | (simp; omega)) (hb1.size)
    have hB94 := hB92.trans (hb1.mono hB92.size)
    have r95 := r93.below hb1 r93.lt
    clear hB92 r93
    clear q0 q1 q2 q3 ql qf
    have u96 := ho
    clear ho
    obtain ⟨ku, ou, rfl, _, _⟩ := u96.sees.word (k := 0) (by simp)
    obtain ⟨_, _, e9, lu1, u1⟩ := u96.sees.word (k := 1) (by simp)
    injection e9 with e9
    injection e9 with e8 e9
    subst e8 e9
    rw [show ([a, b] : List (List UInt8))[1] = b from rfl] at u1
    have c0 := fun w => splitText_z b 124 124 3 3 w rfl rfl lb (by decide)
    unfold tx at c0
    have C0 := hid c0
    clear c0
    obtain ⟨q0, q1, q2, q3, ql, qf⟩ := (⟨r95.cell 0, r95.cell 1, r95.cell 2, r95.cell 3, r95.lt, r95.frozen⟩ : _ ∧ _ ∧ _ ∧ _ ∧ _ ∧ _)
    go_wp2_with fail
    with_reducible refine (C0.out _).mono ?_
    rintro e w2 ⟨v, rfl, ho, hb2⟩
    rw [HT3.out] at ho
    obtain ⟨A2, c2, rfl, _, _, _⟩ := OwnS.form ho
    rw [show ([x, y, z] : List (List UInt8)).length = 3 from rfl]
    have sz2 : w1.heap.size ≤ w2.heap.size := Nat.le_trans (by first | exact Nat.le_refl _ | (simp; done) | (simp; omega)) (hb2.size)
    have hB97 := hB94.trans (hb2.mono hB94.size)
    have r98 := r95.below hb2 r95.lt
    have u99 := u96.below hb2
    clear hB94 r95 u96
    clear q0 q1 q2 q3 ql qf
    clear u1 lu1 C0
    have v100 := ho
    clear ho
    obtain ⟨kv, ov, rfl, _, _⟩ := v100.sees.word (k := 0) (by simp)
    obtain ⟨_, _, e9, lv0, v0⟩ := v100.sees.word (k := 0) (by simp)
    injection e9 with e9
    injection e9 with e8 e9
    subst e8 e9
    rw [Nat.add_zero] at v0
    rw [show ([x, y, z] : List (List UInt8))[0] = x from rfl] at v0
    have c0 := fun w => parseNumbers_any x 6 6 w rfl lx (by decide)
    unfold tx at c0
    have C0 := hid c0
    clear c0
    obtain ⟨q0, q1, q2, q3, ql, qf⟩ := (⟨r98.cell 0, r98.cell 1, r98.cell 2, r98.cell 3, r98.lt, r98.frozen⟩ : _ ∧ _ ∧ _ ∧ _ ∧ _ ∧ _)
    go_wp2_with fail
    with_reducible refine (C0.out _).mono ?_
    rintro e w3 ⟨v, rfl, ho, hb3⟩
    rw [Bx.out]
    have sz3 : w2.heap.size ≤ w3.heap.size := Nat.le_trans (by first | exact Nat.le_refl _ | (simp; done) | (simp; omega)) (hb3.size)
    have hB101 := hB97.trans (hb3.mono hB97.size)
    have r102 := r98.below hb3 r98.lt
    have u103 := u99.below hb3
    have v104 := v100.below hb3
    clear hB97 r98 u99 v100
    clear q0 q1 q2 q3 ql qf
    clear v0 lv0 C0
    obtain ⟨Ax9, cx9, rfl, _⟩ := ho.form
    clear ho
    obtain ⟨_, _, e9, lv1, v1⟩ := v104.sees.word (k := 1) (by simp)
    injection e9 with e9
    injection e9 with e8 e9
    subst e8 e9
    rw [show ([x, y, z] : List (List UInt8))[1] = y from rfl] at v1
    have c0 := fun w => iparseHolds_any y w ly
    unfold tx at c0
    have C0 := hid c0
    clear c0
    obtain ⟨q0, q1, q2, q3, ql, qf⟩ := (⟨r102.cell 0, r102.cell 1, r102.cell 2, r102.cell 3, r102.lt, r102.frozen⟩ : _ ∧ _ ∧ _ ∧ _ ∧ _ ∧ _)
    go_wp2_with fail
    with_reducible refine (C0.out _).mono ?_
    rintro e w4 ⟨v, rfl, ho, hb4⟩
    rw [By.out]
    have sz4 : w3.heap.size ≤ w4.heap.size := Nat.le_trans (by first | exact Nat.le_refl _ | (simp; done) | (simp; omega)) (hb4.size)
    have hB105 := hB101.trans (hb4.mono hB101.size)
    have r106 := r102.below hb4 r102.lt
    have u107 := u103.below hb4
    have v108 := v104.below hb4
    clear hB101 r102 u103 v104
    clear q0 q1 q2 q3 ql qf
    clear v1 lv1 C0
    obtain ⟨Ay9, cy9, rfl, _⟩ := ho.form
    clear ho
    obtain ⟨_, _, e9, lv2, v2⟩ := v108.sees.word (k := 2) (by simp)
    injection e9 with e9
    injection e9 with e8 e9
    subst e8 e9
    rw [show ([x, y, z] : List (List UInt8))[2] = z from rfl] at v2
    have c0 := fun w => parseNumbers_any z 12 12 w rfl lz (by decide)
    unfold tx at c0
    have C0 := hid c0
    clear c0
    obtain ⟨q0, q1, q2, q3, ql, qf⟩ := (⟨r106.cell 0, r106.cell 1, r106.cell 2, r106.cell 3, r106.lt, r106.frozen⟩ : _ ∧ _ ∧ _ ∧ _ ∧ _ ∧ _)
    go_wp2_with fail
    with_reducible refine (C0.out _).mono ?_
    rintro e w5 ⟨v, rfl, ho, hb5⟩
    rw [Bz.out]
    have sz5 : w4.heap.size ≤ w5.heap.size := Nat.le_trans (by first | exact Nat.le_refl _ | (simp; done) | (simp; omega)) (hb5.size)
    have hB109 := hB105.trans (hb5.mono hB105.size)
    have r110 := r106.below hb5 r106.lt
    have u111 := u107.below hb5
    have v112 := v108.below hb5
    clear hB105 r106 u107 v108
    clear q0 q1 q2 q3 ql qf
    clear v2 lv2 C0
    obtain ⟨Az9, cz9, rfl, _⟩ := ho.form
    clear ho
    clear u111
    clear v112
    obtain ⟨q0, q1, q2, q3, ql, qf⟩ := (⟨r110.cell 0, r110.cell 1, r110.cell 2, r110.cell 3, r110.lt, r110.frozen⟩ : _ ∧ _ ∧ _ ∧ _ ∧ _ ∧ _)
    have hB113 := below_put hB109 (grown_set w5 (w.heap.size) 0 (.int .i64 0)) (by omega) (by have := hB109.size; omega)
    have r114 : At (w5.setCell ⟨w.heap.size, 0, none⟩ (.int .i64 0)) (w.heap.size) 26 #[.int .i64 0, .slice none 0 0, .slice none 0 0, .slice none 0 0] := by simpa using r110.set 0 (.int .i64 0)
    clear hB109 r110
    have hB115 := below_put hB113 (grown_set (w5.setCell ⟨w.heap.size, 0, none⟩ (.int .i64 0)) (w.heap.size) 1 (.slice none 0 0)) (by omega) (by have := hB113.size; omega)
    have r116 : At ((w5.setCell ⟨w.heap.size, 0, none⟩ (.int .i64 0)).setCell ⟨w.heap.size, 1, none⟩ (.slice none 0 0)) (w.heap.size) 26 #[.int .i64 0, .slice none 0 0, .slice none 0 0, .slice none 0 0] := by simpa using r114.set 1 (.slice none 0 0)
    clear hB113 r114
    have hB117 := below_put hB115 (grown_set ((w5.setCell ⟨w.heap.size, 0, none⟩ (.int .i64 0)).setCell ⟨w.heap.size, 1, none⟩ (.slice none 0 0)) (w.heap.size) 2 (.slice none 0 0)) (by omega) (by have := hB115.size; omega)
    have r118 : At (((w5.setCell ⟨w.heap.size, 0, none⟩ (.int .i64 0)).setCell ⟨w.heap.size, 1, none⟩ (.slice none 0 0)).setCell ⟨w.heap.size, 2, none⟩ (.slice none 0 0)) (w.heap.size) 26 #[.int .i64 0, .slice none 0 0, .slice none 0 0, .slice none 0 0] := by simpa using r116.set 2 (.slice none 0 0)
    clear hB115 r116
    have hB119 := below_put hB117 (grown_set (((w5.setCell ⟨w.heap.size, 0, none⟩ (.int .i64 0)).setCell ⟨w.heap.size, 1, none⟩ (.slice none 0 0)).setCell ⟨w.heap.size, 2, none⟩ (.slice none 0 0)) (w.heap.size) 3 (.slice none 0 0)) (by omega) (by have := hB117.size; omega)
    have r120 : At ((((w5.setCell ⟨w.heap.size, 0, none⟩ (.int .i64 0)).setCell ⟨w.heap.size, 1, none⟩ (.slice none 0 0)).setCell ⟨w.heap.size, 2, none⟩ (.slice none 0 0)).setCell ⟨w.heap.size, 3, none⟩ (.slice none 0 0)) (w.heap.size) 26 #[.int .i64 0, .slice none 0 0, .slice none 0 0, .slice none 0 0] := by simpa using r118.set 3 (.slice none 0 0)
    clear hB117 r118
    go_wp2
    refine bodyPost_ret (v := .tuple #[.agg #[.int .i64 0, .slice none 0 0, .slice none 0 0, .slice none 0 0], .bool false]) (by simp [results, Try.results11, go_sem, r120.cell]) rfl ?_
    exact pansb_zero (prsP_no EB.out) EB.out hB119
  have hraw := raw_yes e e2
  have EK := hid (prsB_of hraw)
  have HYP := hid (fun hk => prsP_of hraw hk)
  have L1 := hid (numL_few hx)
  have L2 := hid (holL_few hy)
  have L3 := hid (numL_few hz)
  have Fx := hid (num_few hx)
  have Fy := hid (hol_few hy)
  have Fz := hid (num_few hz)
  have Bx := hid hx
  have By := hid hy
  have Bz := hid hz
  clear hx hy hz e e2 hraw
  obtain ⟨I, hI⟩ : ∃ I, I = numL x := ⟨_, rfl⟩
  simp only [← hI] at Fx EK HYP L1 L2 L3
  clear hI
  obtain ⟨H, hH⟩ : ∃ H, H = holL y := ⟨_, rfl⟩
  simp only [← hH] at Fy EK HYP L1 L2 L3
  clear hH
  obtain ⟨U, hU⟩ : ∃ U, U = numL z := ⟨_, rfl⟩
  simp only [← hU] at Fz EK HYP L1 L2 L3
  clear hU
  obtain ⟨m, hm⟩ : ∃ m, m = num a := ⟨_, rfl⟩
  have HM := hid hm.symm
  simp only [← hm] at EK HYP
  clear hm
  rcases hk : okB ⟨m, I, H, U⟩ with _ | _
  · skip
    have EB := hid (EK.out.trans hk)
    have HK := hid hk
    clear hk
    have hB121 := Below.refl w.heap.size w
    have hB122 := hB121.alloc hB121.size (.cells #[.int .i64 0, .slice none 0 0, .slice none 0 0, .slice none 0 0] 26)
    clear hB121
    have r123 : At (w.alloc (.cells #[.int .i64 0, .slice none 0 0, .slice none 0 0, .slice none 0 0] 26)) (w.heap.size) 26 #[.int .i64 0, .slice none 0 0, .slice none 0 0, .slice none 0 0] := At.newAt _ _ (by first | rfl | (simp; done) | (simp; omega))
    go_enter Try.func11, Try.ntmps11
    obtain ⟨q0, q1, q2, q3, ql, qf⟩ := (⟨r123.cell 0, r123.cell 1, r123.cell 2, r123.cell 3, r123.lt, r123.frozen⟩ : _ ∧ _ ∧ _ ∧ _ ∧ _ ∧ _)
    go_wp2_with fail
    with_reducible refine (splitText_z S 32 32 2 2 _ rfl rfl hS (by decide)).mono ?_
    rintro e w1 ⟨v, rfl, ho, hb1⟩
    rw [HT.out] at ho
    obtain ⟨A1, c1, rfl, _, _, _⟩ := OwnS.form ho
    rw [show ([a, b] : List (List UInt8)).length = 2 from rfl]
    have sz1 : w.heap.size + 1 ≤ w1.heap.size := Nat.le_trans (by first | exact Nat.le_refl _ | (simp; done) | (simp; omega)) (hb1.size)
    have hB124 := hB122.trans (hb1.mono hB122.size)
    have r125 := r123.below hb1 r123.lt
    clear hB122 r123
    clear q0 q1 q2 q3 ql qf
    have u126 := ho
    clear ho
    obtain ⟨ku, ou, rfl, _, _⟩ := u126.sees.word (k := 0) (by simp)
    obtain ⟨_, _, e9, lu1, u1⟩ := u126.sees.word (k := 1) (by simp)
    injection e9 with e9
    injection e9 with e8 e9
    subst e8 e9
    rw [show ([a, b] : List (List UInt8))[1] = b from rfl] at u1
    have c0 := fun w => splitText_z b 124 124 3 3 w rfl rfl lb (by decide)
    unfold tx at c0
    have C0 := hid c0
    clear c0
    obtain ⟨q0, q1, q2, q3, ql, qf⟩ := (⟨r125.cell 0, r125.cell 1, r125.cell 2, r125.cell 3, r125.lt, r125.frozen⟩ : _ ∧ _ ∧ _ ∧ _ ∧ _ ∧ _)
    go_wp2_with fail
    with_reducible refine (C0.out _).mono ?_
    rintro e w2 ⟨v, rfl, ho, hb2⟩
    rw [HT3.out] at ho
    obtain ⟨A2, c2, rfl, _, _, _⟩ := OwnS.form ho
    rw [show ([x, y, z] : List (List UInt8)).length = 3 from rfl]
    have sz2 : w1.heap.size ≤ w2.heap.size := Nat.le_trans (by first | exact Nat.le_refl _ | (simp; done) | (simp; omega)) (hb2.size)
    have hB127 := hB124.trans (hb2.mono hB124.size)
    have r128 := r125.below hb2 r125.lt
    have u129 := u126.below hb2
    clear hB124 r125 u126
    clear q0 q1 q2 q3 ql qf
    clear u1 lu1 C0
    have v130 := ho
    clear ho
    obtain ⟨kv, ov, rfl, _, _⟩ := v130.sees.word (k := 0) (by simp)
    obtain ⟨_, _, e9, lv0, v0⟩ := v130.sees.word (k := 0) (by simp)
    injection e9 with e9
    injection e9 with e8 e9
    subst e8 e9
    rw [Nat.add_zero] at v0
    rw [show ([x, y, z] : List (List UInt8))[0] = x from rfl] at v0
    have c0 := fun w => parseNumbers_any x 6 6 w rfl lx (by decide)
    unfold tx at c0
    have C0 := hid c0
    clear c0
    obtain ⟨q0, q1, q2, q3, ql, qf⟩ := (⟨r128.cell 0, r128.cell 1, r128.cell 2, r128.cell 3, r128.lt, r128.frozen⟩ : _ ∧ _ ∧ _ ∧ _ ∧ _ ∧ _)
    go_wp2_with fail
    with_reducible refine (C0.out _).mono ?_
    rintro e w3 ⟨v, rfl, ho, hb3⟩
    rw [Bx.out]
    have sz3 : w2.heap.size ≤ w3.heap.size := Nat.le_trans (by first | exact Nat.le_refl _ | (simp; done) | (simp; omega)) (hb3.size)
    have hB131 := hB127.trans (hb3.mono hB127.size)
    have r132 := r128.below hb3 r128.lt
    have u133 := u129.below hb3
    have v134 := v130.below hb3
    clear hB127 r128 u129 v130
    clear q0 q1 q2 q3 ql qf
    clear v0 lv0 C0
    rw [Fx.out] at ho
    obtain ⟨Bx, dx, rfl, _⟩ := ho.form
    have i135 := ho
    have lowx := fun q hq => (ho.out.lt q hq).1
    have higx := fun q hq => (ho.out.lt q hq).2
    clear ho
    obtain ⟨_, _, e9, lv1, v1⟩ := v134.sees.word (k := 1) (by simp)
    injection e9 with e9
    injection e9 with e8 e9
    subst e8 e9
    rw [show ([x, y, z] : List (List UInt8))[1] = y from rfl] at v1
    have c0 := fun w => iparseHolds_any y w ly
    unfold tx at c0
    have C0 := hid c0
    clear c0
    obtain ⟨q0, q1, q2, q3, ql, qf⟩ := (⟨r132.cell 0, r132.cell 1, r132.cell 2, r132.cell 3, r132.lt, r132.frozen⟩ : _ ∧ _ ∧ _ ∧ _ ∧ _ ∧ _)
    go_wp2_with fail
    with_reducible refine (C0.out _).mono ?_
    rintro e w4 ⟨v, rfl, ho, hb4⟩
    rw [By.out]
    have sz4 : w3.heap.size ≤ w4.heap.size := Nat.le_trans (by first | exact Nat.le_refl _ | (simp; done) | (simp; omega)) (hb4.size)
    have hB136 := hB131.trans (hb4.mono hB131.size)
    have r137 := r132.below hb4 r132.lt
    have u138 := u133.below hb4
    have v139 := v134.below hb4
    have i140 := i135.below hb4
    clear hB131 r132 u133 v134 i135
    clear q0 q1 q2 q3 ql qf
    clear v1 lv1 C0
    rw [Fy.out] at ho
    obtain ⟨By, dy, rfl, _⟩ := ho.form
    have h141 := ho
    have lowy := fun q hq => (ho.lt q hq).1
    have higy := fun q hq => (ho.lt q hq).2
    clear ho
    obtain ⟨_, _, e9, lv2, v2⟩ := v139.sees.word (k := 2) (by simp)
    injection e9 with e9
    injection e9 with e8 e9
    subst e8 e9
    rw [show ([x, y, z] : List (List UInt8))[2] = z from rfl] at v2
    have c0 := fun w => parseNumbers_any z 12 12 w rfl lz (by decide)
    unfold tx at c0
    have C0 := hid c0
    clear c0
    obtain ⟨q0, q1, q2, q3, ql, qf⟩ := (⟨r137.cell 0, r137.cell 1, r137.cell 2, r137.cell 3, r137.lt, r137.frozen⟩ : _ ∧ _ ∧ _ ∧ _ ∧ _ ∧ _)
    go_wp2_with fail
    with_reducible refine (C0.out _).mono ?_
    rintro e w5 ⟨v, rfl, ho, hb5⟩
    rw [Bz.out]
    have sz5 : w4.heap.size ≤ w5.heap.size := Nat.le_trans (by first | exact Nat.le_refl _ | (simp; done) | (simp; omega)) (hb5.size)
    have hB142 := hB136.trans (hb5.mono hB136.size)
    have r143 := r137.below hb5 r137.lt
    have u144 := u138.below hb5
    have v145 := v139.below hb5
    have i146 := i140.below hb5
    have h147 := h141.below hb5
    clear hB136 r137 u138 v139 i140 h141
    clear q0 q1 q2 q3 ql qf
    clear v2 lv2 C0
    rw [Fz.out] at ho
    obtain ⟨Bz, dz, rfl, _⟩ := ho.form
    have tt148 := ho
    have lowz := fun q hq => (ho.out.lt q hq).1
    have higz := fun q hq => (ho.out.lt q hq).2
    clear ho
    obtain ⟨_, _, e9, lu0, u0⟩ := u144.sees.word (k := 0) (by simp)
    injection e9 with e9
    injection e9 with e8 e9
    subst e8 e9
    rw [Nat.add_zero, show ([a, b] : List (List UInt8))[0] = a from rfl] at u0
    have c0 := fun w => parseNumber_any a w la
    unfold tx at c0
    have C0 := hid c0
    clear c0
    obtain ⟨q0, q1, q2, q3, ql, qf⟩ := (⟨r143.cell 0, r143.cell 1, r143.cell 2, r143.cell 3, r143.lt, r143.frozen⟩ : _ ∧ _ ∧ _ ∧ _ ∧ _ ∧ _)
    go_wp2_with fail
    with_reducible refine (C0.out _).mono ?_
    rintro e w' ⟨he, rfl⟩
    rw [HM.out] at he
    subst he
    clear q0 q1 q2 q3 ql qf
    clear u0 lu0 C0
    clear u144
    clear v145
    have hB149 := hB142.alloc hB142.size (.cells #[.int .i64 m, .slice Bx I.length dx, .slice By H.length dy, .slice Bz U.length dz] 26)
    have r150 := r143.alloc (.cells #[.int .i64 m, .slice Bx I.length dx, .slice By H.length dy, .slice Bz U.length dz] 26)
    have i151 := i146.alloc4 (.cells #[.int .i64 m, .slice Bx I.length dx, .slice By H.length dy, .slice Bz U.length dz] 26)
    have h152 := h147.alloc (.cells #[.int .i64 m, .slice Bx I.length dx, .slice By H.length dy, .slice Bz U.length dz] 26)
    have tt153 := tt148.alloc4 (.cells #[.int .i64 m, .slice Bx I.length dx, .slice By H.length dy, .slice Bz U.length dz] 26)
    clear hB142 r143 i146 h147 tt148
    have t154 : At (w5.alloc (.cells #[.int .i64 m, .slice Bx I.length dx, .slice By H.length dy, .slice Bz U.length dz] 26)) (w5.heap.size) 26 #[.int .i64 m, .slice Bx I.length dx, .slice By H.length dy, .slice Bz U.length dz] := At.newAt _ _ (by first | rfl | (simp; done) | (simp; omega))
    have sees : SeesP (w5.alloc (.cells #[.int .i64 m, .slice Bx I.length dx, .slice By H.length dy, .slice Bz U.length dz] 26)) _ Bx By Bz ⟨m, I, H, U⟩ := ⟨Sees.of_own i151.out, h152.sees, Sees.of_own tt153.out⟩
    obtain ⟨q0, q1, q2, q3, ql, qf⟩ := (⟨r150.cell 0, r150.cell 1, r150.cell 2, r150.cell 3, r150.lt, r150.frozen⟩ : _ ∧ _ ∧ _ ∧ _ ∧ _ ∧ _)
    obtain ⟨t0, t1, t2, t3, tl, tf⟩ := (⟨t154.cell 0, t154.cell 1, t154.cell 2, t154.cell 3, t154.lt, t154.frozen⟩ : _ ∧ _ ∧ _ ∧ _ ∧ _ ∧ _)
    go_wp2_with fail
    with_reducible refine (iValidPool_any ⟨m, I, H, U⟩ Bx By Bz dx dy dz _ sees (Nat.le_trans L1.out (by decide)) (Nat.le_trans L2.out (by decide)) (Nat.le_trans L3.out (by decide))).mono ?_
    rintro e w6 ⟨he, hb6⟩
    rw [HK.out] at he
    subst he
    have sz6 : w5.heap.size + 1 ≤ w6.heap.size := Nat.le_trans (by first | exact Nat.le_refl _ | (simp; done) | (simp; omega)) (hb6.size)
    have hB155 := hB149.trans (hb6.mono hB149.size)
    have r156 := r150.below hb6 r150.lt
    have i157 := i151.below hb6
    have h158 := h152.below hb6
    have tt159 := tt153.below hb6
    have t160 := t154.below hb6 t154.lt
    clear hB149 r150 i151 h152 tt153 t154
    clear q0 q1 q2 q3 ql qf t0 t1 t2 t3 tl tf
    clear sees
    clear i157
    clear h158
    clear tt159
    clear t160
    obtain ⟨q0, q1, q2, q3, ql, qf⟩ := (⟨r156.cell 0, r156.cell 1, r156.cell 2, r156.cell 3, r156.lt, r156.frozen⟩ : _ ∧ _ ∧ _ ∧ _ ∧ _ ∧ _)
    have hB161 := below_put hB155 (grown_set w6 (w.heap.size) 0 (.int .i64 0)) (by omega) (by have := hB155.size; omega)
    have r162 : At (w6.setCell ⟨w.heap.size, 0, none⟩ (.int .i64 0)) (w.heap.size) 26 #[.int .i64 0, .slice none 0 0, .slice none 0 0, .slice none 0 0] := by simpa using r156.set 0 (.int .i64 0)
    clear hB155 r156
    have hB163 := below_put hB161 (grown_set (w6.setCell ⟨w.heap.size, 0, none⟩ (.int .i64 0)) (w.heap.size) 1 (.slice none 0 0)) (by omega) (by have := hB161.size; omega)
    have r164 : At ((w6.setCell ⟨w.heap.size, 0, none⟩ (.int .i64 0)).setCell ⟨w.heap.size, 1, none⟩ (.slice none 0 0)) (w.heap.size) 26 #[.int .i64 0, .slice none 0 0, .slice none 0 0, .slice none 0 0] := by simpa using r162.set 1 (.slice none 0 0)
    clear hB161 r162
    have hB165 := below_put hB163 (grown_set ((w6.setCell ⟨w.heap.size, 0, none⟩ (.int .i64 0)).setCell ⟨w.heap.size, 1, none⟩ (.slice none 0 0)) (w.heap.size) 2 (.slice none 0 0)) (by omega) (by have := hB163.size; omega)
    have r166 : At (((w6.setCell ⟨w.heap.size, 0, none⟩ (.int .i64 0)).setCell ⟨w.heap.size, 1, none⟩ (.slice none 0 0)).setCell ⟨w.heap.size, 2, none⟩ (.slice none 0 0)) (w.heap.size) 26 #[.int .i64 0, .slice none 0 0, .slice none 0 0, .slice none 0 0] := by simpa using r164.set 2 (.slice none 0 0)
    clear hB163 r164
    have hB167 := below_put hB165 (grown_set (((w6.setCell ⟨w.heap.size, 0, none⟩ (.int .i64 0)).setCell ⟨w.heap.size, 1, none⟩ (.slice none 0 0)).setCell ⟨w.heap.size, 2, none⟩ (.slice none 0 0)) (w.heap.size) 3 (.slice none 0 0)) (by omega) (by have := hB165.size; omega)
    have r168 : At ((((w6.setCell ⟨w.heap.size, 0, none⟩ (.int .i64 0)).setCell ⟨w.heap.size, 1, none⟩ (.slice none 0 0)).setCell ⟨w.heap.size, 2, none⟩ (.slice none 0 0)).setCell ⟨w.heap.size, 3, none⟩ (.slice none 0 0)) (w.heap.size) 26 #[.int .i64 0, .slice none 0 0, .slice none 0 0, .slice none 0 0] := by simpa using r166.set 3 (.slice none 0 0)
    clear hB165 r166
    go_wp2
    refine bodyPost_ret (v := .tuple #[.agg #[.int .i64 0, .slice none 0 0, .slice none 0 0, .slice none 0 0], .bool false]) (by simp [results, Try.results11, go_sem, r168.cell]) rfl ?_
    exact pansb_zero (prsP_no EB.out) EB.out hB167
  · skip
    have EB := hid (EK.out.trans hk)
    have EP := hid (HYP.out hk)
    have HK := hid hk
    clear hk
    have hB169 := Below.refl w.heap.size w
    have hB170 := hB169.alloc hB169.size (.cells #[.int .i64 0, .slice none 0 0, .slice none 0 0, .slice none 0 0] 26)
    clear hB169
    have r171 : At (w.alloc (.cells #[.int .i64 0, .slice none 0 0, .slice none 0 0, .slice none 0 0] 26)) (w.heap.size) 26 #[.int .i64 0, .slice none 0 0, .slice none 0 0, .slice none 0 0] := At.newAt _ _ (by first | rfl | (simp; done) | (simp; omega))
    go_enter Try.func11, Try.ntmps11
    obtain ⟨q0, q1, q2, q3, ql, qf⟩ := (⟨r171.cell 0, r171.cell 1, r171.cell 2, r171.cell 3, r171.lt, r171.frozen⟩ : _ ∧ _ ∧ _ ∧ _ ∧ _ ∧ _)
    go_wp2_with fail
    with_reducible refine (splitText_z S 32 32 2 2 _ rfl rfl hS (by decide)).mono ?_
    rintro e w1 ⟨v, rfl, ho, hb1⟩
    rw [HT.out] at ho
    obtain ⟨A1, c1, rfl, _, _, _⟩ := OwnS.form ho
    rw [show ([a, b] : List (List UInt8)).length = 2 from rfl]
    have sz1 : w.heap.size + 1 ≤ w1.heap.size := Nat.le_trans (by first | exact Nat.le_refl _ | (simp; done) | (simp; omega)) (hb1.size)
    have hB172 := hB170.trans (hb1.mono hB170.size)
    have r173 := r171.below hb1 r171.lt
    clear hB170 r171
    clear q0 q1 q2 q3 ql qf
    have u174 := ho
    clear ho
    obtain ⟨ku, ou, rfl, _, _⟩ := u174.sees.word (k := 0) (by simp)
    obtain ⟨_, _, e9, lu1, u1⟩ := u174.sees.word (k := 1) (by simp)
    injection e9 with e9
    injection e9 with e8 e9
    subst e8 e9
    rw [show ([a, b] : List (List UInt8))[1] = b from rfl] at u1
    have c0 := fun w => splitText_z b 124 124 3 3 w rfl rfl lb (by decide)
    unfold tx at c0
    have C0 := hid c0
    clear c0
    obtain ⟨q0, q1, q2, q3, ql, qf⟩ := (⟨r173.cell 0, r173.cell 1, r173.cell 2, r173.cell 3, r173.lt, r173.frozen⟩ : _ ∧ _ ∧ _ ∧ _ ∧ _ ∧ _)
    go_wp2_with fail
    with_reducible refine (C0.out _).mono ?_
    rintro e w2 ⟨v, rfl, ho, hb2⟩
    rw [HT3.out] at ho
    obtain ⟨A2, c2, rfl, _, _, _⟩ := OwnS.form ho
    rw [show ([x, y, z] : List (List UInt8)).length = 3 from rfl]
    have sz2 : w1.heap.size ≤ w2.heap.size := Nat.le_trans (by first | exact Nat.le_refl _ | (simp; done) | (simp; omega)) (hb2.size)
    have hB175 := hB172.trans (hb2.mono hB172.size)
    have r176 := r173.below hb2 r173.lt
    have u177 := u174.below hb2
    clear hB172 r173 u174
    clear q0 q1 q2 q3 ql qf
    clear u1 lu1 C0
    have v178 := ho
    clear ho
    obtain ⟨kv, ov, rfl, _, _⟩ := v178.sees.word (k := 0) (by simp)
    obtain ⟨_, _, e9, lv0, v0⟩ := v178.sees.word (k := 0) (by simp)
    injection e9 with e9
    injection e9 with e8 e9
    subst e8 e9
    rw [Nat.add_zero] at v0
    rw [show ([x, y, z] : List (List UInt8))[0] = x from rfl] at v0
    have c0 := fun w => parseNumbers_any x 6 6 w rfl lx (by decide)
    unfold tx at c0
    have C0 := hid c0
    clear c0
    obtain ⟨q0, q1, q2, q3, ql, qf⟩ := (⟨r176.cell 0, r176.cell 1, r176.cell 2, r176.cell 3, r176.lt, r176.frozen⟩ : _ ∧ _ ∧ _ ∧ _ ∧ _ ∧ _)
    go_wp2_with fail
    with_reducible refine (C0.out _).mono ?_
    rintro e w3 ⟨v, rfl, ho, hb3⟩
    rw [Bx.out]
    have sz3 : w2.heap.size ≤ w3.heap.size := Nat.le_trans (by first | exact Nat.le_refl _ | (simp; done) | (simp; omega)) (hb3.size)
    have hB179 := hB175.trans (hb3.mono hB175.size)
    have r180 := r176.below hb3 r176.lt
    have u181 := u177.below hb3
    have v182 := v178.below hb3
    clear hB175 r176 u177 v178
    clear q0 q1 q2 q3 ql qf
    clear v0 lv0 C0
    rw [Fx.out] at ho
    obtain ⟨Bx, dx, rfl, _⟩ := ho.form
    have i183 := ho
    have lowx := fun q hq => (ho.out.lt q hq).1
    have higx := fun q hq => (ho.out.lt q hq).2
    clear ho
    obtain ⟨_, _, e9, lv1, v1⟩ := v182.sees.word (k := 1) (by simp)
    injection e9 with e9
    injection e9 with e8 e9
    subst e8 e9
    rw [show ([x, y, z] : List (List UInt8))[1] = y from rfl] at v1
    have c0 := fun w => iparseHolds_any y w ly
    unfold tx at c0
    have C0 := hid c0
    clear c0
    obtain ⟨q0, q1, q2, q3, ql, qf⟩ := (⟨r180.cell 0, r180.cell 1, r180.cell 2, r180.cell 3, r180.lt, r180.frozen⟩ : _ ∧ _ ∧ _ ∧ _ ∧ _ ∧ _)
    go_wp2_with fail
    with_reducible refine (C0.out _).mono ?_
    rintro e w4 ⟨v, rfl, ho, hb4⟩
    rw [By.out]
    have sz4 : w3.heap.size ≤ w4.heap.size := Nat.le_trans (by first | exact Nat.le_refl _ | (simp; done) | (simp; omega)) (hb4.size)
    have hB184 := hB179.trans (hb4.mono hB179.size)
    have r185 := r180.below hb4 r180.lt
    have u186 := u181.below hb4
    have v187 := v182.below hb4
    have i188 := i183.below hb4
    clear hB179 r180 u181 v182 i183
    clear q0 q1 q2 q3 ql qf
    clear v1 lv1 C0
    rw [Fy.out] at ho
    obtain ⟨By, dy, rfl, _⟩ := ho.form
    have h189 := ho
    have lowy := fun q hq => (ho.lt q hq).1
    have higy := fun q hq => (ho.lt q hq).2
    clear ho
    obtain ⟨_, _, e9, lv2, v2⟩ := v187.sees.word (k := 2) (by simp)
    injection e9 with e9
    injection e9 with e8 e9
    subst e8 e9
    rw [show ([x, y, z] : List (List UInt8))[2] = z from rfl] at v2
    have c0 := fun w => parseNumbers_any z 12 12 w rfl lz (by decide)
    unfold tx at c0
    have C0 := hid c0
    clear c0
    obtain ⟨q0, q1, q2, q3, ql, qf⟩ := (⟨r185.cell 0, r185.cell 1, r185.cell 2, r185.cell 3, r185.lt, r185.frozen⟩ : _ ∧ _ ∧ _ ∧ _ ∧ _ ∧ _)
    go_wp2_with fail
    with_reducible refine (C0.out _).mono ?_
    rintro e w5 ⟨v, rfl, ho, hb5⟩
    rw [Bz.out]
    have sz5 : w4.heap.size ≤ w5.heap.size := Nat.le_trans (by first | exact Nat.le_refl _ | (simp; done) | (simp; omega)) (hb5.size)
    have hB190 := hB184.trans (hb5.mono hB184.size)
    have r191 := r185.below hb5 r185.lt
    have u192 := u186.below hb5
    have v193 := v187.below hb5
    have i194 := i188.below hb5
    have h195 := h189.below hb5
    clear hB184 r185 u186 v187 i188 h189
    clear q0 q1 q2 q3 ql qf
    clear v2 lv2 C0
    rw [Fz.out] at ho
    obtain ⟨Bz, dz, rfl, _⟩ := ho.form
    have tt196 := ho
    have lowz := fun q hq => (ho.out.lt q hq).1
    have higz := fun q hq => (ho.out.lt q hq).2
    clear ho
    obtain ⟨_, _, e9, lu0, u0⟩ := u192.sees.word (k := 0) (by simp)
    injection e9 with e9
    injection e9 with e8 e9
    subst e8 e9
    rw [Nat.add_zero, show ([a, b] : List (List UInt8))[0] = a from rfl] at u0
    have c0 := fun w => parseNumber_any a w la
    unfold tx at c0
    have C0 := hid c0
    clear c0
    obtain ⟨q0, q1, q2, q3, ql, qf⟩ := (⟨r191.cell 0, r191.cell 1, r191.cell 2, r191.cell 3, r191.lt, r191.frozen⟩ : _ ∧ _ ∧ _ ∧ _ ∧ _ ∧ _)
    go_wp2_with fail
    with_reducible refine (C0.out _).mono ?_
    rintro e w' ⟨he, rfl⟩
    rw [HM.out] at he
    subst he
    clear q0 q1 q2 q3 ql qf
    clear u0 lu0 C0
    clear u192
    clear v193
    have hB197 := hB190.alloc hB190.size (.cells #[.int .i64 m, .slice Bx I.length dx, .slice By H.length dy, .slice Bz U.length dz] 26)
    have r198 := r191.alloc (.cells #[.int .i64 m, .slice Bx I.length dx, .slice By H.length dy, .slice Bz U.length dz] 26)
    have i199 := i194.alloc4 (.cells #[.int .i64 m, .slice Bx I.length dx, .slice By H.length dy, .slice Bz U.length dz] 26)
    have h200 := h195.alloc (.cells #[.int .i64 m, .slice Bx I.length dx, .slice By H.length dy, .slice Bz U.length dz] 26)
    have tt201 := tt196.alloc4 (.cells #[.int .i64 m, .slice Bx I.length dx, .slice By H.length dy, .slice Bz U.length dz] 26)
    clear hB190 r191 i194 h195 tt196
    have t202 : At (w5.alloc (.cells #[.int .i64 m, .slice Bx I.length dx, .slice By H.length dy, .slice Bz U.length dz] 26)) (w5.heap.size) 26 #[.int .i64 m, .slice Bx I.length dx, .slice By H.length dy, .slice Bz U.length dz] := At.newAt _ _ (by first | rfl | (simp; done) | (simp; omega))
    have sees : SeesP (w5.alloc (.cells #[.int .i64 m, .slice Bx I.length dx, .slice By H.length dy, .slice Bz U.length dz] 26)) _ Bx By Bz ⟨m, I, H, U⟩ := ⟨Sees.of_own i199.out, h200.sees, Sees.of_own tt201.out⟩
    obtain ⟨q0, q1, q2, q3, ql, qf⟩ := (⟨r198.cell 0, r198.cell 1, r198.cell 2, r198.cell 3, r198.lt, r198.frozen⟩ : _ ∧ _ ∧ _ ∧ _ ∧ _ ∧ _)
    obtain ⟨t0, t1, t2, t3, tl, tf⟩ := (⟨t202.cell 0, t202.cell 1, t202.cell 2, t202.cell 3, t202.lt, t202.frozen⟩ : _ ∧ _ ∧ _ ∧ _ ∧ _ ∧ _)
    go_wp2_with fail
    with_reducible refine (iValidPool_any ⟨m, I, H, U⟩ Bx By Bz dx dy dz _ sees (Nat.le_trans L1.out (by decide)) (Nat.le_trans L2.out (by decide)) (Nat.le_trans L3.out (by decide))).mono ?_
    rintro e w6 ⟨he, hb6⟩
    rw [HK.out] at he
    subst he
    have sz6 : w5.heap.size + 1 ≤ w6.heap.size := Nat.le_trans (by first | exact Nat.le_refl _ | (simp; done) | (simp; omega)) (hb6.size)
    have hB203 := hB197.trans (hb6.mono hB197.size)
    have r204 := r198.below hb6 r198.lt
    have i205 := i199.below hb6
    have h206 := h200.below hb6
    have tt207 := tt201.below hb6
    have t208 := t202.below hb6 t202.lt
    clear hB197 r198 i199 h200 tt201 t202
    clear q0 q1 q2 q3 ql qf t0 t1 t2 t3 tl tf
    clear sees
    have op : OwnP w6 w.heap.size Bx By Bz dx dy dz ⟨m, I, H, U⟩ := ⟨i205.mono (by omega), h206.mono (by omega), tt207.mono (by omega), fun k h1 h2 => by have := higx k h1; have := lowy k h2; omega, fun k h1 h2 => by have := higx k h1; have := lowz k h2; omega, fun k h1 h2 => by have := higy k h1; have := lowz k h2; omega⟩
    clear i205
    clear h206
    clear tt207
    have o209 := op
    clear op
    obtain ⟨q0, q1, q2, q3, ql, qf⟩ := (⟨r204.cell 0, r204.cell 1, r204.cell 2, r204.cell 3, r204.lt, r204.frozen⟩ : _ ∧ _ ∧ _ ∧ _ ∧ _ ∧ _)
    obtain ⟨t0, t1, t2, t3, tl, tf⟩ := (⟨t208.cell 0, t208.cell 1, t208.cell 2, t208.cell 3, t208.lt, t208.frozen⟩ : _ ∧ _ ∧ _ ∧ _ ∧ _ ∧ _)
    have ne_qt : ¬ w.heap.size = w5.heap.size := by omega
    have ne_tq : ¬ w5.heap.size = w.heap.size := by omega
    have hB210 := below_put hB203 (grown_set w6 (w.heap.size) 0 (.int .i64 m)) (by omega) (by have := hB203.size; omega)
    have t211 := t208.past (grown_set w6 (w.heap.size) 0 (.int .i64 m)) (by omega)
    have o212 := o209.past r204 (grown_set w6 (w.heap.size) 0 (.int .i64 m))
    have r213 : At (w6.setCell ⟨w.heap.size, 0, none⟩ (.int .i64 m)) (w.heap.size) 26 #[.int .i64 m, .slice none 0 0, .slice none 0 0, .slice none 0 0] := by simpa using r204.set 0 (.int .i64 m)
    clear hB203 t208 o209 r204
    have hB214 := below_put hB210 (grown_set (w6.setCell ⟨w.heap.size, 0, none⟩ (.int .i64 m)) (w.heap.size) 1 (.slice Bx I.length dx)) (by omega) (by have := hB210.size; omega)
    have t215 := t211.past (grown_set (w6.setCell ⟨w.heap.size, 0, none⟩ (.int .i64 m)) (w.heap.size) 1 (.slice Bx I.length dx)) (by omega)
    have o216 := o212.past r213 (grown_set (w6.setCell ⟨w.heap.size, 0, none⟩ (.int .i64 m)) (w.heap.size) 1 (.slice Bx I.length dx))
    have r217 : At ((w6.setCell ⟨w.heap.size, 0, none⟩ (.int .i64 m)).setCell ⟨w.heap.size, 1, none⟩ (.slice Bx I.length dx)) (w.heap.size) 26 #[.int .i64 m, .slice Bx I.length dx, .slice none 0 0, .slice none 0 0] := by simpa using r213.set 1 (.slice Bx I.length dx)
    clear hB210 t211 o212 r213
    have hB218 := below_put hB214 (grown_set ((w6.setCell ⟨w.heap.size, 0, none⟩ (.int .i64 m)).setCell ⟨w.heap.size, 1, none⟩ (.slice Bx I.length dx)) (w.heap.size) 2 (.slice By H.length dy)) (by omega) (by have := hB214.size; omega)
    have t219 := t215.past (grown_set ((w6.setCell ⟨w.heap.size, 0, none⟩ (.int .i64 m)).setCell ⟨w.heap.size, 1, none⟩ (.slice Bx I.length dx)) (w.heap.size) 2 (.slice By H.length dy)) (by omega)
    have o220 := o216.past r217 (grown_set ((w6.setCell ⟨w.heap.size, 0, none⟩ (.int .i64 m)).setCell ⟨w.heap.size, 1, none⟩ (.slice Bx I.length dx)) (w.heap.size) 2 (.slice By H.length dy))
    have r221 : At (((w6.setCell ⟨w.heap.size, 0, none⟩ (.int .i64 m)).setCell ⟨w.heap.size, 1, none⟩ (.slice Bx I.length dx)).setCell ⟨w.heap.size, 2, none⟩ (.slice By H.length dy)) (w.heap.size) 26 #[.int .i64 m, .slice Bx I.length dx, .slice By H.length dy, .slice none 0 0] := by simpa using r217.set 2 (.slice By H.length dy)
    clear hB214 t215 o216 r217
    have hB222 := below_put hB218 (grown_set (((w6.setCell ⟨w.heap.size, 0, none⟩ (.int .i64 m)).setCell ⟨w.heap.size, 1, none⟩ (.slice Bx I.length dx)).setCell ⟨w.heap.size, 2, none⟩ (.slice By H.length dy)) (w.heap.size) 3 (.slice Bz U.length dz)) (by omega) (by have := hB218.size; omega)
    have t223 := t219.past (grown_set (((w6.setCell ⟨w.heap.size, 0, none⟩ (.int .i64 m)).setCell ⟨w.heap.size, 1, none⟩ (.slice Bx I.length dx)).setCell ⟨w.heap.size, 2, none⟩ (.slice By H.length dy)) (w.heap.size) 3 (.slice Bz U.length dz)) (by omega)
    have o224 := o220.past r221 (grown_set (((w6.setCell ⟨w.heap.size, 0, none⟩ (.int .i64 m)).setCell ⟨w.heap.size, 1, none⟩ (.slice Bx I.length dx)).setCell ⟨w.heap.size, 2, none⟩ (.slice By H.length dy)) (w.heap.size) 3 (.slice Bz U.length dz))
    have r225 : At ((((w6.setCell ⟨w.heap.size, 0, none⟩ (.int .i64 m)).setCell ⟨w.heap.size, 1, none⟩ (.slice Bx I.length dx)).setCell ⟨w.heap.size, 2, none⟩ (.slice By H.length dy)).setCell ⟨w.heap.size, 3, none⟩ (.slice Bz U.length dz)) (w.heap.size) 26 #[.int .i64 m, .slice Bx I.length dx, .slice By H.length dy, .slice Bz U.length dz] := by simpa using r221.set 3 (.slice Bz U.length dz)
    clear hB218 t219 o220 r221
    go_wp2
    refine bodyPost_ret (v := .tuple #[.agg #[.int .i64 m, .slice Bx I.length dx, .slice By H.length dy, .slice Bz U.length dz], .bool true]) (by simp [results, Try.results11, go_sem, r225.cell]) rfl ?_
    rw [EB.out, EP.out]
    exact ⟨_, _, _, _, _, _, rfl, o224, hB222⟩

end Go.Proofs.Ytehdbllpiokbnab

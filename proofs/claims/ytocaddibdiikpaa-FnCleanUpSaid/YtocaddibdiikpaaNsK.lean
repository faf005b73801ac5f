/-
  What the model's someKinds and anyNest answer. Condition: the lists lie in memory.
-/
import Derived.Test.YtocaddibdiikpaaNsH
import Derived.Test.YtocaddibdiikpaaSpoil
import Derived.Test.YtocaddibdiikpaaReadB
import Derived.Test.YtocaddibdiikpaaApp
namespace Go.Proofs.Ytocaddibdiikpaa
open Go.RowKit Nes

theorem grown_newN {w0 wr w' : World} {g t : Nat} (h : w0.grownBy wr (some g)) (hg : wr.grownBy w' (some t)) (ht : w0.heap.size ≤ t) : w0.grownBy w' (some g) :=
  ⟨hg.os.trans h.os, hg.tape.trans h.tape, hg.output.trans h.output, Nat.le_trans h.size hg.size, fun i hi hne => (hg.block i (Nat.lt_of_lt_of_le hi h.size) (fun e => by injection e with e; omega)).trans (h.block i hi hne)⟩
theorem grown_lowN {w0 wr w' : World} {g B : Nat} (h : w0.grownBy wr (some g)) (hb : Below B wr w') (hB : w0.heap.size ≤ B) : w0.grownBy w' (some g) :=
  ⟨hb.os.trans h.os, hb.tape.trans h.tape, hb.output.trans h.output, Nat.le_trans h.size hb.size, fun i hi hne => (hb.block i (by omega)).trans (h.block i hi hne)⟩
/-- Commands that were drawn: they lie in new blocks; only the reader's block has changed. -/
def KindsAns (w : World) (g p : Nat) (e : Ending) (w' : World) : Prop := ∃ (A : Option Addr) (c : Nat) (ys : List Int) (q : Nat),
  e = .returned (.slice A ys.length c) ∧ ys.length ≤ c ∧ ys.length ≤ 18 ∧ SeesF w' (fun b => b < w.heap.size) A (ints ys) ∧ w.grownBy w' (some g) ∧ Rd w' g q ∧ q ≤ p + 25
/-- A state that was drawn: its marks lie in new blocks; only the reader's block has changed. -/
def NestAns (w : World) (g p : Nat) (e : Ending) (w' : World) : Prop := ∃ (C : Nst) (B : Option Addr) (d q : Nat),
  e = .returned (.agg #[.int .i64 C.d, .int .i64 C.w, .slice B C.m.length d, .bool C.b]) ∧ C.m.length ≤ d ∧ C.m.length ≤ 8 ∧ SeesF w' (fun b => b < w.heap.size) B (ints C.m) ∧ w.grownBy w' (some g) ∧ Rd w' g q ∧ q ≤ p + 60
theorem OwnM.grownR {w w' : World} {base A} {c : Nat} {s : Nst} {g : Nat} (h : OwnM w base A c s) (hg : w.grownBy w' (some g)) (hgb : g < base) : OwnM w' base A c s := row_kept h.own.out hg (fun k hk e => by injection e with e; have := (h.own.out.lt k hk).1; omega)

set_option maxHeartbeats 4000000 in
theorem someKinds_any (g p : Nat) (w : World) (h : Rd w g p) (hp : p < 900) :
    Calls Try.prog 37 #[.pointer (some ⟨g, 0, none⟩)] w (KindsAns w g p) := by
  have hg := h.lt
  obtain ⟨i0, hi0, hz0, hz1, hz2⟩ := info_parts intInfo
  have hr0 := h.alloc (.cells #[] 3)
  have ho0 : Own (w.alloc (.cells #[] 3)) w.heap.size (.slice (some ⟨w.heap.size, 0, none⟩) 0 0) [] := made_at 3 1 rfl (Nat.le_refl _)
  have hg0 : w.grownBy (w.alloc (.cells #[] 3)) (some g) := grown_of_below ((Below.refl _ _).alloc (Nat.le_refl _) _) _
  go_enter Try.func37, Try.ntmps37
  go_wp2_with fail
  refine (one_any g p _ 7 _ [6, 8, 12, 16, 3, 0, 17] _ (hr0.alloc _) (by omega) (At.newAt 3 _ (by simp)) (by rfl) (by simp; omega) (by rfl) (by omega) (by omega)).mono ?_
  rintro e w1 ⟨x, rfl, mx, hg1, hr1⟩
  have hx : 0 ≤ x ∧ x ≤ 17 := by simp at mx; omega
  obtain ⟨n0, rfl⟩ : ∃ n0 : Nat, x = n0 := ⟨x.toNat, by omega⟩
  have ho1 : Own w1 w.heap.size (.slice (some ⟨w.heap.size, 0, none⟩) 0 0) [] := row_kept (own_alloc ho0 _) hg1 (fun k hk e => by injection e with e; have := (World.ownsRow.lt ho0 k hk).1; omega)
  have hgg := grown_trans (grown_trans hg0 (grown_of_below ((Below.refl _ _).alloc (Nat.le_refl _) (.cells #[.int .i64 6, .int .i64 8, .int .i64 12, .int .i64 16, .int .i64 3, .int .i64 0, .int .i64 17] 3)) (some g))) hg1
  have hz1' : w.heap.size ≤ w1.heap.size := hgg.size
  clear hr0 ho0 hg0 hg1 mx
  go_wp2_with fail
  go_loopw [3, 4] (fun v i wr => ∃ (k : Nat) (A : Option Addr) (c : Nat) (ys : List Int) (q : Nat), i = .int .i64 k ∧ ys.length + k ≤ 17 ∧ q + k ≤ p + 18 ∧ v = .slice A ys.length c ∧ Own wr w.heap.size v ys ∧ Rd wr g q ∧ w.grownBy wr (some g)) (fun _ i _ => (intOf i).toNat)
  case atStart => exact ⟨n0, _, _, [], p + 1, rfl, by simp; omega, by omega, rfl, ho1, hr1, hgg⟩
  case round =>
    clear ho1 hr1 hgg
    obtain ⟨k, A, c, ys, q, rfl, hk, hq, rfl, ho, hr, hgr⟩ := hrel
    have hzr := hgr.size
    by_cases hk0 : 0 < k
    · have hki : (0 : Int) < (k : Int) := by omega
      go_wp2_with fail
      refine (one_any g q _ 8 _ [0, 1, 1, 3, 4, 0, 1, 2] _ (hr.alloc _) (by omega) (At.newAt 3 _ (by simp)) (by rfl) (by have := hr.lt; simp; omega) (by rfl) (by omega) (by omega)).mono ?_
      rintro e w5 ⟨x, rfl, mx, hg5, hr5⟩
      have ho5 : Own w5 w.heap.size (.slice A ys.length c) ys := row_kept (own_alloc ho.out _) hg5 (fun k hk e => by injection e with e; have := (ho.out.lt k hk).1; omega)
      have hg6 := grown_trans (grown_trans hgr (grown_of_below ((Below.refl _ _).alloc (Nat.le_refl _) (.cells #[.int .i64 0, .int .i64 1, .int .i64 1, .int .i64 3, .int .i64 4, .int .i64 0, .int .i64 1, .int .i64 2] 3)) (some g))) hg5
      have hz5 := hg6.size
      have hlow := ho5.out.lt
      clear ho hr hgr hg5 mx
      go_wp2_with (at_builtin; refine wpList_append_own _ rfl _ _ 23 rfl w.heap.size 3 i0 (.int .i64 0) 1 8 Try.underlying23 hi0 hz0 hz1 hz2 rfl (by decide) _ _ _ rfl (own_alloc ho5.out _) ⟨w5.heap.size, 0, none⟩ 1 1 [.int .i64 x] rfl rfl (cell_one_new _ _ _) ?c2 ?c3 ?c4 ?c5 ?_)
      case c2 => simp [Value.oneCell']
      case c3 => unfold maxLen; omega
      case c4 => omega
      case c5 => simp; omega
      case _ =>
        intro v6 w6 h6 hg7 _
        have ho6 : Own w6 w.heap.size v6 (ys ++ [x]) := by unfold Own; rw [ints_app, List.length_append]; exact h6
        have hb6 : Below w.heap.size (w5.alloc (.cells #[.int .i64 x] 3)) w6 := (Below.refl _ _).grown hg7 (by simp; omega) (fun q hq => (hlow q hq).1)
        have hr6 := (hr5.alloc (.cells #[.int .i64 x] 3)).below hb6 hg
        have hgw := grown_lowN (grown_trans hg6 (grown_of_below ((Below.refl _ _).alloc (Nat.le_refl _) (.cells #[.int .i64 x] 3)) (some g))) hb6 (Nat.le_refl _)
        obtain ⟨A6, c6, rfl, _⟩ := own_form h6
        have e6 : (ys ++ [x]).length = ys.length + 1 := by simp
        clear h6 hg7 hb6 hlow ho5 hr5 hg6
        go_wp2
        go_roundw
        case rel => exact ⟨k - 1, A6, c6, ys ++ [x], q + 1, by go_num, by rw [e6]; omega, by omega, by rw [e6], ho6, hr6, hgw⟩
        case measure => simp [intOf]; omega
    · have hki : ¬ (0 : Int) < (k : Int) := by omega
      go_wp2_with fail
      refine (spoil_any g q A c ys 5 _ (Sees.of_own ho) hr (by omega) (by omega)).mono ?_
      rintro e w5 ⟨A4, c4, zs, q5, rfl, hc4, hy4, hS4, hg5, hr5, hq5⟩
      go_wp2
      go_ret
      exact ⟨A4, c4, zs, q5, rfl, hc4, by omega, hS4.imp (fun b _ hb => by omega), grown_trans hgr hg5, hr5, by omega⟩

theorem spoilN_len {g p n : Nat} {A : Option Addr} {c : Nat} {l : List Int} {m : Int} {w : World} (hl : l.length = n) (h : Sees w w.heap.size A (ints l)) (hr : Rd w g p) (hp : p < 1000) (hn : l.length ≤ 1000) :
    Calls Try.prog 40 #[.pointer (some ⟨g, 0, none⟩), .slice A n c, .int .i64 m] w (SpoilAns n w g p) := by
  subst hl; exact spoil_any g p A c l m w h hr hp hn
set_option maxHeartbeats 8000000 in
theorem anyNest_any (g p : Nat) (w : World) (h : Rd w g p) (hp : p < 900) :
    Calls Try.prog 29 #[.pointer (some ⟨g, 0, none⟩)] w (NestAns w g p) := by
  obtain ⟨i0, hi0, hz0, hz1, hz2⟩ := info_parts intInfo
  have hgw := h.lt
  have gr1 := grown_refl w (some g)
  have rd2 := h
  have gr3 := grown_trans gr1 (grown_of_below ((Below.refl _ w).alloc (Nat.le_refl _) (.cells #[.int .i64 0, .int .i64 0, .slice none 0 0, .bool false] 25)) (some g))
  have rd4 := rd2.alloc (.cells #[.int .i64 0, .int .i64 0, .slice none 0 0, .bool false] 25)
  clear gr1 rd2
  have r5 : At (w.alloc (.cells #[.int .i64 0, .int .i64 0, .slice none 0 0, .bool false] 25)) (w.heap.size) 25 #[.int .i64 0, .int .i64 0, .slice none 0 0, .bool false] := At.newAt _ _ (by first | rfl | (simp; done) | (simp; omega))
  go_enter Try.func29, Try.ntmps29
  obtain ⟨q0, q1, q2, q3, ql, qf⟩ := (⟨r5.cell 0, r5.cell 1, r5.cell 2, r5.cell 3, r5.lt, r5.frozen⟩ : _ ∧ _ ∧ _ ∧ _ ∧ _ ∧ _)
  go_wp2_with fail
  refine (someKinds_any g p _ rd4 hp).mono ?_
  rintro e w1 ⟨Ak, ck, ys, qk, rfl, hkc, hkl, hks, hg1, hr1, hqk⟩
  have sz1 : w.heap.size + 1 ≤ w1.heap.size := Nat.le_trans (by first | exact Nat.le_refl _ | (simp; done)) hg1.size
  have gr6 := grown_trans gr3 hg1
  have rd7 := hr1
  have r8 := r5.past hg1 (by omega)
  clear gr3 rd4 r5 hg1 hr1
  clear q0 q1 q2 q3 ql qf
  have hrm := hid (runS_ok ys)
  obtain ⟨R, hR⟩ : ∃ R, R = runS ys := ⟨_, rfl⟩
  have ER : Hid (runS ys = R) := hid hR.symm
  obtain ⟨V, hV⟩ : ∃ V, V = runV ys := ⟨_, rfl⟩
  have EV : Hid (runV ys = V) := hid hV.symm
  rw [← hR] at hrm
  have hR4 := ok_len hrm.out
  have hRd := hrm.out.1
  clear hR hV
  obtain ⟨q0, q1, q2, q3, ql, qf⟩ := (⟨r8.cell 0, r8.cell 1, r8.cell 2, r8.cell 3, r8.lt, r8.frozen⟩ : _ ∧ _ ∧ _ ∧ _ ∧ _ ∧ _)
  go_wp2_with fail
  refine (sRunNest_any Ak ck ys _ hks.sees (Nat.le_trans hkl (by decide))).mono ?_
  rintro e w2 ⟨B, d, he, ho2, hb2⟩
  rw [ER.out, EV.out] at he
  rw [ER.out] at ho2
  subst he
  have sz2 : w1.heap.size ≤ w2.heap.size := Nat.le_trans (by first | exact Nat.le_refl _ | (simp; done) | (simp; omega)) (hb2.size)
  have gr9 := grown_trans gr6 (grown_of_below hb2 (some g))
  have rd10 := rd7.below hb2 rd7.lt
  have r11 := r8.below hb2 r8.lt
  clear gr6 rd7 r8 hb2
  clear q0 q1 q2 q3 ql qf
  have o12 : OwnM w2 (w.heap.size + 1) B d R := OwnM.mono ho2 (by omega)
  clear ho2 hks
  have gr13 := grown_trans gr9 (grown_of_below ((Below.refl _ w2).alloc (Nat.le_refl _) (.cells #[.int .i64 R.d, .int .i64 R.w, .slice B R.m.length d, .bool R.b] 25)) (some g))
  have rd14 := rd10.alloc (.cells #[.int .i64 R.d, .int .i64 R.w, .slice B R.m.length d, .bool R.b] 25)
  have r15 := r11.alloc (.cells #[.int .i64 R.d, .int .i64 R.w, .slice B R.m.length d, .bool R.b] 25)
  have o16 := o12.alloc (.cells #[.int .i64 R.d, .int .i64 R.w, .slice B R.m.length d, .bool R.b] 25)
  clear gr9 rd10 r11 o12
  have t17 : At (w2.alloc (.cells #[.int .i64 R.d, .int .i64 R.w, .slice B R.m.length d, .bool R.b] 25)) (w2.heap.size) 25 #[.int .i64 R.d, .int .i64 R.w, .slice B R.m.length d, .bool R.b] := At.newAt _ _ (by first | rfl | (simp; done) | (simp; omega))
  obtain ⟨q0, q1, q2, q3, ql, qf⟩ := (⟨r15.cell 0, r15.cell 1, r15.cell 2, r15.cell 3, r15.lt, r15.frozen⟩ : _ ∧ _ ∧ _ ∧ _ ∧ _ ∧ _)
  obtain ⟨t0, t1, t2, t3, tl, tf⟩ := (⟨t17.cell 0, t17.cell 1, t17.cell 2, t17.cell 3, t17.lt, t17.frozen⟩ : _ ∧ _ ∧ _ ∧ _ ∧ _ ∧ _)
  have ne_qt : ¬ w.heap.size = w2.heap.size := by omega
  have ne_tq : ¬ w2.heap.size = w.heap.size := by omega
  go_wp2_with fail
  refine (pick_any g qk 24 _ rd14 (by omega)).mono ?_
  rintro e w3 ⟨x, rfl, hx0, hx1, hg3, hr3⟩
  have hx2 := hx1 (by omega)
  clear hx1
  have sz3 : w2.heap.size + 1 ≤ w3.heap.size := Nat.le_trans (by first | exact Nat.le_refl _ | (simp; done)) hg3.size
  have gr18 := grown_trans gr13 hg3
  have rd19 := hr3
  have r20 := r15.past hg3 (by omega)
  have o21 := o16.grownR hg3 (by omega)
  have t22 := t17.past hg3 (by omega)
  clear gr13 rd14 r15 o16 t17 hg3 hr3
  clear q0 q1 q2 q3 ql qf t0 t1 t2 t3 tl tf ne_qt ne_tq
  have tbe := t22.lt
  by_cases x0 : x = 0
  · skip
    subst x0
    have hw1 : IntKind.i64.wrap (R.d + 1) = R.d + 1 := by rw [IntKind.wrap_i64]; omega
    obtain ⟨q0, q1, q2, q3, ql, qf⟩ := (⟨r20.cell 0, r20.cell 1, r20.cell 2, r20.cell 3, r20.lt, r20.frozen⟩ : _ ∧ _ ∧ _ ∧ _ ∧ _ ∧ _)
    obtain ⟨t0, t1, t2, t3, tl, tf⟩ := (⟨t22.cell 0, t22.cell 1, t22.cell 2, t22.cell 3, t22.lt, t22.frozen⟩ : _ ∧ _ ∧ _ ∧ _ ∧ _ ∧ _)
    have ne_qt : ¬ w.heap.size = w2.heap.size := by omega
    have ne_tq : ¬ w2.heap.size = w.heap.size := by omega
    have gr23 := grown_trans gr18 (grown_of_below ((Below.refl _ w3).alloc (Nat.le_refl _) (.cells #[.int .i64 (-1), .int .i64 5, .int .i64 (R.d + 1)] 3)) (some g))
    have rd24 := rd19.alloc (.cells #[.int .i64 (-1), .int .i64 5, .int .i64 (R.d + 1)] 3)
    have r25 := r20.alloc (.cells #[.int .i64 (-1), .int .i64 5, .int .i64 (R.d + 1)] 3)
    have o26 := o21.alloc (.cells #[.int .i64 (-1), .int .i64 5, .int .i64 (R.d + 1)] 3)
    have t27 := t22.alloc (.cells #[.int .i64 (-1), .int .i64 5, .int .i64 (R.d + 1)] 3)
    clear gr18 rd19 r20 o21 t22
    go_wp2_with fail
    refine (one_any g (qk + 1) _ 3 _ [-1, 5, (R.d + 1)] _ rd24 (by omega) (At.newAt 3 _ (by first | rfl | (simp; done))) (by rfl) (by first | omega | (simp; omega)) (by rfl) (by omega) (by omega)).mono ?_
    rintro e w4 ⟨y, rfl, my, hg4, hr4⟩
    clear my
    have sz4 : w3.heap.size + 1 ≤ w4.heap.size := Nat.le_trans (by first | exact Nat.le_refl _ | (simp; done)) hg4.size
    have gr28 := grown_trans gr23 hg4
    have rd29 := hr4
    have r30 := r25.past hg4 (by omega)
    have o31 := o26.grownR hg4 (by omega)
    have t32 := t27.past hg4 (by omega)
    clear gr23 rd24 r25 o26 t27 hg4 hr4
    clear q0 q1 q2 q3 ql qf t0 t1 t2 t3 tl tf ne_qt ne_tq
    obtain ⟨q0, q1, q2, q3, ql, qf⟩ := (⟨r30.cell 0, r30.cell 1, r30.cell 2, r30.cell 3, r30.lt, r30.frozen⟩ : _ ∧ _ ∧ _ ∧ _ ∧ _ ∧ _)
    obtain ⟨t0, t1, t2, t3, tl, tf⟩ := (⟨t32.cell 0, t32.cell 1, t32.cell 2, t32.cell 3, t32.lt, t32.frozen⟩ : _ ∧ _ ∧ _ ∧ _ ∧ _ ∧ _)
    have ne_qt : ¬ w.heap.size = w2.heap.size := by omega
    have ne_tq : ¬ w2.heap.size = w.heap.size := by omega
    have gr33 := grown_newN gr28 (grown_set w4 (w2.heap.size) 0 (.int .i64 y)) (by omega)
    have rd34 := rd29.far (show g < Addr.block ⟨w2.heap.size, 0, none⟩ by simp only; omega) (.int .i64 y)
    have r35 := r30.past (grown_set w4 (w2.heap.size) 0 (.int .i64 y)) (by omega)
    have o36 := o31.past4 t32 (grown_set w4 (w2.heap.size) 0 (.int .i64 y))
    have t37 : At (w4.setCell ⟨w2.heap.size, 0, none⟩ (.int .i64 y)) (w2.heap.size) 25 #[.int .i64 y, .int .i64 R.w, .slice B R.m.length d, .bool R.b] := by simpa using t32.set 0 (.int .i64 y)
    clear gr28 rd29 r30 o31 t32
    obtain ⟨q0, q1, q2, q3, ql, qf⟩ := (⟨r35.cell 0, r35.cell 1, r35.cell 2, r35.cell 3, r35.lt, r35.frozen⟩ : _ ∧ _ ∧ _ ∧ _ ∧ _ ∧ _)
    obtain ⟨t0, t1, t2, t3, tl, tf⟩ := (⟨t37.cell 0, t37.cell 1, t37.cell 2, t37.cell 3, t37.lt, t37.frozen⟩ : _ ∧ _ ∧ _ ∧ _ ∧ _ ∧ _)
    have ne_qt : ¬ w.heap.size = w2.heap.size := by omega
    have ne_tq : ¬ w2.heap.size = w.heap.size := by omega
    have gr38 := grown_newN gr33 (grown_set (w4.setCell ⟨w2.heap.size, 0, none⟩ (.int .i64 y)) (w.heap.size) 0 (.int .i64 y)) (by omega)
    have rd39 := rd34.far (show g < Addr.block ⟨w.heap.size, 0, none⟩ by simp only; omega) (.int .i64 y)
    have o40 := o36.past4 r35 (grown_set (w4.setCell ⟨w2.heap.size, 0, none⟩ (.int .i64 y)) (w.heap.size) 0 (.int .i64 y))
    have t41 := t37.past (grown_set (w4.setCell ⟨w2.heap.size, 0, none⟩ (.int .i64 y)) (w.heap.size) 0 (.int .i64 y)) (by omega)
    have r42 : At ((w4.setCell ⟨w2.heap.size, 0, none⟩ (.int .i64 y)).setCell ⟨w.heap.size, 0, none⟩ (.int .i64 y)) (w.heap.size) 25 #[.int .i64 y, .int .i64 0, .slice none 0 0, .bool false] := by simpa using r35.set 0 (.int .i64 y)
    clear gr33 rd34 o36 t37 r35
    have gr43 := grown_newN gr38 (grown_set ((w4.setCell ⟨w2.heap.size, 0, none⟩ (.int .i64 y)).setCell ⟨w.heap.size, 0, none⟩ (.int .i64 y)) (w.heap.size) 1 (.int .i64 R.w)) (by omega)
    have rd44 := rd39.far (show g < Addr.block ⟨w.heap.size, 1, none⟩ by simp only; omega) (.int .i64 R.w)
    have o45 := o40.past4 r42 (grown_set ((w4.setCell ⟨w2.heap.size, 0, none⟩ (.int .i64 y)).setCell ⟨w.heap.size, 0, none⟩ (.int .i64 y)) (w.heap.size) 1 (.int .i64 R.w))
    have t46 := t41.past (grown_set ((w4.setCell ⟨w2.heap.size, 0, none⟩ (.int .i64 y)).setCell ⟨w.heap.size, 0, none⟩ (.int .i64 y)) (w.heap.size) 1 (.int .i64 R.w)) (by omega)
    have r47 : At (((w4.setCell ⟨w2.heap.size, 0, none⟩ (.int .i64 y)).setCell ⟨w.heap.size, 0, none⟩ (.int .i64 y)).setCell ⟨w.heap.size, 1, none⟩ (.int .i64 R.w)) (w.heap.size) 25 #[.int .i64 y, .int .i64 R.w, .slice none 0 0, .bool false] := by simpa using r42.set 1 (.int .i64 R.w)
    clear gr38 rd39 o40 t41 r42
    have gr48 := grown_newN gr43 (grown_set (((w4.setCell ⟨w2.heap.size, 0, none⟩ (.int .i64 y)).setCell ⟨w.heap.size, 0, none⟩ (.int .i64 y)).setCell ⟨w.heap.size, 1, none⟩ (.int .i64 R.w)) (w.heap.size) 2 (.slice B R.m.length d)) (by omega)
    have rd49 := rd44.far (show g < Addr.block ⟨w.heap.size, 2, none⟩ by simp only; omega) (.slice B R.m.length d)
    have o50 := o45.past4 r47 (grown_set (((w4.setCell ⟨w2.heap.size, 0, none⟩ (.int .i64 y)).setCell ⟨w.heap.size, 0, none⟩ (.int .i64 y)).setCell ⟨w.heap.size, 1, none⟩ (.int .i64 R.w)) (w.heap.size) 2 (.slice B R.m.length d))
    have t51 := t46.past (grown_set (((w4.setCell ⟨w2.heap.size, 0, none⟩ (.int .i64 y)).setCell ⟨w.heap.size, 0, none⟩ (.int .i64 y)).setCell ⟨w.heap.size, 1, none⟩ (.int .i64 R.w)) (w.heap.size) 2 (.slice B R.m.length d)) (by omega)
    have r52 : At ((((w4.setCell ⟨w2.heap.size, 0, none⟩ (.int .i64 y)).setCell ⟨w.heap.size, 0, none⟩ (.int .i64 y)).setCell ⟨w.heap.size, 1, none⟩ (.int .i64 R.w)).setCell ⟨w.heap.size, 2, none⟩ (.slice B R.m.length d)) (w.heap.size) 25 #[.int .i64 y, .int .i64 R.w, .slice B R.m.length d, .bool false] := by simpa using r47.set 2 (.slice B R.m.length d)
    clear gr43 rd44 o45 t46 r47
    have gr53 := grown_newN gr48 (grown_set ((((w4.setCell ⟨w2.heap.size, 0, none⟩ (.int .i64 y)).setCell ⟨w.heap.size, 0, none⟩ (.int .i64 y)).setCell ⟨w.heap.size, 1, none⟩ (.int .i64 R.w)).setCell ⟨w.heap.size, 2, none⟩ (.slice B R.m.length d)) (w.heap.size) 3 (.bool R.b)) (by omega)
    have rd54 := rd49.far (show g < Addr.block ⟨w.heap.size, 3, none⟩ by simp only; omega) (.bool R.b)
    have o55 := o50.past4 r52 (grown_set ((((w4.setCell ⟨w2.heap.size, 0, none⟩ (.int .i64 y)).setCell ⟨w.heap.size, 0, none⟩ (.int .i64 y)).setCell ⟨w.heap.size, 1, none⟩ (.int .i64 R.w)).setCell ⟨w.heap.size, 2, none⟩ (.slice B R.m.length d)) (w.heap.size) 3 (.bool R.b))
    have t56 := t51.past (grown_set ((((w4.setCell ⟨w2.heap.size, 0, none⟩ (.int .i64 y)).setCell ⟨w.heap.size, 0, none⟩ (.int .i64 y)).setCell ⟨w.heap.size, 1, none⟩ (.int .i64 R.w)).setCell ⟨w.heap.size, 2, none⟩ (.slice B R.m.length d)) (w.heap.size) 3 (.bool R.b)) (by omega)
    have r57 : At (((((w4.setCell ⟨w2.heap.size, 0, none⟩ (.int .i64 y)).setCell ⟨w.heap.size, 0, none⟩ (.int .i64 y)).setCell ⟨w.heap.size, 1, none⟩ (.int .i64 R.w)).setCell ⟨w.heap.size, 2, none⟩ (.slice B R.m.length d)).setCell ⟨w.heap.size, 3, none⟩ (.bool R.b)) (w.heap.size) 25 #[.int .i64 y, .int .i64 R.w, .slice B R.m.length d, .bool R.b] := by simpa using r52.set 3 (.bool R.b)
    clear gr48 rd49 o50 t51 r52
    go_wp2
    refine bodyPost_ret (v := .agg #[.int .i64 y, .int .i64 R.w, .slice B R.m.length d, .bool R.b]) (by simp [results, Try.results29, go_sem, r57.cell]) rfl ?_
    exact ⟨⟨y, R.w, R.m, R.b⟩, B, d, _, rfl, o55.cap, by show R.m.length ≤ 8; omega, (SeesF.of_row o55.own.out (fun b h1 _ h2 => by omega)), gr53, rd54, by omega⟩
  have n0 : (x == 0) = false := beq_eq_false_iff_ne.2 x0
  by_cases x1 : x = 1
  · skip
    subst x1
    clear n0 x0
    obtain ⟨q0, q1, q2, q3, ql, qf⟩ := (⟨r20.cell 0, r20.cell 1, r20.cell 2, r20.cell 3, r20.lt, r20.frozen⟩ : _ ∧ _ ∧ _ ∧ _ ∧ _ ∧ _)
    obtain ⟨t0, t1, t2, t3, tl, tf⟩ := (⟨t22.cell 0, t22.cell 1, t22.cell 2, t22.cell 3, t22.lt, t22.frozen⟩ : _ ∧ _ ∧ _ ∧ _ ∧ _ ∧ _)
    have ne_qt : ¬ w.heap.size = w2.heap.size := by omega
    have ne_tq : ¬ w2.heap.size = w.heap.size := by omega
    have gr58 := grown_trans gr18 (grown_of_below ((Below.refl _ w3).alloc (Nat.le_refl _) (.cells #[.int .i64 (-1), .int .i64 13, .int .i64 1] 3)) (some g))
    have rd59 := rd19.alloc (.cells #[.int .i64 (-1), .int .i64 13, .int .i64 1] 3)
    have r60 := r20.alloc (.cells #[.int .i64 (-1), .int .i64 13, .int .i64 1] 3)
    have o61 := o21.alloc (.cells #[.int .i64 (-1), .int .i64 13, .int .i64 1] 3)
    have t62 := t22.alloc (.cells #[.int .i64 (-1), .int .i64 13, .int .i64 1] 3)
    clear gr18 rd19 r20 o21 t22
    go_wp2_with fail
    refine (one_any g (qk + 1) _ 3 _ [-1, 13, 1] _ rd59 (by omega) (At.newAt 3 _ (by first | rfl | (simp; done))) (by rfl) (by first | omega | (simp; omega)) (by rfl) (by omega) (by omega)).mono ?_
    rintro e w4 ⟨y, rfl, my, hg4, hr4⟩
    clear my
    have sz4 : w3.heap.size + 1 ≤ w4.heap.size := Nat.le_trans (by first | exact Nat.le_refl _ | (simp; done)) hg4.size
    have gr63 := grown_trans gr58 hg4
    have rd64 := hr4
    have r65 := r60.past hg4 (by omega)
    have o66 := o61.grownR hg4 (by omega)
    have t67 := t62.past hg4 (by omega)
    clear gr58 rd59 r60 o61 t62 hg4 hr4
    clear q0 q1 q2 q3 ql qf t0 t1 t2 t3 tl tf ne_qt ne_tq
    obtain ⟨q0, q1, q2, q3, ql, qf⟩ := (⟨r65.cell 0, r65.cell 1, r65.cell 2, r65.cell 3, r65.lt, r65.frozen⟩ : _ ∧ _ ∧ _ ∧ _ ∧ _ ∧ _)
    obtain ⟨t0, t1, t2, t3, tl, tf⟩ := (⟨t67.cell 0, t67.cell 1, t67.cell 2, t67.cell 3, t67.lt, t67.frozen⟩ : _ ∧ _ ∧ _ ∧ _ ∧ _ ∧ _)
    have ne_qt : ¬ w.heap.size = w2.heap.size := by omega
    have ne_tq : ¬ w2.heap.size = w.heap.size := by omega
    have gr68 := grown_newN gr63 (grown_set w4 (w2.heap.size) 1 (.int .i64 y)) (by omega)
    have rd69 := rd64.far (show g < Addr.block ⟨w2.heap.size, 1, none⟩ by simp only; omega) (.int .i64 y)
    have r70 := r65.past (grown_set w4 (w2.heap.size) 1 (.int .i64 y)) (by omega)
    have o71 := o66.past4 t67 (grown_set w4 (w2.heap.size) 1 (.int .i64 y))
    have t72 : At (w4.setCell ⟨w2.heap.size, 1, none⟩ (.int .i64 y)) (w2.heap.size) 25 #[.int .i64 R.d, .int .i64 y, .slice B R.m.length d, .bool R.b] := by simpa using t67.set 1 (.int .i64 y)
    clear gr63 rd64 r65 o66 t67
    obtain ⟨q0, q1, q2, q3, ql, qf⟩ := (⟨r70.cell 0, r70.cell 1, r70.cell 2, r70.cell 3, r70.lt, r70.frozen⟩ : _ ∧ _ ∧ _ ∧ _ ∧ _ ∧ _)
    obtain ⟨t0, t1, t2, t3, tl, tf⟩ := (⟨t72.cell 0, t72.cell 1, t72.cell 2, t72.cell 3, t72.lt, t72.frozen⟩ : _ ∧ _ ∧ _ ∧ _ ∧ _ ∧ _)
    have ne_qt : ¬ w.heap.size = w2.heap.size := by omega
    have ne_tq : ¬ w2.heap.size = w.heap.size := by omega
    have gr73 := grown_newN gr68 (grown_set (w4.setCell ⟨w2.heap.size, 1, none⟩ (.int .i64 y)) (w.heap.size) 0 (.int .i64 R.d)) (by omega)
    have rd74 := rd69.far (show g < Addr.block ⟨w.heap.size, 0, none⟩ by simp only; omega) (.int .i64 R.d)
    have o75 := o71.past4 r70 (grown_set (w4.setCell ⟨w2.heap.size, 1, none⟩ (.int .i64 y)) (w.heap.size) 0 (.int .i64 R.d))
    have t76 := t72.past (grown_set (w4.setCell ⟨w2.heap.size, 1, none⟩ (.int .i64 y)) (w.heap.size) 0 (.int .i64 R.d)) (by omega)
    have r77 : At ((w4.setCell ⟨w2.heap.size, 1, none⟩ (.int .i64 y)).setCell ⟨w.heap.size, 0, none⟩ (.int .i64 R.d)) (w.heap.size) 25 #[.int .i64 R.d, .int .i64 0, .slice none 0 0, .bool false] := by simpa using r70.set 0 (.int .i64 R.d)
    clear gr68 rd69 o71 t72 r70
    have gr78 := grown_newN gr73 (grown_set ((w4.setCell ⟨w2.heap.size, 1, none⟩ (.int .i64 y)).setCell ⟨w.heap.size, 0, none⟩ (.int .i64 R.d)) (w.heap.size) 1 (.int .i64 y)) (by omega)
    have rd79 := rd74.far (show g < Addr.block ⟨w.heap.size, 1, none⟩ by simp only; omega) (.int .i64 y)
    have o80 := o75.past4 r77 (grown_set ((w4.setCell ⟨w2.heap.size, 1, none⟩ (.int .i64 y)).setCell ⟨w.heap.size, 0, none⟩ (.int .i64 R.d)) (w.heap.size) 1 (.int .i64 y))
    have t81 := t76.past (grown_set ((w4.setCell ⟨w2.heap.size, 1, none⟩ (.int .i64 y)).setCell ⟨w.heap.size, 0, none⟩ (.int .i64 R.d)) (w.heap.size) 1 (.int .i64 y)) (by omega)
    have r82 : At (((w4.setCell ⟨w2.heap.size, 1, none⟩ (.int .i64 y)).setCell ⟨w.heap.size, 0, none⟩ (.int .i64 R.d)).setCell ⟨w.heap.size, 1, none⟩ (.int .i64 y)) (w.heap.size) 25 #[.int .i64 R.d, .int .i64 y, .slice none 0 0, .bool false] := by simpa using r77.set 1 (.int .i64 y)
    clear gr73 rd74 o75 t76 r77
    have gr83 := grown_newN gr78 (grown_set (((w4.setCell ⟨w2.heap.size, 1, none⟩ (.int .i64 y)).setCell ⟨w.heap.size, 0, none⟩ (.int .i64 R.d)).setCell ⟨w.heap.size, 1, none⟩ (.int .i64 y)) (w.heap.size) 2 (.slice B R.m.length d)) (by omega)
    have rd84 := rd79.far (show g < Addr.block ⟨w.heap.size, 2, none⟩ by simp only; omega) (.slice B R.m.length d)
    have o85 := o80.past4 r82 (grown_set (((w4.setCell ⟨w2.heap.size, 1, none⟩ (.int .i64 y)).setCell ⟨w.heap.size, 0, none⟩ (.int .i64 R.d)).setCell ⟨w.heap.size, 1, none⟩ (.int .i64 y)) (w.heap.size) 2 (.slice B R.m.length d))
    have t86 := t81.past (grown_set (((w4.setCell ⟨w2.heap.size, 1, none⟩ (.int .i64 y)).setCell ⟨w.heap.size, 0, none⟩ (.int .i64 R.d)).setCell ⟨w.heap.size, 1, none⟩ (.int .i64 y)) (w.heap.size) 2 (.slice B R.m.length d)) (by omega)
    have r87 : At ((((w4.setCell ⟨w2.heap.size, 1, none⟩ (.int .i64 y)).setCell ⟨w.heap.size, 0, none⟩ (.int .i64 R.d)).setCell ⟨w.heap.size, 1, none⟩ (.int .i64 y)).setCell ⟨w.heap.size, 2, none⟩ (.slice B R.m.length d)) (w.heap.size) 25 #[.int .i64 R.d, .int .i64 y, .slice B R.m.length d, .bool false] := by simpa using r82.set 2 (.slice B R.m.length d)
    clear gr78 rd79 o80 t81 r82
    have gr88 := grown_newN gr83 (grown_set ((((w4.setCell ⟨w2.heap.size, 1, none⟩ (.int .i64 y)).setCell ⟨w.heap.size, 0, none⟩ (.int .i64 R.d)).setCell ⟨w.heap.size, 1, none⟩ (.int .i64 y)).setCell ⟨w.heap.size, 2, none⟩ (.slice B R.m.length d)) (w.heap.size) 3 (.bool R.b)) (by omega)
    have rd89 := rd84.far (show g < Addr.block ⟨w.heap.size, 3, none⟩ by simp only; omega) (.bool R.b)
    have o90 := o85.past4 r87 (grown_set ((((w4.setCell ⟨w2.heap.size, 1, none⟩ (.int .i64 y)).setCell ⟨w.heap.size, 0, none⟩ (.int .i64 R.d)).setCell ⟨w.heap.size, 1, none⟩ (.int .i64 y)).setCell ⟨w.heap.size, 2, none⟩ (.slice B R.m.length d)) (w.heap.size) 3 (.bool R.b))
    have t91 := t86.past (grown_set ((((w4.setCell ⟨w2.heap.size, 1, none⟩ (.int .i64 y)).setCell ⟨w.heap.size, 0, none⟩ (.int .i64 R.d)).setCell ⟨w.heap.size, 1, none⟩ (.int .i64 y)).setCell ⟨w.heap.size, 2, none⟩ (.slice B R.m.length d)) (w.heap.size) 3 (.bool R.b)) (by omega)
    have r92 : At (((((w4.setCell ⟨w2.heap.size, 1, none⟩ (.int .i64 y)).setCell ⟨w.heap.size, 0, none⟩ (.int .i64 R.d)).setCell ⟨w.heap.size, 1, none⟩ (.int .i64 y)).setCell ⟨w.heap.size, 2, none⟩ (.slice B R.m.length d)).setCell ⟨w.heap.size, 3, none⟩ (.bool R.b)) (w.heap.size) 25 #[.int .i64 R.d, .int .i64 y, .slice B R.m.length d, .bool R.b] := by simpa using r87.set 3 (.bool R.b)
    clear gr83 rd84 o85 t86 r87
    go_wp2
    refine bodyPost_ret (v := .agg #[.int .i64 R.d, .int .i64 y, .slice B R.m.length d, .bool R.b]) (by simp [results, Try.results29, go_sem, r92.cell]) rfl ?_
    exact ⟨⟨R.d, y, R.m, R.b⟩, B, d, _, rfl, o90.cap, by show R.m.length ≤ 8; omega, (SeesF.of_row o90.own.out (fun b h1 _ h2 => by omega)), gr88, rd89, by omega⟩
  have n1 : (x == 1) = false := beq_eq_false_iff_ne.2 x1
  by_cases x2 : x = 2
  · skip
    subst x2
    clear n0 x0 n1 x1
    obtain ⟨q0, q1, q2, q3, ql, qf⟩ := (⟨r20.cell 0, r20.cell 1, r20.cell 2, r20.cell 3, r20.lt, r20.frozen⟩ : _ ∧ _ ∧ _ ∧ _ ∧ _ ∧ _)
    obtain ⟨t0, t1, t2, t3, tl, tf⟩ := (⟨t22.cell 0, t22.cell 1, t22.cell 2, t22.cell 3, t22.lt, t22.frozen⟩ : _ ∧ _ ∧ _ ∧ _ ∧ _ ∧ _)
    have ne_qt : ¬ w.heap.size = w2.heap.size := by omega
    have ne_tq : ¬ w2.heap.size = w.heap.size := by omega
    have gr93 := grown_newN gr18 (grown_set w3 (w2.heap.size) 3 (.bool true)) (by omega)
    have rd94 := rd19.far (show g < Addr.block ⟨w2.heap.size, 3, none⟩ by simp only; omega) (.bool true)
    have r95 := r20.past (grown_set w3 (w2.heap.size) 3 (.bool true)) (by omega)
    have o96 := o21.past4 t22 (grown_set w3 (w2.heap.size) 3 (.bool true))
    have t97 : At (w3.setCell ⟨w2.heap.size, 3, none⟩ (.bool true)) (w2.heap.size) 25 #[.int .i64 R.d, .int .i64 R.w, .slice B R.m.length d, .bool true] := by simpa using t22.set 3 (.bool true)
    clear gr18 rd19 r20 o21 t22
    obtain ⟨q0, q1, q2, q3, ql, qf⟩ := (⟨r95.cell 0, r95.cell 1, r95.cell 2, r95.cell 3, r95.lt, r95.frozen⟩ : _ ∧ _ ∧ _ ∧ _ ∧ _ ∧ _)
    obtain ⟨t0, t1, t2, t3, tl, tf⟩ := (⟨t97.cell 0, t97.cell 1, t97.cell 2, t97.cell 3, t97.lt, t97.frozen⟩ : _ ∧ _ ∧ _ ∧ _ ∧ _ ∧ _)
    have ne_qt : ¬ w.heap.size = w2.heap.size := by omega
    have ne_tq : ¬ w2.heap.size = w.heap.size := by omega
    have gr98 := grown_newN gr93 (grown_set (w3.setCell ⟨w2.heap.size, 3, none⟩ (.bool true)) (w.heap.size) 0 (.int .i64 R.d)) (by omega)
    have rd99 := rd94.far (show g < Addr.block ⟨w.heap.size, 0, none⟩ by simp only; omega) (.int .i64 R.d)
    have o100 := o96.past4 r95 (grown_set (w3.setCell ⟨w2.heap.size, 3, none⟩ (.bool true)) (w.heap.size) 0 (.int .i64 R.d))
    have t101 := t97.past (grown_set (w3.setCell ⟨w2.heap.size, 3, none⟩ (.bool true)) (w.heap.size) 0 (.int .i64 R.d)) (by omega)
    have r102 : At ((w3.setCell ⟨w2.heap.size, 3, none⟩ (.bool true)).setCell ⟨w.heap.size, 0, none⟩ (.int .i64 R.d)) (w.heap.size) 25 #[.int .i64 R.d, .int .i64 0, .slice none 0 0, .bool false] := by simpa using r95.set 0 (.int .i64 R.d)
    clear gr93 rd94 o96 t97 r95
    have gr103 := grown_newN gr98 (grown_set ((w3.setCell ⟨w2.heap.size, 3, none⟩ (.bool true)).setCell ⟨w.heap.size, 0, none⟩ (.int .i64 R.d)) (w.heap.size) 1 (.int .i64 R.w)) (by omega)
    have rd104 := rd99.far (show g < Addr.block ⟨w.heap.size, 1, none⟩ by simp only; omega) (.int .i64 R.w)
    have o105 := o100.past4 r102 (grown_set ((w3.setCell ⟨w2.heap.size, 3, none⟩ (.bool true)).setCell ⟨w.heap.size, 0, none⟩ (.int .i64 R.d)) (w.heap.size) 1 (.int .i64 R.w))
    have t106 := t101.past (grown_set ((w3.setCell ⟨w2.heap.size, 3, none⟩ (.bool true)).setCell ⟨w.heap.size, 0, none⟩ (.int .i64 R.d)) (w.heap.size) 1 (.int .i64 R.w)) (by omega)
    have r107 : At (((w3.setCell ⟨w2.heap.size, 3, none⟩ (.bool true)).setCell ⟨w.heap.size, 0, none⟩ (.int .i64 R.d)).setCell ⟨w.heap.size, 1, none⟩ (.int .i64 R.w)) (w.heap.size) 25 #[.int .i64 R.d, .int .i64 R.w, .slice none 0 0, .bool false] := by simpa using r102.set 1 (.int .i64 R.w)
    clear gr98 rd99 o100 t101 r102
    have gr108 := grown_newN gr103 (grown_set (((w3.setCell ⟨w2.heap.size, 3, none⟩ (.bool true)).setCell ⟨w.heap.size, 0, none⟩ (.int .i64 R.d)).setCell ⟨w.heap.size, 1, none⟩ (.int .i64 R.w)) (w.heap.size) 2 (.slice B R.m.length d)) (by omega)
    have rd109 := rd104.far (show g < Addr.block ⟨w.heap.size, 2, none⟩ by simp only; omega) (.slice B R.m.length d)
    have o110 := o105.past4 r107 (grown_set (((w3.setCell ⟨w2.heap.size, 3, none⟩ (.bool true)).setCell ⟨w.heap.size, 0, none⟩ (.int .i64 R.d)).setCell ⟨w.heap.size, 1, none⟩ (.int .i64 R.w)) (w.heap.size) 2 (.slice B R.m.length d))
    have t111 := t106.past (grown_set (((w3.setCell ⟨w2.heap.size, 3, none⟩ (.bool true)).setCell ⟨w.heap.size, 0, none⟩ (.int .i64 R.d)).setCell ⟨w.heap.size, 1, none⟩ (.int .i64 R.w)) (w.heap.size) 2 (.slice B R.m.length d)) (by omega)
    have r112 : At ((((w3.setCell ⟨w2.heap.size, 3, none⟩ (.bool true)).setCell ⟨w.heap.size, 0, none⟩ (.int .i64 R.d)).setCell ⟨w.heap.size, 1, none⟩ (.int .i64 R.w)).setCell ⟨w.heap.size, 2, none⟩ (.slice B R.m.length d)) (w.heap.size) 25 #[.int .i64 R.d, .int .i64 R.w, .slice B R.m.length d, .bool false] := by simpa using r107.set 2 (.slice B R.m.length d)
    clear gr103 rd104 o105 t106 r107
    have gr113 := grown_newN gr108 (grown_set ((((w3.setCell ⟨w2.heap.size, 3, none⟩ (.bool true)).setCell ⟨w.heap.size, 0, none⟩ (.int .i64 R.d)).setCell ⟨w.heap.size, 1, none⟩ (.int .i64 R.w)).setCell ⟨w.heap.size, 2, none⟩ (.slice B R.m.length d)) (w.heap.size) 3 (.bool true)) (by omega)
    have rd114 := rd109.far (show g < Addr.block ⟨w.heap.size, 3, none⟩ by simp only; omega) (.bool true)
    have o115 := o110.past4 r112 (grown_set ((((w3.setCell ⟨w2.heap.size, 3, none⟩ (.bool true)).setCell ⟨w.heap.size, 0, none⟩ (.int .i64 R.d)).setCell ⟨w.heap.size, 1, none⟩ (.int .i64 R.w)).setCell ⟨w.heap.size, 2, none⟩ (.slice B R.m.length d)) (w.heap.size) 3 (.bool true))
    have t116 := t111.past (grown_set ((((w3.setCell ⟨w2.heap.size, 3, none⟩ (.bool true)).setCell ⟨w.heap.size, 0, none⟩ (.int .i64 R.d)).setCell ⟨w.heap.size, 1, none⟩ (.int .i64 R.w)).setCell ⟨w.heap.size, 2, none⟩ (.slice B R.m.length d)) (w.heap.size) 3 (.bool true)) (by omega)
    have r117 : At (((((w3.setCell ⟨w2.heap.size, 3, none⟩ (.bool true)).setCell ⟨w.heap.size, 0, none⟩ (.int .i64 R.d)).setCell ⟨w.heap.size, 1, none⟩ (.int .i64 R.w)).setCell ⟨w.heap.size, 2, none⟩ (.slice B R.m.length d)).setCell ⟨w.heap.size, 3, none⟩ (.bool true)) (w.heap.size) 25 #[.int .i64 R.d, .int .i64 R.w, .slice B R.m.length d, .bool true] := by simpa using r112.set 3 (.bool true)
    clear gr108 rd109 o110 t111 r112
    go_wp2
    refine bodyPost_ret (v := .agg #[.int .i64 R.d, .int .i64 R.w, .slice B R.m.length d, .bool true]) (by simp [results, Try.results29, go_sem, r117.cell]) rfl ?_
    exact ⟨⟨R.d, R.w, R.m, true⟩, B, d, _, rfl, o115.cap, by show R.m.length ≤ 8; omega, (SeesF.of_row o115.own.out (fun b h1 _ h2 => by omega)), gr113, rd114, by omega⟩
  have n2 : (x == 2) = false := beq_eq_false_iff_ne.2 x2
  by_cases x3 : x = 3
  · skip
    subst x3
    clear n0 x0 n1 x1 n2 x2
    obtain ⟨q0, q1, q2, q3, ql, qf⟩ := (⟨r20.cell 0, r20.cell 1, r20.cell 2, r20.cell 3, r20.lt, r20.frozen⟩ : _ ∧ _ ∧ _ ∧ _ ∧ _ ∧ _)
    obtain ⟨t0, t1, t2, t3, tl, tf⟩ := (⟨t22.cell 0, t22.cell 1, t22.cell 2, t22.cell 3, t22.lt, t22.frozen⟩ : _ ∧ _ ∧ _ ∧ _ ∧ _ ∧ _)
    have ne_qt : ¬ w.heap.size = w2.heap.size := by omega
    have ne_tq : ¬ w2.heap.size = w.heap.size := by omega
    go_wp2_with fail
    with_reducible refine (copyInts_any B d R.m _ o21.sees.marks (by omega)).mono ?_
    rintro e w4 ⟨v4, rfl, hc4, hb4⟩
    have sz4 : w3.heap.size ≤ w4.heap.size := Nat.le_trans (by first | exact Nat.le_refl _ | (simp; done) | (simp; omega)) (hb4.size)
    have gr118 := grown_trans gr18 (grown_of_below hb4 (some g))
    have rd119 := rd19.below hb4 rd19.lt
    have r120 := r20.below hb4 r20.lt
    have o121 := o21.below hb4
    have t122 := t22.below hb4 t22.lt
    clear gr18 rd19 r20 o21 t22 hb4
    clear q0 q1 q2 q3 ql qf t0 t1 t2 t3 tl tf ne_qt ne_tq
    have cp123 := own_mono hc4.out (show w.heap.size + 1 ≤ _ by omega)
    obtain ⟨Ac, cc, rfl, _, _⟩ := own_form hc4.out
    clear hc4
    have gr124 := grown_trans gr118 (grown_of_below ((Below.refl _ w4).alloc (Nat.le_refl _) (.cells #[.int .i64 2] 3)) (some g))
    have rd125 := rd119.alloc (.cells #[.int .i64 2] 3)
    have r126 := r120.alloc (.cells #[.int .i64 2] 3)
    have o127 := o121.alloc (.cells #[.int .i64 2] 3)
    have t128 := t122.alloc (.cells #[.int .i64 2] 3)
    have cp129 := own_alloc cp123 (.cells #[.int .i64 2] 3)
    clear gr118 rd119 r120 o121 t122 cp123
    have hlow := World.ownsRow.lt cp129
    go_wp2_with (at_builtin; refine wpList_append_own_at _ rfl _ _ 23 rfl (w.heap.size + 1) 3 i0 (.int .i64 0) 1 8 Try.underlying23 hi0 hz0 hz1 hz2 rfl (by decide) _ _ _ rfl cp129 ⟨w4.heap.size, 0, none⟩ 1 1 [.int .i64 2] rfl rfl (cell_one_new _ _ _) ?c2 ?c3 ?c4 ?c5 ?_)
    case c2 => simp [Value.oneCell']
    case c3 => unfold maxLen; omega
    case c4 => omega
    case c5 => first | omega | (simp; omega)
    case _ =>
      intro v5 w5 h6 hg5 _ _
      have sz5 : w4.heap.size + 1 ≤ w5.heap.size := Nat.le_trans (by first | exact Nat.le_refl _ | (simp; done)) hg5.size
      have gr130 := grown_lowN gr124 (Below.grown (Below.refl w.heap.size _) hg5 gr124.size (fun q hq => by have := (hlow q hq).1; omega)) (Nat.le_refl _)
      have rd131 := rd125.below (Below.grown (Below.refl (w.heap.size + 1) _) hg5 (by first | omega | (simp; omega)) (fun q hq => (hlow q hq).1)) (by omega)
      have r132 := r126.grown hg5 (fun e => row_ne cp129 r126 (by decide) e.symm)
      skip
      have t134 := t128.grown hg5 (fun e => row_ne cp129 t128 (by decide) e.symm)
      clear gr124 rd125 r126 o127 t128 cp129 hlow hg5
      obtain ⟨A6, c6, rfl, _, _⟩ := own_form h6
      have hs6 : Sees w5 w5.heap.size A6 (ints (R.m ++ [2])) := by rw [ints_app]; exact Sees.of_own h6
      clear h6
      obtain ⟨q0, q1, q2, q3, ql, qf⟩ := (⟨r132.cell 0, r132.cell 1, r132.cell 2, r132.cell 3, r132.lt, r132.frozen⟩ : _ ∧ _ ∧ _ ∧ _ ∧ _ ∧ _)
      obtain ⟨t0, t1, t2, t3, tl, tf⟩ := (⟨t134.cell 0, t134.cell 1, t134.cell 2, t134.cell 3, t134.lt, t134.frozen⟩ : _ ∧ _ ∧ _ ∧ _ ∧ _ ∧ _)
      have ne_qt : ¬ w.heap.size = w2.heap.size := by omega
      have ne_tq : ¬ w2.heap.size = w.heap.size := by omega
      go_wp2_with fail
      refine (spoilN_len (l := R.m ++ [2]) (by simp) hs6 rd131 (by omega) (by simp; omega)).mono ?_
      rintro e w6 ⟨A7, c7, zs, qs, rfl, hcap9, hz7, hS7, hg6, hr6, hqs⟩
      have sz6 := hg6.size
      have hlen9 : zs.length ≤ 8 := by omega
      clear hs6
      have gr135 := grown_trans gr130 hg6
      have rd136 := hr6
      have r137 := r132.past hg6 (by omega)
      have t138 := t134.past hg6 (by omega)
      clear gr130 rd131 r132 t134 hg6 hr6
      clear q0 q1 q2 q3 ql qf t0 t1 t2 t3 tl tf ne_qt ne_tq
      have sf139 := hS7
      clear hS7
      obtain ⟨q0, q1, q2, q3, ql, qf⟩ := (⟨r137.cell 0, r137.cell 1, r137.cell 2, r137.cell 3, r137.lt, r137.frozen⟩ : _ ∧ _ ∧ _ ∧ _ ∧ _ ∧ _)
      obtain ⟨t0, t1, t2, t3, tl, tf⟩ := (⟨t138.cell 0, t138.cell 1, t138.cell 2, t138.cell 3, t138.lt, t138.frozen⟩ : _ ∧ _ ∧ _ ∧ _ ∧ _ ∧ _)
      have ne_qt : ¬ w.heap.size = w2.heap.size := by omega
      have ne_tq : ¬ w2.heap.size = w.heap.size := by omega
      have gr140 := grown_newN gr135 (grown_set w6 (w2.heap.size) 2 (.slice A7 zs.length c7)) (by omega)
      have rd141 := rd136.far (show g < Addr.block ⟨w2.heap.size, 2, none⟩ by simp only; omega) (.slice A7 zs.length c7)
      have r142 := r137.past (grown_set w6 (w2.heap.size) 2 (.slice A7 zs.length c7)) (by omega)
      have sf143 := sf139.grown (grown_set w6 (w2.heap.size) 2 (.slice A7 zs.length c7)) (fun x e => by injection e with e; omega)
      have t144 : At (w6.setCell ⟨w2.heap.size, 2, none⟩ (.slice A7 zs.length c7)) (w2.heap.size) 25 #[.int .i64 R.d, .int .i64 R.w, .slice A7 zs.length c7, .bool R.b] := by simpa using t138.set 2 (.slice A7 zs.length c7)
      clear gr135 rd136 r137 sf139 t138
      obtain ⟨q0, q1, q2, q3, ql, qf⟩ := (⟨r142.cell 0, r142.cell 1, r142.cell 2, r142.cell 3, r142.lt, r142.frozen⟩ : _ ∧ _ ∧ _ ∧ _ ∧ _ ∧ _)
      obtain ⟨t0, t1, t2, t3, tl, tf⟩ := (⟨t144.cell 0, t144.cell 1, t144.cell 2, t144.cell 3, t144.lt, t144.frozen⟩ : _ ∧ _ ∧ _ ∧ _ ∧ _ ∧ _)
      have ne_qt : ¬ w.heap.size = w2.heap.size := by omega
      have ne_tq : ¬ w2.heap.size = w.heap.size := by omega
      have gr145 := grown_newN gr140 (grown_set (w6.setCell ⟨w2.heap.size, 2, none⟩ (.slice A7 zs.length c7)) (w.heap.size) 0 (.int .i64 R.d)) (by omega)
      have rd146 := rd141.far (show g < Addr.block ⟨w.heap.size, 0, none⟩ by simp only; omega) (.int .i64 R.d)
      have t147 := t144.past (grown_set (w6.setCell ⟨w2.heap.size, 2, none⟩ (.slice A7 zs.length c7)) (w.heap.size) 0 (.int .i64 R.d)) (by omega)
      have sf148 := sf143.grown (grown_set (w6.setCell ⟨w2.heap.size, 2, none⟩ (.slice A7 zs.length c7)) (w.heap.size) 0 (.int .i64 R.d)) (fun x e => by injection e with e; omega)
      have r149 : At ((w6.setCell ⟨w2.heap.size, 2, none⟩ (.slice A7 zs.length c7)).setCell ⟨w.heap.size, 0, none⟩ (.int .i64 R.d)) (w.heap.size) 25 #[.int .i64 R.d, .int .i64 0, .slice none 0 0, .bool false] := by simpa using r142.set 0 (.int .i64 R.d)
      clear gr140 rd141 t144 sf143 r142
      have gr150 := grown_newN gr145 (grown_set ((w6.setCell ⟨w2.heap.size, 2, none⟩ (.slice A7 zs.length c7)).setCell ⟨w.heap.size, 0, none⟩ (.int .i64 R.d)) (w.heap.size) 1 (.int .i64 R.w)) (by omega)
      have rd151 := rd146.far (show g < Addr.block ⟨w.heap.size, 1, none⟩ by simp only; omega) (.int .i64 R.w)
      have t152 := t147.past (grown_set ((w6.setCell ⟨w2.heap.size, 2, none⟩ (.slice A7 zs.length c7)).setCell ⟨w.heap.size, 0, none⟩ (.int .i64 R.d)) (w.heap.size) 1 (.int .i64 R.w)) (by omega)
      have sf153 := sf148.grown (grown_set ((w6.setCell ⟨w2.heap.size, 2, none⟩ (.slice A7 zs.length c7)).setCell ⟨w.heap.size, 0, none⟩ (.int .i64 R.d)) (w.heap.size) 1 (.int .i64 R.w)) (fun x e => by injection e with e; omega)
      have r154 : At (((w6.setCell ⟨w2.heap.size, 2, none⟩ (.slice A7 zs.length c7)).setCell ⟨w.heap.size, 0, none⟩ (.int .i64 R.d)).setCell ⟨w.heap.size, 1, none⟩ (.int .i64 R.w)) (w.heap.size) 25 #[.int .i64 R.d, .int .i64 R.w, .slice none 0 0, .bool false] := by simpa using r149.set 1 (.int .i64 R.w)
      clear gr145 rd146 t147 sf148 r149
      have gr155 := grown_newN gr150 (grown_set (((w6.setCell ⟨w2.heap.size, 2, none⟩ (.slice A7 zs.length c7)).setCell ⟨w.heap.size, 0, none⟩ (.int .i64 R.d)).setCell ⟨w.heap.size, 1, none⟩ (.int .i64 R.w)) (w.heap.size) 2 (.slice A7 zs.length c7)) (by omega)
      have rd156 := rd151.far (show g < Addr.block ⟨w.heap.size, 2, none⟩ by simp only; omega) (.slice A7 zs.length c7)
      have t157 := t152.past (grown_set (((w6.setCell ⟨w2.heap.size, 2, none⟩ (.slice A7 zs.length c7)).setCell ⟨w.heap.size, 0, none⟩ (.int .i64 R.d)).setCell ⟨w.heap.size, 1, none⟩ (.int .i64 R.w)) (w.heap.size) 2 (.slice A7 zs.length c7)) (by omega)
      have sf158 := sf153.grown (grown_set (((w6.setCell ⟨w2.heap.size, 2, none⟩ (.slice A7 zs.length c7)).setCell ⟨w.heap.size, 0, none⟩ (.int .i64 R.d)).setCell ⟨w.heap.size, 1, none⟩ (.int .i64 R.w)) (w.heap.size) 2 (.slice A7 zs.length c7)) (fun x e => by injection e with e; omega)
      have r159 : At ((((w6.setCell ⟨w2.heap.size, 2, none⟩ (.slice A7 zs.length c7)).setCell ⟨w.heap.size, 0, none⟩ (.int .i64 R.d)).setCell ⟨w.heap.size, 1, none⟩ (.int .i64 R.w)).setCell ⟨w.heap.size, 2, none⟩ (.slice A7 zs.length c7)) (w.heap.size) 25 #[.int .i64 R.d, .int .i64 R.w, .slice A7 zs.length c7, .bool false] := by simpa using r154.set 2 (.slice A7 zs.length c7)
      clear gr150 rd151 t152 sf153 r154
      have gr160 := grown_newN gr155 (grown_set ((((w6.setCell ⟨w2.heap.size, 2, none⟩ (.slice A7 zs.length c7)).setCell ⟨w.heap.size, 0, none⟩ (.int .i64 R.d)).setCell ⟨w.heap.size, 1, none⟩ (.int .i64 R.w)).setCell ⟨w.heap.size, 2, none⟩ (.slice A7 zs.length c7)) (w.heap.size) 3 (.bool R.b)) (by omega)
      have rd161 := rd156.far (show g < Addr.block ⟨w.heap.size, 3, none⟩ by simp only; omega) (.bool R.b)
      have t162 := t157.past (grown_set ((((w6.setCell ⟨w2.heap.size, 2, none⟩ (.slice A7 zs.length c7)).setCell ⟨w.heap.size, 0, none⟩ (.int .i64 R.d)).setCell ⟨w.heap.size, 1, none⟩ (.int .i64 R.w)).setCell ⟨w.heap.size, 2, none⟩ (.slice A7 zs.length c7)) (w.heap.size) 3 (.bool R.b)) (by omega)
      have sf163 := sf158.grown (grown_set ((((w6.setCell ⟨w2.heap.size, 2, none⟩ (.slice A7 zs.length c7)).setCell ⟨w.heap.size, 0, none⟩ (.int .i64 R.d)).setCell ⟨w.heap.size, 1, none⟩ (.int .i64 R.w)).setCell ⟨w.heap.size, 2, none⟩ (.slice A7 zs.length c7)) (w.heap.size) 3 (.bool R.b)) (fun x e => by injection e with e; omega)
      have r164 : At (((((w6.setCell ⟨w2.heap.size, 2, none⟩ (.slice A7 zs.length c7)).setCell ⟨w.heap.size, 0, none⟩ (.int .i64 R.d)).setCell ⟨w.heap.size, 1, none⟩ (.int .i64 R.w)).setCell ⟨w.heap.size, 2, none⟩ (.slice A7 zs.length c7)).setCell ⟨w.heap.size, 3, none⟩ (.bool R.b)) (w.heap.size) 25 #[.int .i64 R.d, .int .i64 R.w, .slice A7 zs.length c7, .bool R.b] := by simpa using r159.set 3 (.bool R.b)
      clear gr155 rd156 t157 sf158 r159
      go_wp2
      refine bodyPost_ret (v := .agg #[.int .i64 R.d, .int .i64 R.w, .slice A7 zs.length c7, .bool R.b]) (by simp [results, Try.results29, go_sem, r164.cell]) rfl ?_
      exact ⟨⟨R.d, R.w, zs, R.b⟩, A7, c7, _, rfl, hcap9, hlen9, sf163.imp (fun b _ hb => by omega), gr160, rd161, by omega⟩
  have n3 : (x == 3) = false := beq_eq_false_iff_ne.2 x3
  · skip
    clear x0 x1 x2 x3
    obtain ⟨q0, q1, q2, q3, ql, qf⟩ := (⟨r20.cell 0, r20.cell 1, r20.cell 2, r20.cell 3, r20.lt, r20.frozen⟩ : _ ∧ _ ∧ _ ∧ _ ∧ _ ∧ _)
    obtain ⟨t0, t1, t2, t3, tl, tf⟩ := (⟨t22.cell 0, t22.cell 1, t22.cell 2, t22.cell 3, t22.lt, t22.frozen⟩ : _ ∧ _ ∧ _ ∧ _ ∧ _ ∧ _)
    have ne_qt : ¬ w.heap.size = w2.heap.size := by omega
    have ne_tq : ¬ w2.heap.size = w.heap.size := by omega
    obtain ⟨q0, q1, q2, q3, ql, qf⟩ := (⟨r20.cell 0, r20.cell 1, r20.cell 2, r20.cell 3, r20.lt, r20.frozen⟩ : _ ∧ _ ∧ _ ∧ _ ∧ _ ∧ _)
    obtain ⟨t0, t1, t2, t3, tl, tf⟩ := (⟨t22.cell 0, t22.cell 1, t22.cell 2, t22.cell 3, t22.lt, t22.frozen⟩ : _ ∧ _ ∧ _ ∧ _ ∧ _ ∧ _)
    have ne_qt : ¬ w.heap.size = w2.heap.size := by omega
    have ne_tq : ¬ w2.heap.size = w.heap.size := by omega
    have gr165 := grown_newN gr18 (grown_set w3 (w.heap.size) 0 (.int .i64 R.d)) (by omega)
    have rd166 := rd19.far (show g < Addr.block ⟨w.heap.size, 0, none⟩ by simp only; omega) (.int .i64 R.d)
    have o167 := o21.past4 r20 (grown_set w3 (w.heap.size) 0 (.int .i64 R.d))
    have t168 := t22.past (grown_set w3 (w.heap.size) 0 (.int .i64 R.d)) (by omega)
    have r169 : At (w3.setCell ⟨w.heap.size, 0, none⟩ (.int .i64 R.d)) (w.heap.size) 25 #[.int .i64 R.d, .int .i64 0, .slice none 0 0, .bool false] := by simpa using r20.set 0 (.int .i64 R.d)
    clear gr18 rd19 o21 t22 r20
    have gr170 := grown_newN gr165 (grown_set (w3.setCell ⟨w.heap.size, 0, none⟩ (.int .i64 R.d)) (w.heap.size) 1 (.int .i64 R.w)) (by omega)
    have rd171 := rd166.far (show g < Addr.block ⟨w.heap.size, 1, none⟩ by simp only; omega) (.int .i64 R.w)
    have o172 := o167.past4 r169 (grown_set (w3.setCell ⟨w.heap.size, 0, none⟩ (.int .i64 R.d)) (w.heap.size) 1 (.int .i64 R.w))
    have t173 := t168.past (grown_set (w3.setCell ⟨w.heap.size, 0, none⟩ (.int .i64 R.d)) (w.heap.size) 1 (.int .i64 R.w)) (by omega)
    have r174 : At ((w3.setCell ⟨w.heap.size, 0, none⟩ (.int .i64 R.d)).setCell ⟨w.heap.size, 1, none⟩ (.int .i64 R.w)) (w.heap.size) 25 #[.int .i64 R.d, .int .i64 R.w, .slice none 0 0, .bool false] := by simpa using r169.set 1 (.int .i64 R.w)
    clear gr165 rd166 o167 t168 r169
    have gr175 := grown_newN gr170 (grown_set ((w3.setCell ⟨w.heap.size, 0, none⟩ (.int .i64 R.d)).setCell ⟨w.heap.size, 1, none⟩ (.int .i64 R.w)) (w.heap.size) 2 (.slice B R.m.length d)) (by omega)
    have rd176 := rd171.far (show g < Addr.block ⟨w.heap.size, 2, none⟩ by simp only; omega) (.slice B R.m.length d)
    have o177 := o172.past4 r174 (grown_set ((w3.setCell ⟨w.heap.size, 0, none⟩ (.int .i64 R.d)).setCell ⟨w.heap.size, 1, none⟩ (.int .i64 R.w)) (w.heap.size) 2 (.slice B R.m.length d))
    have t178 := t173.past (grown_set ((w3.setCell ⟨w.heap.size, 0, none⟩ (.int .i64 R.d)).setCell ⟨w.heap.size, 1, none⟩ (.int .i64 R.w)) (w.heap.size) 2 (.slice B R.m.length d)) (by omega)
    have r179 : At (((w3.setCell ⟨w.heap.size, 0, none⟩ (.int .i64 R.d)).setCell ⟨w.heap.size, 1, none⟩ (.int .i64 R.w)).setCell ⟨w.heap.size, 2, none⟩ (.slice B R.m.length d)) (w.heap.size) 25 #[.int .i64 R.d, .int .i64 R.w, .slice B R.m.length d, .bool false] := by simpa using r174.set 2 (.slice B R.m.length d)
    clear gr170 rd171 o172 t173 r174
    have gr180 := grown_newN gr175 (grown_set (((w3.setCell ⟨w.heap.size, 0, none⟩ (.int .i64 R.d)).setCell ⟨w.heap.size, 1, none⟩ (.int .i64 R.w)).setCell ⟨w.heap.size, 2, none⟩ (.slice B R.m.length d)) (w.heap.size) 3 (.bool R.b)) (by omega)
    have rd181 := rd176.far (show g < Addr.block ⟨w.heap.size, 3, none⟩ by simp only; omega) (.bool R.b)
    have o182 := o177.past4 r179 (grown_set (((w3.setCell ⟨w.heap.size, 0, none⟩ (.int .i64 R.d)).setCell ⟨w.heap.size, 1, none⟩ (.int .i64 R.w)).setCell ⟨w.heap.size, 2, none⟩ (.slice B R.m.length d)) (w.heap.size) 3 (.bool R.b))
    have t183 := t178.past (grown_set (((w3.setCell ⟨w.heap.size, 0, none⟩ (.int .i64 R.d)).setCell ⟨w.heap.size, 1, none⟩ (.int .i64 R.w)).setCell ⟨w.heap.size, 2, none⟩ (.slice B R.m.length d)) (w.heap.size) 3 (.bool R.b)) (by omega)
    have r184 : At ((((w3.setCell ⟨w.heap.size, 0, none⟩ (.int .i64 R.d)).setCell ⟨w.heap.size, 1, none⟩ (.int .i64 R.w)).setCell ⟨w.heap.size, 2, none⟩ (.slice B R.m.length d)).setCell ⟨w.heap.size, 3, none⟩ (.bool R.b)) (w.heap.size) 25 #[.int .i64 R.d, .int .i64 R.w, .slice B R.m.length d, .bool R.b] := by simpa using r179.set 3 (.bool R.b)
    clear gr175 rd176 o177 t178 r179
    go_wp2
    refine bodyPost_ret (v := .agg #[.int .i64 R.d, .int .i64 R.w, .slice B R.m.length d, .bool R.b]) (by simp [results, Try.results29, go_sem, r184.cell]) rfl ?_
    exact ⟨R, B, d, _, rfl, o182.cap, by show R.m.length ≤ 8; omega, (SeesF.of_row o182.own.out (fun b h1 _ h2 => by omega)), gr180, rd181, by omega⟩

end Go.Proofs.Ytocaddibdiikpaa

/-
  What the program's RunNest, KeptWork and CleanUp answer. Condition: the lists lie in memory.
-/
import Derived.Test.YtocaddibdiikpaaNsD
import Derived.Test.YtocaddibdiikpaaApp
namespace Go.Proofs.Ytocaddibdiikpaa
open Go.RowKit Nes

theorem acc_no {l : List Int} {k : Nat} (h : k < l.length) (hs : stepB (acc (l.take k)).s l[k] = false) : (acc (l.take (k + 1))).s = (acc (l.take k)).s ∧ (acc (l.take (k + 1))).bad = (acc (l.take k)).bad + 1 ∧ (acc (l.take (k + 1))).kept = (acc (l.take k)).kept := by
  rw [acc_take h, astep, if_neg (by simp [hs])]
  exact ⟨rfl, rfl, rfl⟩
theorem acc_yes {l : List Int} {k : Nat} (h : k < l.length) (hs : stepB (acc (l.take k)).s l[k] = true) : (acc (l.take (k + 1))).s = stepS (acc (l.take k)).s l[k] ∧ (acc (l.take (k + 1))).bad = (acc (l.take k)).bad ∧ (acc (l.take (k + 1))).kept = (acc (l.take k)).kept + if l[k] = 3 ∧ (stepS (acc (l.take k)).s l[k]).d = 0 then (acc (l.take k)).s.w else 0 := by
  rw [acc_take h, astep, if_pos hs, stepS_yes hs]
  exact ⟨rfl, rfl, rfl⟩
theorem acc_bd {l : List Int} (h : l.length ≤ 16) (k : Nat) : 0 ≤ (acc (l.take k)).bad ∧ (acc (l.take k)).bad ≤ 16 ∧ 0 ≤ (acc (l.take k)).kept ∧ (acc (l.take k)).kept ≤ 16 := by
  have h1 := acc_bad (l.take k)
  have h2 := acc_kept (l.take k)
  have h3 : (l.take k).length ≤ 16 := by rw [List.length_take]; omega
  omega
/-- A state that a call made, and a number. -/
def RunAns (l : List Int) (w : World) (e : Ending) (w' : World) : Prop :=
  ∃ A1 c1, e = .returned (.tuple #[.agg #[.int .i64 (runS l).d, .int .i64 (runS l).w, .slice A1 (runS l).m.length c1, .bool (runS l).b], .int .i64 (runV l)]) ∧ OwnM w' w.heap.size A1 c1 (runS l) ∧ Below w.heap.size w w'
set_option maxHeartbeats 8000000 in
theorem iRunNest_any (A : Option Addr) (c : Nat) (l : List Int) (w : World) (h : Sees w w.heap.size A (ints l)) (hn : l.length ≤ 4194304) :
    Calls Try.prog 18 #[.slice A l.length c] w (RunAns l w) := by
  have HN := hid hn
  clear hn
  by_cases hl : l.length ≤ 16
  · skip
    have HL := hid hl
    have hl16 : (l.length : Int) ≤ 16 := by omega
    have hl17 : ¬ (l.length : Int) > 16 := by omega
    have hl18 : ¬ (16 : Int) < (l.length : Int) := by omega
    clear hl
    have hB1 := Below.refl w.heap.size w
    have hB2 := hB1.alloc hB1.size (.cells #[.int .i64 0, .int .i64 0, .slice none 0 0, .bool false] 25)
    clear hB1
    have r3 : At (w.alloc (.cells #[.int .i64 0, .int .i64 0, .slice none 0 0, .bool false] 25)) (w.heap.size) 25 #[.int .i64 0, .int .i64 0, .slice none 0 0, .bool false] := At.newAt _ _ (by first | rfl | (simp; done) | (simp; omega))
    have hB4 := hB2.alloc hB2.size (.cells #[.int .i64 0, .int .i64 0, .slice none 0 0, .bool false] 25)
    have r5 := r3.alloc (.cells #[.int .i64 0, .int .i64 0, .slice none 0 0, .bool false] 25)
    clear hB2 r3
    have t6 : At ((w.alloc (.cells #[.int .i64 0, .int .i64 0, .slice none 0 0, .bool false] 25)).alloc (.cells #[.int .i64 0, .int .i64 0, .slice none 0 0, .bool false] 25)) (w.heap.size + 1) 25 #[.int .i64 0, .int .i64 0, .slice none 0 0, .bool false] := At.newAt _ _ (by first | rfl | (simp; done) | (simp; omega))
    go_enter Try.func18, Try.ntmps18
    obtain ⟨q0, q1, q2, q3, ql, qf⟩ := (⟨r5.cell 0, r5.cell 1, r5.cell 2, r5.cell 3, r5.lt, r5.frozen⟩ : _ ∧ _ ∧ _ ∧ _ ∧ _ ∧ _)
    obtain ⟨y0, y1, y2, y3, yl, yf⟩ := (⟨t6.cell 0, t6.cell 1, t6.cell 2, t6.cell 3, t6.lt, t6.frozen⟩ : _ ∧ _ ∧ _ ∧ _ ∧ _ ∧ _)
    have ne_qy : ¬ w.heap.size = w.heap.size + 1 := by omega
    have ne_yq : ¬ w.heap.size + 1 = w.heap.size := by omega
    go_wp2_with fail
    go_loopw [5, 17] (fun n i wr => ∃ (k : Nat) (B : Option Addr) (d : Nat) (S : Nst) (N : Int), k ≤ l.length ∧ i = .int .i64 k ∧ n = .int .i64 N ∧ Hid (S = (acc (l.take k)).s) ∧ Hid (N = (acc (l.take k)).bad) ∧ At wr (w.heap.size + 1) 25 #[.int .i64 S.d, .int .i64 S.w, .slice B S.m.length d, .bool S.b] ∧ OwnM wr (w.heap.size + 1) B d S ∧ Below w.heap.size w wr ∧ At wr w.heap.size 25 #[.int .i64 0, .int .i64 0, .slice none 0 0, .bool false]) (fun _ i _ => l.length - (intOf i).toNat)
    case atStart => exact ⟨0, none, 0, zeroN, 0, Nat.zero_le _, rfl, rfl, hid rfl, hid rfl, t6, OwnM.zero _ _, hB4, r5⟩
    case round =>
      clear hB4 r5 t6 q0 q1 q2 q3 ql qf y0 y1 y2 y3 yl yf ne_qy ne_yq
      obtain ⟨k, B, d, S, N, hk, rfl, rfl, HS, HNN, t0, o0, hB0, r0⟩ := hrel
      have t7 := t0
      clear t0
      have o8 := o0
      clear o0
      have hB9 := hB0
      clear hB0
      have r10 := r0
      clear r0
      have szr : w.heap.size + 1 < wr.heap.size := t7.lt
      have hok := hid (show Ok S by rw [HS.out]; exact acc_ok _)
      have HS4 := hid (show S.m.length ≤ 4194304 from Nat.le_trans (ok_len hok.out) (by decide))
      have HW := hid hok.out.2.1
      by_cases hlt : k < l.length
      · skip
        have hi : (k : Int) < (l.length : Int) := by omega
        obtain ⟨b, o, rfl, hbl, hc⟩ := (h.below hB9).int hlt
        have HKC := hid (fun (w1 : World) (hb1 : Below w.heap.size w w1) => Sees.cellAt (h.below hb1) hlt)
        have HNO := hid (fun e => acc_no hlt e)
        have HYES := hid (fun e => acc_yes hlt e)
        obtain ⟨hn1, hn2⟩ : 0 ≤ N ∧ N ≤ 16 := by rw [HNN.out]; have := acc_bd HL.out k; omega
        rw [← HS.out, ← HNN.out] at HNO HYES
        obtain ⟨x, hx⟩ : ∃ x, x = l[k] := ⟨_, rfl⟩
        rw [← hx] at hc HNO HYES HKC
        clear hx
        have hw1 : IntKind.i64.wrap (N + 1) = N + 1 := by rw [IntKind.wrap_i64]; omega
        obtain ⟨R, hR⟩ : ∃ R, R = stepS S x := ⟨_, rfl⟩
        have ER : Hid (stepS S x = R) := hid hR.symm
        rw [← hR] at HYES
        clear hR
        rcases hk2 : stepB S x with _ | _
        · skip
          obtain ⟨e1, e2, e3⟩ := HNO.out hk2
          have E1 := hid e1
          have E2 := hid e2
          have E3 := hid e3
          have EK := hid hk2
          clear e1 e2 e3 hk2
          obtain ⟨y0, y1, y2, y3, yl, yf⟩ := (⟨t7.cell 0, t7.cell 1, t7.cell 2, t7.cell 3, t7.lt, t7.frozen⟩ : _ ∧ _ ∧ _ ∧ _ ∧ _ ∧ _)
          obtain ⟨q0, q1, q2, q3, ql, qf⟩ := (⟨r10.cell 0, r10.cell 1, r10.cell 2, r10.cell 3, r10.lt, r10.frozen⟩ : _ ∧ _ ∧ _ ∧ _ ∧ _ ∧ _)
          have ne_yq : ¬ w.heap.size + 1 = w.heap.size := by omega
          have ne_qy : ¬ w.heap.size = w.heap.size + 1 := by omega
          go_wp2_with fail
          refine (iStepNest_any S x B d _ o8.sees o8.cap HS4.out).mono ?_
          rintro e w1 ⟨A1, c1, he, ho1, hb1⟩
          rw [ER.out, EK.out] at he
          rw [ER.out] at ho1
          subst he
          have sz1 : wr.heap.size ≤ w1.heap.size := Nat.le_trans (by first | exact Nat.le_refl _ | (simp; done) | (simp; omega)) (hb1.size)
          have t11 := t7.below hb1 t7.lt
          have o12 := o8.below hb1
          have hB13 := hB9.trans (hb1.mono hB9.size)
          have r14 := r10.below hb1 r10.lt
          clear t7 o8 hB9 r10
          clear y0 y1 y2 y3 yl yf q0 q1 q2 q3 ql qf ne_yq ne_qy
          have p15 : OwnM w1 (w.heap.size + 1) A1 c1 R := OwnM.mono ho1 (by omega)
          clear ho1
          have t16 := t11.alloc (.cells #[.int .i64 R.d, .int .i64 R.w, .slice A1 R.m.length c1, .bool R.b] 25)
          have o17 := o12.alloc (.cells #[.int .i64 R.d, .int .i64 R.w, .slice A1 R.m.length c1, .bool R.b] 25)
          have hB18 := hB13.alloc hB13.size (.cells #[.int .i64 R.d, .int .i64 R.w, .slice A1 R.m.length c1, .bool R.b] 25)
          have r19 := r14.alloc (.cells #[.int .i64 R.d, .int .i64 R.w, .slice A1 R.m.length c1, .bool R.b] 25)
          have p20 := p15.alloc (.cells #[.int .i64 R.d, .int .i64 R.w, .slice A1 R.m.length c1, .bool R.b] 25)
          clear t11 o12 hB13 r14 p15
          have n21 : At (w1.alloc (.cells #[.int .i64 R.d, .int .i64 R.w, .slice A1 R.m.length c1, .bool R.b] 25)) (w1.heap.size) 25 #[.int .i64 R.d, .int .i64 R.w, .slice A1 R.m.length c1, .bool R.b] := At.newAt _ _ (by first | rfl | (simp; done) | (simp; omega))
          skip
          obtain ⟨y0, y1, y2, y3, yl, yf⟩ := (⟨t16.cell 0, t16.cell 1, t16.cell 2, t16.cell 3, t16.lt, t16.frozen⟩ : _ ∧ _ ∧ _ ∧ _ ∧ _ ∧ _)
          obtain ⟨q0, q1, q2, q3, ql, qf⟩ := (⟨r19.cell 0, r19.cell 1, r19.cell 2, r19.cell 3, r19.lt, r19.frozen⟩ : _ ∧ _ ∧ _ ∧ _ ∧ _ ∧ _)
          obtain ⟨z0, z1, z2, z3, zl, zf⟩ := (⟨n21.cell 0, n21.cell 1, n21.cell 2, n21.cell 3, n21.lt, n21.frozen⟩ : _ ∧ _ ∧ _ ∧ _ ∧ _ ∧ _)
          have ne_yq : ¬ w.heap.size + 1 = w.heap.size := by omega
          have ne_qy : ¬ w.heap.size = w.heap.size + 1 := by omega
          have ne_yz : ¬ w.heap.size + 1 = w1.heap.size := by omega
          have ne_zy : ¬ w1.heap.size = w.heap.size + 1 := by omega
          have ne_qz : ¬ w.heap.size = w1.heap.size := by omega
          have ne_zq : ¬ w1.heap.size = w.heap.size := by omega
          go_wp2
          go_roundw
          case rel => exact ⟨k + 1, B, d, S, (N + 1), by omega, by go_num, by first | rfl | go_num, hid E1.out.symm, hid (E2.out.symm), t16, o17, hB18, r19⟩
          case measure => simp [intOf]; omega
        · skip
          obtain ⟨e1, e2, e3⟩ := HYES.out hk2
          have E1 := hid e1
          have E2 := hid e2
          have E3 := hid e3
          have EK := hid hk2
          clear e1 e2 e3 hk2
          obtain ⟨y0, y1, y2, y3, yl, yf⟩ := (⟨t7.cell 0, t7.cell 1, t7.cell 2, t7.cell 3, t7.lt, t7.frozen⟩ : _ ∧ _ ∧ _ ∧ _ ∧ _ ∧ _)
          obtain ⟨q0, q1, q2, q3, ql, qf⟩ := (⟨r10.cell 0, r10.cell 1, r10.cell 2, r10.cell 3, r10.lt, r10.frozen⟩ : _ ∧ _ ∧ _ ∧ _ ∧ _ ∧ _)
          have ne_yq : ¬ w.heap.size + 1 = w.heap.size := by omega
          have ne_qy : ¬ w.heap.size = w.heap.size + 1 := by omega
          go_wp2_with fail
          refine (iStepNest_any S x B d _ o8.sees o8.cap HS4.out).mono ?_
          rintro e w1 ⟨A1, c1, he, ho1, hb1⟩
          rw [ER.out, EK.out] at he
          rw [ER.out] at ho1
          subst he
          have sz1 : wr.heap.size ≤ w1.heap.size := Nat.le_trans (by first | exact Nat.le_refl _ | (simp; done) | (simp; omega)) (hb1.size)
          have t22 := t7.below hb1 t7.lt
          have o23 := o8.below hb1
          have hB24 := hB9.trans (hb1.mono hB9.size)
          have r25 := r10.below hb1 r10.lt
          clear t7 o8 hB9 r10
          clear y0 y1 y2 y3 yl yf q0 q1 q2 q3 ql qf ne_yq ne_qy
          have p26 : OwnM w1 (w.heap.size + 1) A1 c1 R := OwnM.mono ho1 (by omega)
          clear ho1
          have t27 := t22.alloc (.cells #[.int .i64 R.d, .int .i64 R.w, .slice A1 R.m.length c1, .bool R.b] 25)
          have o28 := o23.alloc (.cells #[.int .i64 R.d, .int .i64 R.w, .slice A1 R.m.length c1, .bool R.b] 25)
          have hB29 := hB24.alloc hB24.size (.cells #[.int .i64 R.d, .int .i64 R.w, .slice A1 R.m.length c1, .bool R.b] 25)
          have r30 := r25.alloc (.cells #[.int .i64 R.d, .int .i64 R.w, .slice A1 R.m.length c1, .bool R.b] 25)
          have p31 := p26.alloc (.cells #[.int .i64 R.d, .int .i64 R.w, .slice A1 R.m.length c1, .bool R.b] 25)
          clear t22 o23 hB24 r25 p26
          have n32 : At (w1.alloc (.cells #[.int .i64 R.d, .int .i64 R.w, .slice A1 R.m.length c1, .bool R.b] 25)) (w1.heap.size) 25 #[.int .i64 R.d, .int .i64 R.w, .slice A1 R.m.length c1, .bool R.b] := At.newAt _ _ (by first | rfl | (simp; done) | (simp; omega))
          obtain ⟨y0, y1, y2, y3, yl, yf⟩ := (⟨t27.cell 0, t27.cell 1, t27.cell 2, t27.cell 3, t27.lt, t27.frozen⟩ : _ ∧ _ ∧ _ ∧ _ ∧ _ ∧ _)
          obtain ⟨q0, q1, q2, q3, ql, qf⟩ := (⟨r30.cell 0, r30.cell 1, r30.cell 2, r30.cell 3, r30.lt, r30.frozen⟩ : _ ∧ _ ∧ _ ∧ _ ∧ _ ∧ _)
          obtain ⟨z0, z1, z2, z3, zl, zf⟩ := (⟨n32.cell 0, n32.cell 1, n32.cell 2, n32.cell 3, n32.lt, n32.frozen⟩ : _ ∧ _ ∧ _ ∧ _ ∧ _ ∧ _)
          have ne_yq : ¬ w.heap.size + 1 = w.heap.size := by omega
          have ne_qy : ¬ w.heap.size = w.heap.size + 1 := by omega
          have ne_yz : ¬ w.heap.size + 1 = w1.heap.size := by omega
          have ne_zy : ¬ w1.heap.size = w.heap.size + 1 := by omega
          have ne_qz : ¬ w.heap.size = w1.heap.size := by omega
          have ne_zq : ¬ w1.heap.size = w.heap.size := by omega
          have o33 := o28.past4 t27 (grown_set (w1.alloc (.cells #[.int .i64 R.d, .int .i64 R.w, .slice A1 R.m.length c1, .bool R.b] 25)) (w.heap.size + 1) 0 (.int .i64 R.d))
          have hB34 := below_put hB29 (grown_set (w1.alloc (.cells #[.int .i64 R.d, .int .i64 R.w, .slice A1 R.m.length c1, .bool R.b] 25)) (w.heap.size + 1) 0 (.int .i64 R.d)) (by omega) (by have := hB29.size; omega)
          have r35 := r30.past (grown_set (w1.alloc (.cells #[.int .i64 R.d, .int .i64 R.w, .slice A1 R.m.length c1, .bool R.b] 25)) (w.heap.size + 1) 0 (.int .i64 R.d)) (by omega)
          have p36 := p31.past4 t27 (grown_set (w1.alloc (.cells #[.int .i64 R.d, .int .i64 R.w, .slice A1 R.m.length c1, .bool R.b] 25)) (w.heap.size + 1) 0 (.int .i64 R.d))
          have n37 := n32.past (grown_set (w1.alloc (.cells #[.int .i64 R.d, .int .i64 R.w, .slice A1 R.m.length c1, .bool R.b] 25)) (w.heap.size + 1) 0 (.int .i64 R.d)) (by omega)
          have t38 : At ((w1.alloc (.cells #[.int .i64 R.d, .int .i64 R.w, .slice A1 R.m.length c1, .bool R.b] 25)).setCell ⟨w.heap.size + 1, 0, none⟩ (.int .i64 R.d)) (w.heap.size + 1) 25 #[.int .i64 R.d, .int .i64 S.w, .slice B S.m.length d, .bool S.b] := by simpa using t27.set 0 (.int .i64 R.d)
          clear o28 hB29 r30 p31 n32 t27
          have o39 := o33.past4 t38 (grown_set ((w1.alloc (.cells #[.int .i64 R.d, .int .i64 R.w, .slice A1 R.m.length c1, .bool R.b] 25)).setCell ⟨w.heap.size + 1, 0, none⟩ (.int .i64 R.d)) (w.heap.size + 1) 1 (.int .i64 R.w))
          have hB40 := below_put hB34 (grown_set ((w1.alloc (.cells #[.int .i64 R.d, .int .i64 R.w, .slice A1 R.m.length c1, .bool R.b] 25)).setCell ⟨w.heap.size + 1, 0, none⟩ (.int .i64 R.d)) (w.heap.size + 1) 1 (.int .i64 R.w)) (by omega) (by have := hB34.size; omega)
          have r41 := r35.past (grown_set ((w1.alloc (.cells #[.int .i64 R.d, .int .i64 R.w, .slice A1 R.m.length c1, .bool R.b] 25)).setCell ⟨w.heap.size + 1, 0, none⟩ (.int .i64 R.d)) (w.heap.size + 1) 1 (.int .i64 R.w)) (by omega)
          have p42 := p36.past4 t38 (grown_set ((w1.alloc (.cells #[.int .i64 R.d, .int .i64 R.w, .slice A1 R.m.length c1, .bool R.b] 25)).setCell ⟨w.heap.size + 1, 0, none⟩ (.int .i64 R.d)) (w.heap.size + 1) 1 (.int .i64 R.w))
          have n43 := n37.past (grown_set ((w1.alloc (.cells #[.int .i64 R.d, .int .i64 R.w, .slice A1 R.m.length c1, .bool R.b] 25)).setCell ⟨w.heap.size + 1, 0, none⟩ (.int .i64 R.d)) (w.heap.size + 1) 1 (.int .i64 R.w)) (by omega)
          have t44 : At (((w1.alloc (.cells #[.int .i64 R.d, .int .i64 R.w, .slice A1 R.m.length c1, .bool R.b] 25)).setCell ⟨w.heap.size + 1, 0, none⟩ (.int .i64 R.d)).setCell ⟨w.heap.size + 1, 1, none⟩ (.int .i64 R.w)) (w.heap.size + 1) 25 #[.int .i64 R.d, .int .i64 R.w, .slice B S.m.length d, .bool S.b] := by simpa using t38.set 1 (.int .i64 R.w)
          clear o33 hB34 r35 p36 n37 t38
          have o45 := o39.past4 t44 (grown_set (((w1.alloc (.cells #[.int .i64 R.d, .int .i64 R.w, .slice A1 R.m.length c1, .bool R.b] 25)).setCell ⟨w.heap.size + 1, 0, none⟩ (.int .i64 R.d)).setCell ⟨w.heap.size + 1, 1, none⟩ (.int .i64 R.w)) (w.heap.size + 1) 2 (.slice A1 R.m.length c1))
          have hB46 := below_put hB40 (grown_set (((w1.alloc (.cells #[.int .i64 R.d, .int .i64 R.w, .slice A1 R.m.length c1, .bool R.b] 25)).setCell ⟨w.heap.size + 1, 0, none⟩ (.int .i64 R.d)).setCell ⟨w.heap.size + 1, 1, none⟩ (.int .i64 R.w)) (w.heap.size + 1) 2 (.slice A1 R.m.length c1)) (by omega) (by have := hB40.size; omega)
          have r47 := r41.past (grown_set (((w1.alloc (.cells #[.int .i64 R.d, .int .i64 R.w, .slice A1 R.m.length c1, .bool R.b] 25)).setCell ⟨w.heap.size + 1, 0, none⟩ (.int .i64 R.d)).setCell ⟨w.heap.size + 1, 1, none⟩ (.int .i64 R.w)) (w.heap.size + 1) 2 (.slice A1 R.m.length c1)) (by omega)
          have p48 := p42.past4 t44 (grown_set (((w1.alloc (.cells #[.int .i64 R.d, .int .i64 R.w, .slice A1 R.m.length c1, .bool R.b] 25)).setCell ⟨w.heap.size + 1, 0, none⟩ (.int .i64 R.d)).setCell ⟨w.heap.size + 1, 1, none⟩ (.int .i64 R.w)) (w.heap.size + 1) 2 (.slice A1 R.m.length c1))
          have n49 := n43.past (grown_set (((w1.alloc (.cells #[.int .i64 R.d, .int .i64 R.w, .slice A1 R.m.length c1, .bool R.b] 25)).setCell ⟨w.heap.size + 1, 0, none⟩ (.int .i64 R.d)).setCell ⟨w.heap.size + 1, 1, none⟩ (.int .i64 R.w)) (w.heap.size + 1) 2 (.slice A1 R.m.length c1)) (by omega)
          have t50 : At ((((w1.alloc (.cells #[.int .i64 R.d, .int .i64 R.w, .slice A1 R.m.length c1, .bool R.b] 25)).setCell ⟨w.heap.size + 1, 0, none⟩ (.int .i64 R.d)).setCell ⟨w.heap.size + 1, 1, none⟩ (.int .i64 R.w)).setCell ⟨w.heap.size + 1, 2, none⟩ (.slice A1 R.m.length c1)) (w.heap.size + 1) 25 #[.int .i64 R.d, .int .i64 R.w, .slice A1 R.m.length c1, .bool S.b] := by simpa using t44.set 2 (.slice A1 R.m.length c1)
          clear o39 hB40 r41 p42 n43 t44
          have o51 := o45.past4 t50 (grown_set ((((w1.alloc (.cells #[.int .i64 R.d, .int .i64 R.w, .slice A1 R.m.length c1, .bool R.b] 25)).setCell ⟨w.heap.size + 1, 0, none⟩ (.int .i64 R.d)).setCell ⟨w.heap.size + 1, 1, none⟩ (.int .i64 R.w)).setCell ⟨w.heap.size + 1, 2, none⟩ (.slice A1 R.m.length c1)) (w.heap.size + 1) 3 (.bool R.b))
          have hB52 := below_put hB46 (grown_set ((((w1.alloc (.cells #[.int .i64 R.d, .int .i64 R.w, .slice A1 R.m.length c1, .bool R.b] 25)).setCell ⟨w.heap.size + 1, 0, none⟩ (.int .i64 R.d)).setCell ⟨w.heap.size + 1, 1, none⟩ (.int .i64 R.w)).setCell ⟨w.heap.size + 1, 2, none⟩ (.slice A1 R.m.length c1)) (w.heap.size + 1) 3 (.bool R.b)) (by omega) (by have := hB46.size; omega)
          have r53 := r47.past (grown_set ((((w1.alloc (.cells #[.int .i64 R.d, .int .i64 R.w, .slice A1 R.m.length c1, .bool R.b] 25)).setCell ⟨w.heap.size + 1, 0, none⟩ (.int .i64 R.d)).setCell ⟨w.heap.size + 1, 1, none⟩ (.int .i64 R.w)).setCell ⟨w.heap.size + 1, 2, none⟩ (.slice A1 R.m.length c1)) (w.heap.size + 1) 3 (.bool R.b)) (by omega)
          have p54 := p48.past4 t50 (grown_set ((((w1.alloc (.cells #[.int .i64 R.d, .int .i64 R.w, .slice A1 R.m.length c1, .bool R.b] 25)).setCell ⟨w.heap.size + 1, 0, none⟩ (.int .i64 R.d)).setCell ⟨w.heap.size + 1, 1, none⟩ (.int .i64 R.w)).setCell ⟨w.heap.size + 1, 2, none⟩ (.slice A1 R.m.length c1)) (w.heap.size + 1) 3 (.bool R.b))
          have n55 := n49.past (grown_set ((((w1.alloc (.cells #[.int .i64 R.d, .int .i64 R.w, .slice A1 R.m.length c1, .bool R.b] 25)).setCell ⟨w.heap.size + 1, 0, none⟩ (.int .i64 R.d)).setCell ⟨w.heap.size + 1, 1, none⟩ (.int .i64 R.w)).setCell ⟨w.heap.size + 1, 2, none⟩ (.slice A1 R.m.length c1)) (w.heap.size + 1) 3 (.bool R.b)) (by omega)
          have t56 : At (((((w1.alloc (.cells #[.int .i64 R.d, .int .i64 R.w, .slice A1 R.m.length c1, .bool R.b] 25)).setCell ⟨w.heap.size + 1, 0, none⟩ (.int .i64 R.d)).setCell ⟨w.heap.size + 1, 1, none⟩ (.int .i64 R.w)).setCell ⟨w.heap.size + 1, 2, none⟩ (.slice A1 R.m.length c1)).setCell ⟨w.heap.size + 1, 3, none⟩ (.bool R.b)) (w.heap.size + 1) 25 #[.int .i64 R.d, .int .i64 R.w, .slice A1 R.m.length c1, .bool R.b] := by simpa using t50.set 3 (.bool R.b)
          clear o45 hB46 r47 p48 n49 t50
          go_wp2
          go_roundw
          case rel => exact ⟨k + 1, A1, c1, R, N, by omega, by go_num, by first | rfl | go_num, hid E1.out.symm, hid (E2.out.symm), t56, p54, hB52, r53⟩
          case measure => simp [intOf]; omega
      · skip
        have hi : ¬ (k : Int) < (l.length : Int) := by omega
        rw [take_whole hlt] at HS HNN
        have ES := hid (show runS l = S by rw [runS_yes HL.out, HS.out])
        have EV := hid (show runV l = N by rw [runV_yes HL.out, HNN.out])
        obtain ⟨y0, y1, y2, y3, yl, yf⟩ := (⟨t7.cell 0, t7.cell 1, t7.cell 2, t7.cell 3, t7.lt, t7.frozen⟩ : _ ∧ _ ∧ _ ∧ _ ∧ _ ∧ _)
        obtain ⟨q0, q1, q2, q3, ql, qf⟩ := (⟨r10.cell 0, r10.cell 1, r10.cell 2, r10.cell 3, r10.lt, r10.frozen⟩ : _ ∧ _ ∧ _ ∧ _ ∧ _ ∧ _)
        have ne_yq : ¬ w.heap.size + 1 = w.heap.size := by omega
        have ne_qy : ¬ w.heap.size = w.heap.size + 1 := by omega
        have t57 := t7.past (grown_set wr (w.heap.size) 0 (.int .i64 S.d)) (by omega)
        have o58 := o8.past4 r10 (grown_set wr (w.heap.size) 0 (.int .i64 S.d))
        have hB59 := below_put hB9 (grown_set wr (w.heap.size) 0 (.int .i64 S.d)) (by omega) (by have := hB9.size; omega)
        have r60 : At (wr.setCell ⟨w.heap.size, 0, none⟩ (.int .i64 S.d)) (w.heap.size) 25 #[.int .i64 S.d, .int .i64 0, .slice none 0 0, .bool false] := by simpa using r10.set 0 (.int .i64 S.d)
        clear t7 o8 hB9 r10
        have t61 := t57.past (grown_set (wr.setCell ⟨w.heap.size, 0, none⟩ (.int .i64 S.d)) (w.heap.size) 1 (.int .i64 S.w)) (by omega)
        have o62 := o58.past4 r60 (grown_set (wr.setCell ⟨w.heap.size, 0, none⟩ (.int .i64 S.d)) (w.heap.size) 1 (.int .i64 S.w))
        have hB63 := below_put hB59 (grown_set (wr.setCell ⟨w.heap.size, 0, none⟩ (.int .i64 S.d)) (w.heap.size) 1 (.int .i64 S.w)) (by omega) (by have := hB59.size; omega)
        have r64 : At ((wr.setCell ⟨w.heap.size, 0, none⟩ (.int .i64 S.d)).setCell ⟨w.heap.size, 1, none⟩ (.int .i64 S.w)) (w.heap.size) 25 #[.int .i64 S.d, .int .i64 S.w, .slice none 0 0, .bool false] := by simpa using r60.set 1 (.int .i64 S.w)
        clear t57 o58 hB59 r60
        have t65 := t61.past (grown_set ((wr.setCell ⟨w.heap.size, 0, none⟩ (.int .i64 S.d)).setCell ⟨w.heap.size, 1, none⟩ (.int .i64 S.w)) (w.heap.size) 2 (.slice B S.m.length d)) (by omega)
        have o66 := o62.past4 r64 (grown_set ((wr.setCell ⟨w.heap.size, 0, none⟩ (.int .i64 S.d)).setCell ⟨w.heap.size, 1, none⟩ (.int .i64 S.w)) (w.heap.size) 2 (.slice B S.m.length d))
        have hB67 := below_put hB63 (grown_set ((wr.setCell ⟨w.heap.size, 0, none⟩ (.int .i64 S.d)).setCell ⟨w.heap.size, 1, none⟩ (.int .i64 S.w)) (w.heap.size) 2 (.slice B S.m.length d)) (by omega) (by have := hB63.size; omega)
        have r68 : At (((wr.setCell ⟨w.heap.size, 0, none⟩ (.int .i64 S.d)).setCell ⟨w.heap.size, 1, none⟩ (.int .i64 S.w)).setCell ⟨w.heap.size, 2, none⟩ (.slice B S.m.length d)) (w.heap.size) 25 #[.int .i64 S.d, .int .i64 S.w, .slice B S.m.length d, .bool false] := by simpa using r64.set 2 (.slice B S.m.length d)
        clear t61 o62 hB63 r64
        have t69 := t65.past (grown_set (((wr.setCell ⟨w.heap.size, 0, none⟩ (.int .i64 S.d)).setCell ⟨w.heap.size, 1, none⟩ (.int .i64 S.w)).setCell ⟨w.heap.size, 2, none⟩ (.slice B S.m.length d)) (w.heap.size) 3 (.bool S.b)) (by omega)
        have o70 := o66.past4 r68 (grown_set (((wr.setCell ⟨w.heap.size, 0, none⟩ (.int .i64 S.d)).setCell ⟨w.heap.size, 1, none⟩ (.int .i64 S.w)).setCell ⟨w.heap.size, 2, none⟩ (.slice B S.m.length d)) (w.heap.size) 3 (.bool S.b))
        have hB71 := below_put hB67 (grown_set (((wr.setCell ⟨w.heap.size, 0, none⟩ (.int .i64 S.d)).setCell ⟨w.heap.size, 1, none⟩ (.int .i64 S.w)).setCell ⟨w.heap.size, 2, none⟩ (.slice B S.m.length d)) (w.heap.size) 3 (.bool S.b)) (by omega) (by have := hB67.size; omega)
        have r72 : At ((((wr.setCell ⟨w.heap.size, 0, none⟩ (.int .i64 S.d)).setCell ⟨w.heap.size, 1, none⟩ (.int .i64 S.w)).setCell ⟨w.heap.size, 2, none⟩ (.slice B S.m.length d)).setCell ⟨w.heap.size, 3, none⟩ (.bool S.b)) (w.heap.size) 25 #[.int .i64 S.d, .int .i64 S.w, .slice B S.m.length d, .bool S.b] := by simpa using r68.set 3 (.bool S.b)
        clear t65 o66 hB67 r68
        go_wp2
        refine bodyPost_ret (v := .tuple #[.agg #[.int .i64 S.d, .int .i64 S.w, .slice B S.m.length d, .bool S.b], .int .i64 N]) (by simp [results, Try.results18, go_sem, r72.cell]) rfl ?_
        exact ⟨B, d, by rw [ES.out, EV.out], by rw [ES.out]; exact o70.mono (by omega), hB71⟩
  · skip
    have hl17 : (l.length : Int) > 16 := by omega
    have hl18 : (16 : Int) < (l.length : Int) := by omega
    have ES := hid (runS_no hl)
    have EV := hid (runV_no hl)
    have hB73 := Below.refl w.heap.size w
    have hB74 := hB73.alloc hB73.size (.cells #[.int .i64 0, .int .i64 0, .slice none 0 0, .bool false] 25)
    clear hB73
    have r75 : At (w.alloc (.cells #[.int .i64 0, .int .i64 0, .slice none 0 0, .bool false] 25)) (w.heap.size) 25 #[.int .i64 0, .int .i64 0, .slice none 0 0, .bool false] := At.newAt _ _ (by first | rfl | (simp; done) | (simp; omega))
    go_enter Try.func18, Try.ntmps18
    obtain ⟨q0, q1, q2, q3, ql, qf⟩ := (⟨r75.cell 0, r75.cell 1, r75.cell 2, r75.cell 3, r75.lt, r75.frozen⟩ : _ ∧ _ ∧ _ ∧ _ ∧ _ ∧ _)
    go_wp2
    refine bodyPost_ret (v := .tuple #[.agg #[.int .i64 0, .int .i64 0, .slice none 0 0, .bool false], .int .i64 (-1)]) (by simp [results, Try.results18, go_sem, r75.cell]) rfl ?_
    exact ⟨none, 0, by rw [ES.out, EV.out]; rfl, by rw [ES.out]; exact OwnM.zero _ _, hB74⟩

set_option maxHeartbeats 8000000 in
theorem iKeptWork_any (A : Option Addr) (c : Nat) (l : List Int) (w : World) (h : Sees w w.heap.size A (ints l)) (hn : l.length ≤ 4194304) :
    Calls Try.prog 21 #[.slice A l.length c] w (fun e w' => e = .returned (.int .i64 (keptV l)) ∧ Below w.heap.size w w') := by
  have HN := hid hn
  clear hn
  by_cases hl : l.length ≤ 16
  · skip
    have HL := hid hl
    have hl16 : (l.length : Int) ≤ 16 := by omega
    have hl17 : ¬ (l.length : Int) > 16 := by omega
    have hl18 : ¬ (16 : Int) < (l.length : Int) := by omega
    clear hl
    have hB1 := Below.refl w.heap.size w
    have hB2 := hB1.alloc hB1.size (.cells #[.int .i64 0, .int .i64 0, .slice none 0 0, .bool false] 25)
    clear hB1
    have t3 : At (w.alloc (.cells #[.int .i64 0, .int .i64 0, .slice none 0 0, .bool false] 25)) (w.heap.size) 25 #[.int .i64 0, .int .i64 0, .slice none 0 0, .bool false] := At.newAt _ _ (by first | rfl | (simp; done) | (simp; omega))
    go_enter Try.func21, Try.ntmps21
    obtain ⟨y0, y1, y2, y3, yl, yf⟩ := (⟨t3.cell 0, t3.cell 1, t3.cell 2, t3.cell 3, t3.lt, t3.frozen⟩ : _ ∧ _ ∧ _ ∧ _ ∧ _ ∧ _)
    go_wp2_with fail
    go_loopw [4, 15] (fun n i wr => ∃ (k : Nat) (B : Option Addr) (d : Nat) (S : Nst) (N : Int), k ≤ l.length ∧ i = .int .i64 k ∧ n = .int .i64 N ∧ Hid (S = (acc (l.take k)).s) ∧ Hid (N = (acc (l.take k)).kept) ∧ At wr (w.heap.size) 25 #[.int .i64 S.d, .int .i64 S.w, .slice B S.m.length d, .bool S.b] ∧ OwnM wr (w.heap.size) B d S ∧ Below w.heap.size w wr) (fun _ i _ => l.length - (intOf i).toNat)
    case atStart => exact ⟨0, none, 0, zeroN, 0, Nat.zero_le _, rfl, rfl, hid rfl, hid rfl, t3, OwnM.zero _ _, hB2⟩
    case round =>
      clear hB2 t3 y0 y1 y2 y3 yl yf
      obtain ⟨k, B, d, S, N, hk, rfl, rfl, HS, HNN, t0, o0, hB0⟩ := hrel
      have t4 := t0
      clear t0
      have o5 := o0
      clear o0
      have hB6 := hB0
      clear hB0
      have szr : w.heap.size < wr.heap.size := t4.lt
      have hok := hid (show Ok S by rw [HS.out]; exact acc_ok _)
      have HS4 := hid (show S.m.length ≤ 4194304 from Nat.le_trans (ok_len hok.out) (by decide))
      have HW := hid hok.out.2.1
      by_cases hlt : k < l.length
      · skip
        have hi : (k : Int) < (l.length : Int) := by omega
        obtain ⟨b, o, rfl, hbl, hc⟩ := (h.below hB6).int hlt
        have HKC := hid (fun (w1 : World) (hb1 : Below w.heap.size w w1) => Sees.cellAt (h.below hb1) hlt)
        have HNO := hid (fun e => acc_no hlt e)
        have HYES := hid (fun e => acc_yes hlt e)
        obtain ⟨hn1, hn2⟩ : 0 ≤ N ∧ N ≤ 16 := by rw [HNN.out]; have := acc_bd HL.out k; omega
        rw [← HS.out, ← HNN.out] at HNO HYES
        obtain ⟨x, hx⟩ : ∃ x, x = l[k] := ⟨_, rfl⟩
        rw [← hx] at hc HNO HYES HKC
        clear hx
        have hw1 : IntKind.i64.wrap (N + 1) = N + 1 := by rw [IntKind.wrap_i64]; omega
        obtain ⟨R, hR⟩ : ∃ R, R = stepS S x := ⟨_, rfl⟩
        have ER : Hid (stepS S x = R) := hid hR.symm
        rw [← hR] at HYES
        clear hR
        rcases hk2 : stepB S x with _ | _
        · skip
          obtain ⟨e1, e2, e3⟩ := HNO.out hk2
          have E1 := hid e1
          have E2 := hid e2
          have E3 := hid e3
          have EK := hid hk2
          clear e1 e2 e3 hk2
          obtain ⟨y0, y1, y2, y3, yl, yf⟩ := (⟨t4.cell 0, t4.cell 1, t4.cell 2, t4.cell 3, t4.lt, t4.frozen⟩ : _ ∧ _ ∧ _ ∧ _ ∧ _ ∧ _)
          go_wp2_with fail
          refine (iStepNest_any S x B d _ o5.sees o5.cap HS4.out).mono ?_
          rintro e w1 ⟨A1, c1, he, ho1, hb1⟩
          rw [ER.out, EK.out] at he
          rw [ER.out] at ho1
          subst he
          have sz1 : wr.heap.size ≤ w1.heap.size := Nat.le_trans (by first | exact Nat.le_refl _ | (simp; done) | (simp; omega)) (hb1.size)
          have t7 := t4.below hb1 t4.lt
          have o8 := o5.below hb1
          have hB9 := hB6.trans (hb1.mono hB6.size)
          clear t4 o5 hB6
          clear y0 y1 y2 y3 yl yf
          have p10 : OwnM w1 (w.heap.size) A1 c1 R := OwnM.mono ho1 (by omega)
          clear ho1
          have t11 := t7.alloc (.cells #[.int .i64 R.d, .int .i64 R.w, .slice A1 R.m.length c1, .bool R.b] 25)
          have o12 := o8.alloc (.cells #[.int .i64 R.d, .int .i64 R.w, .slice A1 R.m.length c1, .bool R.b] 25)
          have hB13 := hB9.alloc hB9.size (.cells #[.int .i64 R.d, .int .i64 R.w, .slice A1 R.m.length c1, .bool R.b] 25)
          have p14 := p10.alloc (.cells #[.int .i64 R.d, .int .i64 R.w, .slice A1 R.m.length c1, .bool R.b] 25)
          clear t7 o8 hB9 p10
          have n15 : At (w1.alloc (.cells #[.int .i64 R.d, .int .i64 R.w, .slice A1 R.m.length c1, .bool R.b] 25)) (w1.heap.size) 25 #[.int .i64 R.d, .int .i64 R.w, .slice A1 R.m.length c1, .bool R.b] := At.newAt _ _ (by first | rfl | (simp; done) | (simp; omega))
          skip
          obtain ⟨y0, y1, y2, y3, yl, yf⟩ := (⟨t11.cell 0, t11.cell 1, t11.cell 2, t11.cell 3, t11.lt, t11.frozen⟩ : _ ∧ _ ∧ _ ∧ _ ∧ _ ∧ _)
          obtain ⟨z0, z1, z2, z3, zl, zf⟩ := (⟨n15.cell 0, n15.cell 1, n15.cell 2, n15.cell 3, n15.lt, n15.frozen⟩ : _ ∧ _ ∧ _ ∧ _ ∧ _ ∧ _)
          have ne_yz : ¬ w.heap.size = w1.heap.size := by omega
          have ne_zy : ¬ w1.heap.size = w.heap.size := by omega
          go_wp2
          go_roundw
          case rel => exact ⟨k + 1, B, d, S, N, by omega, by go_num, by first | rfl | go_num, hid E1.out.symm, hid (E3.out.symm), t11, o12, hB13⟩
          case measure => simp [intOf]; omega
        · skip
          obtain ⟨e1, e2, e3⟩ := HYES.out hk2
          have E1 := hid e1
          have E2 := hid e2
          have E3 := hid e3
          have EK := hid hk2
          clear e1 e2 e3 hk2
          obtain ⟨y0, y1, y2, y3, yl, yf⟩ := (⟨t4.cell 0, t4.cell 1, t4.cell 2, t4.cell 3, t4.lt, t4.frozen⟩ : _ ∧ _ ∧ _ ∧ _ ∧ _ ∧ _)
          go_wp2_with fail
          refine (iStepNest_any S x B d _ o5.sees o5.cap HS4.out).mono ?_
          rintro e w1 ⟨A1, c1, he, ho1, hb1⟩
          rw [ER.out, EK.out] at he
          rw [ER.out] at ho1
          subst he
          have sz1 : wr.heap.size ≤ w1.heap.size := Nat.le_trans (by first | exact Nat.le_refl _ | (simp; done) | (simp; omega)) (hb1.size)
          have t16 := t4.below hb1 t4.lt
          have o17 := o5.below hb1
          have hB18 := hB6.trans (hb1.mono hB6.size)
          clear t4 o5 hB6
          clear y0 y1 y2 y3 yl yf
          have p19 : OwnM w1 (w.heap.size) A1 c1 R := OwnM.mono ho1 (by omega)
          clear ho1
          have t20 := t16.alloc (.cells #[.int .i64 R.d, .int .i64 R.w, .slice A1 R.m.length c1, .bool R.b] 25)
          have o21 := o17.alloc (.cells #[.int .i64 R.d, .int .i64 R.w, .slice A1 R.m.length c1, .bool R.b] 25)
          have hB22 := hB18.alloc hB18.size (.cells #[.int .i64 R.d, .int .i64 R.w, .slice A1 R.m.length c1, .bool R.b] 25)
          have p23 := p19.alloc (.cells #[.int .i64 R.d, .int .i64 R.w, .slice A1 R.m.length c1, .bool R.b] 25)
          clear t16 o17 hB18 p19
          have n24 : At (w1.alloc (.cells #[.int .i64 R.d, .int .i64 R.w, .slice A1 R.m.length c1, .bool R.b] 25)) (w1.heap.size) 25 #[.int .i64 R.d, .int .i64 R.w, .slice A1 R.m.length c1, .bool R.b] := At.newAt _ _ (by first | rfl | (simp; done) | (simp; omega))
          by_cases x3 : x = 3
          · skip
            have x3b : (x == 3) = true := by simp [x3]
            by_cases r0 : R.d = 0
            · skip
              have r0b : (R.d == 0) = true := by simp [r0]
              have HNX := hid (show (acc (l.take (k + 1))).kept = N + S.w by rw [E3.out, if_pos ⟨x3, r0⟩])
              have hww := HW.out
              have hw2 : IntKind.i64.wrap (N + S.w) = N + S.w := by rw [IntKind.wrap_i64]; omega
              clear x3 r0
              obtain ⟨y0, y1, y2, y3, yl, yf⟩ := (⟨t20.cell 0, t20.cell 1, t20.cell 2, t20.cell 3, t20.lt, t20.frozen⟩ : _ ∧ _ ∧ _ ∧ _ ∧ _ ∧ _)
              obtain ⟨z0, z1, z2, z3, zl, zf⟩ := (⟨n24.cell 0, n24.cell 1, n24.cell 2, n24.cell 3, n24.lt, n24.frozen⟩ : _ ∧ _ ∧ _ ∧ _ ∧ _ ∧ _)
              have ne_yz : ¬ w.heap.size = w1.heap.size := by omega
              have ne_zy : ¬ w1.heap.size = w.heap.size := by omega
              have o25 := o21.past4 t20 (grown_set (w1.alloc (.cells #[.int .i64 R.d, .int .i64 R.w, .slice A1 R.m.length c1, .bool R.b] 25)) (w.heap.size) 0 (.int .i64 R.d))
              have hB26 := below_put hB22 (grown_set (w1.alloc (.cells #[.int .i64 R.d, .int .i64 R.w, .slice A1 R.m.length c1, .bool R.b] 25)) (w.heap.size) 0 (.int .i64 R.d)) (by omega) (by have := hB22.size; omega)
              have p27 := p23.past4 t20 (grown_set (w1.alloc (.cells #[.int .i64 R.d, .int .i64 R.w, .slice A1 R.m.length c1, .bool R.b] 25)) (w.heap.size) 0 (.int .i64 R.d))
              have n28 := n24.past (grown_set (w1.alloc (.cells #[.int .i64 R.d, .int .i64 R.w, .slice A1 R.m.length c1, .bool R.b] 25)) (w.heap.size) 0 (.int .i64 R.d)) (by omega)
              have t29 : At ((w1.alloc (.cells #[.int .i64 R.d, .int .i64 R.w, .slice A1 R.m.length c1, .bool R.b] 25)).setCell ⟨w.heap.size, 0, none⟩ (.int .i64 R.d)) (w.heap.size) 25 #[.int .i64 R.d, .int .i64 S.w, .slice B S.m.length d, .bool S.b] := by simpa using t20.set 0 (.int .i64 R.d)
              clear o21 hB22 p23 n24 t20
              have o30 := o25.past4 t29 (grown_set ((w1.alloc (.cells #[.int .i64 R.d, .int .i64 R.w, .slice A1 R.m.length c1, .bool R.b] 25)).setCell ⟨w.heap.size, 0, none⟩ (.int .i64 R.d)) (w.heap.size) 1 (.int .i64 R.w))
              have hB31 := below_put hB26 (grown_set ((w1.alloc (.cells #[.int .i64 R.d, .int .i64 R.w, .slice A1 R.m.length c1, .bool R.b] 25)).setCell ⟨w.heap.size, 0, none⟩ (.int .i64 R.d)) (w.heap.size) 1 (.int .i64 R.w)) (by omega) (by have := hB26.size; omega)
              have p32 := p27.past4 t29 (grown_set ((w1.alloc (.cells #[.int .i64 R.d, .int .i64 R.w, .slice A1 R.m.length c1, .bool R.b] 25)).setCell ⟨w.heap.size, 0, none⟩ (.int .i64 R.d)) (w.heap.size) 1 (.int .i64 R.w))
              have n33 := n28.past (grown_set ((w1.alloc (.cells #[.int .i64 R.d, .int .i64 R.w, .slice A1 R.m.length c1, .bool R.b] 25)).setCell ⟨w.heap.size, 0, none⟩ (.int .i64 R.d)) (w.heap.size) 1 (.int .i64 R.w)) (by omega)
              have t34 : At (((w1.alloc (.cells #[.int .i64 R.d, .int .i64 R.w, .slice A1 R.m.length c1, .bool R.b] 25)).setCell ⟨w.heap.size, 0, none⟩ (.int .i64 R.d)).setCell ⟨w.heap.size, 1, none⟩ (.int .i64 R.w)) (w.heap.size) 25 #[.int .i64 R.d, .int .i64 R.w, .slice B S.m.length d, .bool S.b] := by simpa using t29.set 1 (.int .i64 R.w)
              clear o25 hB26 p27 n28 t29
              have o35 := o30.past4 t34 (grown_set (((w1.alloc (.cells #[.int .i64 R.d, .int .i64 R.w, .slice A1 R.m.length c1, .bool R.b] 25)).setCell ⟨w.heap.size, 0, none⟩ (.int .i64 R.d)).setCell ⟨w.heap.size, 1, none⟩ (.int .i64 R.w)) (w.heap.size) 2 (.slice A1 R.m.length c1))
              have hB36 := below_put hB31 (grown_set (((w1.alloc (.cells #[.int .i64 R.d, .int .i64 R.w, .slice A1 R.m.length c1, .bool R.b] 25)).setCell ⟨w.heap.size, 0, none⟩ (.int .i64 R.d)).setCell ⟨w.heap.size, 1, none⟩ (.int .i64 R.w)) (w.heap.size) 2 (.slice A1 R.m.length c1)) (by omega) (by have := hB31.size; omega)
              have p37 := p32.past4 t34 (grown_set (((w1.alloc (.cells #[.int .i64 R.d, .int .i64 R.w, .slice A1 R.m.length c1, .bool R.b] 25)).setCell ⟨w.heap.size, 0, none⟩ (.int .i64 R.d)).setCell ⟨w.heap.size, 1, none⟩ (.int .i64 R.w)) (w.heap.size) 2 (.slice A1 R.m.length c1))
              have n38 := n33.past (grown_set (((w1.alloc (.cells #[.int .i64 R.d, .int .i64 R.w, .slice A1 R.m.length c1, .bool R.b] 25)).setCell ⟨w.heap.size, 0, none⟩ (.int .i64 R.d)).setCell ⟨w.heap.size, 1, none⟩ (.int .i64 R.w)) (w.heap.size) 2 (.slice A1 R.m.length c1)) (by omega)
              have t39 : At ((((w1.alloc (.cells #[.int .i64 R.d, .int .i64 R.w, .slice A1 R.m.length c1, .bool R.b] 25)).setCell ⟨w.heap.size, 0, none⟩ (.int .i64 R.d)).setCell ⟨w.heap.size, 1, none⟩ (.int .i64 R.w)).setCell ⟨w.heap.size, 2, none⟩ (.slice A1 R.m.length c1)) (w.heap.size) 25 #[.int .i64 R.d, .int .i64 R.w, .slice A1 R.m.length c1, .bool S.b] := by simpa using t34.set 2 (.slice A1 R.m.length c1)
              clear o30 hB31 p32 n33 t34
              have o40 := o35.past4 t39 (grown_set ((((w1.alloc (.cells #[.int .i64 R.d, .int .i64 R.w, .slice A1 R.m.length c1, .bool R.b] 25)).setCell ⟨w.heap.size, 0, none⟩ (.int .i64 R.d)).setCell ⟨w.heap.size, 1, none⟩ (.int .i64 R.w)).setCell ⟨w.heap.size, 2, none⟩ (.slice A1 R.m.length c1)) (w.heap.size) 3 (.bool R.b))
              have hB41 := below_put hB36 (grown_set ((((w1.alloc (.cells #[.int .i64 R.d, .int .i64 R.w, .slice A1 R.m.length c1, .bool R.b] 25)).setCell ⟨w.heap.size, 0, none⟩ (.int .i64 R.d)).setCell ⟨w.heap.size, 1, none⟩ (.int .i64 R.w)).setCell ⟨w.heap.size, 2, none⟩ (.slice A1 R.m.length c1)) (w.heap.size) 3 (.bool R.b)) (by omega) (by have := hB36.size; omega)
              have p42 := p37.past4 t39 (grown_set ((((w1.alloc (.cells #[.int .i64 R.d, .int .i64 R.w, .slice A1 R.m.length c1, .bool R.b] 25)).setCell ⟨w.heap.size, 0, none⟩ (.int .i64 R.d)).setCell ⟨w.heap.size, 1, none⟩ (.int .i64 R.w)).setCell ⟨w.heap.size, 2, none⟩ (.slice A1 R.m.length c1)) (w.heap.size) 3 (.bool R.b))
              have n43 := n38.past (grown_set ((((w1.alloc (.cells #[.int .i64 R.d, .int .i64 R.w, .slice A1 R.m.length c1, .bool R.b] 25)).setCell ⟨w.heap.size, 0, none⟩ (.int .i64 R.d)).setCell ⟨w.heap.size, 1, none⟩ (.int .i64 R.w)).setCell ⟨w.heap.size, 2, none⟩ (.slice A1 R.m.length c1)) (w.heap.size) 3 (.bool R.b)) (by omega)
              have t44 : At (((((w1.alloc (.cells #[.int .i64 R.d, .int .i64 R.w, .slice A1 R.m.length c1, .bool R.b] 25)).setCell ⟨w.heap.size, 0, none⟩ (.int .i64 R.d)).setCell ⟨w.heap.size, 1, none⟩ (.int .i64 R.w)).setCell ⟨w.heap.size, 2, none⟩ (.slice A1 R.m.length c1)).setCell ⟨w.heap.size, 3, none⟩ (.bool R.b)) (w.heap.size) 25 #[.int .i64 R.d, .int .i64 R.w, .slice A1 R.m.length c1, .bool R.b] := by simpa using t39.set 3 (.bool R.b)
              clear o35 hB36 p37 n38 t39
              go_wp2
              go_roundw
              case rel => exact ⟨k + 1, A1, c1, R, (N + S.w), by omega, by go_num, by first | rfl | go_num, hid E1.out.symm, hid (HNX.out.symm), t44, p42, hB41⟩
              case measure => simp [intOf]; omega
            · skip
              have r0b : (R.d == 0) = false := beq_eq_false_iff_ne.2 r0
              have HNX := hid (show (acc (l.take (k + 1))).kept = N by rw [E3.out, if_neg (fun e => r0 e.2)]; omega)
              clear x3 r0
              obtain ⟨y0, y1, y2, y3, yl, yf⟩ := (⟨t20.cell 0, t20.cell 1, t20.cell 2, t20.cell 3, t20.lt, t20.frozen⟩ : _ ∧ _ ∧ _ ∧ _ ∧ _ ∧ _)
              obtain ⟨z0, z1, z2, z3, zl, zf⟩ := (⟨n24.cell 0, n24.cell 1, n24.cell 2, n24.cell 3, n24.lt, n24.frozen⟩ : _ ∧ _ ∧ _ ∧ _ ∧ _ ∧ _)
              have ne_yz : ¬ w.heap.size = w1.heap.size := by omega
              have ne_zy : ¬ w1.heap.size = w.heap.size := by omega
              have o45 := o21.past4 t20 (grown_set (w1.alloc (.cells #[.int .i64 R.d, .int .i64 R.w, .slice A1 R.m.length c1, .bool R.b] 25)) (w.heap.size) 0 (.int .i64 R.d))
              have hB46 := below_put hB22 (grown_set (w1.alloc (.cells #[.int .i64 R.d, .int .i64 R.w, .slice A1 R.m.length c1, .bool R.b] 25)) (w.heap.size) 0 (.int .i64 R.d)) (by omega) (by have := hB22.size; omega)
              have p47 := p23.past4 t20 (grown_set (w1.alloc (.cells #[.int .i64 R.d, .int .i64 R.w, .slice A1 R.m.length c1, .bool R.b] 25)) (w.heap.size) 0 (.int .i64 R.d))
              have n48 := n24.past (grown_set (w1.alloc (.cells #[.int .i64 R.d, .int .i64 R.w, .slice A1 R.m.length c1, .bool R.b] 25)) (w.heap.size) 0 (.int .i64 R.d)) (by omega)
              have t49 : At ((w1.alloc (.cells #[.int .i64 R.d, .int .i64 R.w, .slice A1 R.m.length c1, .bool R.b] 25)).setCell ⟨w.heap.size, 0, none⟩ (.int .i64 R.d)) (w.heap.size) 25 #[.int .i64 R.d, .int .i64 S.w, .slice B S.m.length d, .bool S.b] := by simpa using t20.set 0 (.int .i64 R.d)
              clear o21 hB22 p23 n24 t20
              have o50 := o45.past4 t49 (grown_set ((w1.alloc (.cells #[.int .i64 R.d, .int .i64 R.w, .slice A1 R.m.length c1, .bool R.b] 25)).setCell ⟨w.heap.size, 0, none⟩ (.int .i64 R.d)) (w.heap.size) 1 (.int .i64 R.w))
              have hB51 := below_put hB46 (grown_set ((w1.alloc (.cells #[.int .i64 R.d, .int .i64 R.w, .slice A1 R.m.length c1, .bool R.b] 25)).setCell ⟨w.heap.size, 0, none⟩ (.int .i64 R.d)) (w.heap.size) 1 (.int .i64 R.w)) (by omega) (by have := hB46.size; omega)
              have p52 := p47.past4 t49 (grown_set ((w1.alloc (.cells #[.int .i64 R.d, .int .i64 R.w, .slice A1 R.m.length c1, .bool R.b] 25)).setCell ⟨w.heap.size, 0, none⟩ (.int .i64 R.d)) (w.heap.size) 1 (.int .i64 R.w))
              have n53 := n48.past (grown_set ((w1.alloc (.cells #[.int .i64 R.d, .int .i64 R.w, .slice A1 R.m.length c1, .bool R.b] 25)).setCell ⟨w.heap.size, 0, none⟩ (.int .i64 R.d)) (w.heap.size) 1 (.int .i64 R.w)) (by omega)
              have t54 : At (((w1.alloc (.cells #[.int .i64 R.d, .int .i64 R.w, .slice A1 R.m.length c1, .bool R.b] 25)).setCell ⟨w.heap.size, 0, none⟩ (.int .i64 R.d)).setCell ⟨w.heap.size, 1, none⟩ (.int .i64 R.w)) (w.heap.size) 25 #[.int .i64 R.d, .int .i64 R.w, .slice B S.m.length d, .bool S.b] := by simpa using t49.set 1 (.int .i64 R.w)
              clear o45 hB46 p47 n48 t49
              have o55 := o50.past4 t54 (grown_set (((w1.alloc (.cells #[.int .i64 R.d, .int .i64 R.w, .slice A1 R.m.length c1, .bool R.b] 25)).setCell ⟨w.heap.size, 0, none⟩ (.int .i64 R.d)).setCell ⟨w.heap.size, 1, none⟩ (.int .i64 R.w)) (w.heap.size) 2 (.slice A1 R.m.length c1))
              have hB56 := below_put hB51 (grown_set (((w1.alloc (.cells #[.int .i64 R.d, .int .i64 R.w, .slice A1 R.m.length c1, .bool R.b] 25)).setCell ⟨w.heap.size, 0, none⟩ (.int .i64 R.d)).setCell ⟨w.heap.size, 1, none⟩ (.int .i64 R.w)) (w.heap.size) 2 (.slice A1 R.m.length c1)) (by omega) (by have := hB51.size; omega)
              have p57 := p52.past4 t54 (grown_set (((w1.alloc (.cells #[.int .i64 R.d, .int .i64 R.w, .slice A1 R.m.length c1, .bool R.b] 25)).setCell ⟨w.heap.size, 0, none⟩ (.int .i64 R.d)).setCell ⟨w.heap.size, 1, none⟩ (.int .i64 R.w)) (w.heap.size) 2 (.slice A1 R.m.length c1))
              have n58 := n53.past (grown_set (((w1.alloc (.cells #[.int .i64 R.d, .int .i64 R.w, .slice A1 R.m.length c1, .bool R.b] 25)).setCell ⟨w.heap.size, 0, none⟩ (.int .i64 R.d)).setCell ⟨w.heap.size, 1, none⟩ (.int .i64 R.w)) (w.heap.size) 2 (.slice A1 R.m.length c1)) (by omega)
              have t59 : At ((((w1.alloc (.cells #[.int .i64 R.d, .int .i64 R.w, .slice A1 R.m.length c1, .bool R.b] 25)).setCell ⟨w.heap.size, 0, none⟩ (.int .i64 R.d)).setCell ⟨w.heap.size, 1, none⟩ (.int .i64 R.w)).setCell ⟨w.heap.size, 2, none⟩ (.slice A1 R.m.length c1)) (w.heap.size) 25 #[.int .i64 R.d, .int .i64 R.w, .slice A1 R.m.length c1, .bool S.b] := by simpa using t54.set 2 (.slice A1 R.m.length c1)
              clear o50 hB51 p52 n53 t54
              have o60 := o55.past4 t59 (grown_set ((((w1.alloc (.cells #[.int .i64 R.d, .int .i64 R.w, .slice A1 R.m.length c1, .bool R.b] 25)).setCell ⟨w.heap.size, 0, none⟩ (.int .i64 R.d)).setCell ⟨w.heap.size, 1, none⟩ (.int .i64 R.w)).setCell ⟨w.heap.size, 2, none⟩ (.slice A1 R.m.length c1)) (w.heap.size) 3 (.bool R.b))
              have hB61 := below_put hB56 (grown_set ((((w1.alloc (.cells #[.int .i64 R.d, .int .i64 R.w, .slice A1 R.m.length c1, .bool R.b] 25)).setCell ⟨w.heap.size, 0, none⟩ (.int .i64 R.d)).setCell ⟨w.heap.size, 1, none⟩ (.int .i64 R.w)).setCell ⟨w.heap.size, 2, none⟩ (.slice A1 R.m.length c1)) (w.heap.size) 3 (.bool R.b)) (by omega) (by have := hB56.size; omega)
              have p62 := p57.past4 t59 (grown_set ((((w1.alloc (.cells #[.int .i64 R.d, .int .i64 R.w, .slice A1 R.m.length c1, .bool R.b] 25)).setCell ⟨w.heap.size, 0, none⟩ (.int .i64 R.d)).setCell ⟨w.heap.size, 1, none⟩ (.int .i64 R.w)).setCell ⟨w.heap.size, 2, none⟩ (.slice A1 R.m.length c1)) (w.heap.size) 3 (.bool R.b))
              have n63 := n58.past (grown_set ((((w1.alloc (.cells #[.int .i64 R.d, .int .i64 R.w, .slice A1 R.m.length c1, .bool R.b] 25)).setCell ⟨w.heap.size, 0, none⟩ (.int .i64 R.d)).setCell ⟨w.heap.size, 1, none⟩ (.int .i64 R.w)).setCell ⟨w.heap.size, 2, none⟩ (.slice A1 R.m.length c1)) (w.heap.size) 3 (.bool R.b)) (by omega)
              have t64 : At (((((w1.alloc (.cells #[.int .i64 R.d, .int .i64 R.w, .slice A1 R.m.length c1, .bool R.b] 25)).setCell ⟨w.heap.size, 0, none⟩ (.int .i64 R.d)).setCell ⟨w.heap.size, 1, none⟩ (.int .i64 R.w)).setCell ⟨w.heap.size, 2, none⟩ (.slice A1 R.m.length c1)).setCell ⟨w.heap.size, 3, none⟩ (.bool R.b)) (w.heap.size) 25 #[.int .i64 R.d, .int .i64 R.w, .slice A1 R.m.length c1, .bool R.b] := by simpa using t59.set 3 (.bool R.b)
              clear o55 hB56 p57 n58 t59
              go_wp2
              go_roundw
              case rel => exact ⟨k + 1, A1, c1, R, N, by omega, by go_num, by first | rfl | go_num, hid E1.out.symm, hid (HNX.out.symm), t64, p62, hB61⟩
              case measure => simp [intOf]; omega
          · skip
            have x3b : (x == 3) = false := beq_eq_false_iff_ne.2 x3
            have HNX := hid (show (acc (l.take (k + 1))).kept = N by rw [E3.out, if_neg (fun e => x3 e.1)]; omega)
            clear x3
            obtain ⟨y0, y1, y2, y3, yl, yf⟩ := (⟨t20.cell 0, t20.cell 1, t20.cell 2, t20.cell 3, t20.lt, t20.frozen⟩ : _ ∧ _ ∧ _ ∧ _ ∧ _ ∧ _)
            obtain ⟨z0, z1, z2, z3, zl, zf⟩ := (⟨n24.cell 0, n24.cell 1, n24.cell 2, n24.cell 3, n24.lt, n24.frozen⟩ : _ ∧ _ ∧ _ ∧ _ ∧ _ ∧ _)
            have ne_yz : ¬ w.heap.size = w1.heap.size := by omega
            have ne_zy : ¬ w1.heap.size = w.heap.size := by omega
            have o65 := o21.past4 t20 (grown_set (w1.alloc (.cells #[.int .i64 R.d, .int .i64 R.w, .slice A1 R.m.length c1, .bool R.b] 25)) (w.heap.size) 0 (.int .i64 R.d))
            have hB66 := below_put hB22 (grown_set (w1.alloc (.cells #[.int .i64 R.d, .int .i64 R.w, .slice A1 R.m.length c1, .bool R.b] 25)) (w.heap.size) 0 (.int .i64 R.d)) (by omega) (by have := hB22.size; omega)
            have p67 := p23.past4 t20 (grown_set (w1.alloc (.cells #[.int .i64 R.d, .int .i64 R.w, .slice A1 R.m.length c1, .bool R.b] 25)) (w.heap.size) 0 (.int .i64 R.d))
            have n68 := n24.past (grown_set (w1.alloc (.cells #[.int .i64 R.d, .int .i64 R.w, .slice A1 R.m.length c1, .bool R.b] 25)) (w.heap.size) 0 (.int .i64 R.d)) (by omega)
            have t69 : At ((w1.alloc (.cells #[.int .i64 R.d, .int .i64 R.w, .slice A1 R.m.length c1, .bool R.b] 25)).setCell ⟨w.heap.size, 0, none⟩ (.int .i64 R.d)) (w.heap.size) 25 #[.int .i64 R.d, .int .i64 S.w, .slice B S.m.length d, .bool S.b] := by simpa using t20.set 0 (.int .i64 R.d)
            clear o21 hB22 p23 n24 t20
            have o70 := o65.past4 t69 (grown_set ((w1.alloc (.cells #[.int .i64 R.d, .int .i64 R.w, .slice A1 R.m.length c1, .bool R.b] 25)).setCell ⟨w.heap.size, 0, none⟩ (.int .i64 R.d)) (w.heap.size) 1 (.int .i64 R.w))
            have hB71 := below_put hB66 (grown_set ((w1.alloc (.cells #[.int .i64 R.d, .int .i64 R.w, .slice A1 R.m.length c1, .bool R.b] 25)).setCell ⟨w.heap.size, 0, none⟩ (.int .i64 R.d)) (w.heap.size) 1 (.int .i64 R.w)) (by omega) (by have := hB66.size; omega)
            have p72 := p67.past4 t69 (grown_set ((w1.alloc (.cells #[.int .i64 R.d, .int .i64 R.w, .slice A1 R.m.length c1, .bool R.b] 25)).setCell ⟨w.heap.size, 0, none⟩ (.int .i64 R.d)) (w.heap.size) 1 (.int .i64 R.w))
            have n73 := n68.past (grown_set ((w1.alloc (.cells #[.int .i64 R.d, .int .i64 R.w, .slice A1 R.m.length c1, .bool R.b] 25)).setCell ⟨w.heap.size, 0, none⟩ (.int .i64 R.d)) (w.heap.size) 1 (.int .i64 R.w)) (by omega)
            have t74 : At (((w1.alloc (.cells #[.int .i64 R.d, .int .i64 R.w, .slice A1 R.m.length c1, .bool R.b] 25)).setCell ⟨w.heap.size, 0, none⟩ (.int .i64 R.d)).setCell ⟨w.heap.size, 1, none⟩ (.int .i64 R.w)) (w.heap.size) 25 #[.int .i64 R.d, .int .i64 R.w, .slice B S.m.length d, .bool S.b] := by simpa using t69.set 1 (.int .i64 R.w)
            clear o65 hB66 p67 n68 t69
            have o75 := o70.past4 t74 (grown_set (((w1.alloc (.cells #[.int .i64 R.d, .int .i64 R.w, .slice A1 R.m.length c1, .bool R.b] 25)).setCell ⟨w.heap.size, 0, none⟩ (.int .i64 R.d)).setCell ⟨w.heap.size, 1, none⟩ (.int .i64 R.w)) (w.heap.size) 2 (.slice A1 R.m.length c1))
            have hB76 := below_put hB71 (grown_set (((w1.alloc (.cells #[.int .i64 R.d, .int .i64 R.w, .slice A1 R.m.length c1, .bool R.b] 25)).setCell ⟨w.heap.size, 0, none⟩ (.int .i64 R.d)).setCell ⟨w.heap.size, 1, none⟩ (.int .i64 R.w)) (w.heap.size) 2 (.slice A1 R.m.length c1)) (by omega) (by have := hB71.size; omega)
            have p77 := p72.past4 t74 (grown_set (((w1.alloc (.cells #[.int .i64 R.d, .int .i64 R.w, .slice A1 R.m.length c1, .bool R.b] 25)).setCell ⟨w.heap.size, 0, none⟩ (.int .i64 R.d)).setCell ⟨w.heap.size, 1, none⟩ (.int .i64 R.w)) (w.heap.size) 2 (.slice A1 R.m.length c1))
            have n78 := n73.past (grown_set (((w1.alloc (.cells #[.int .i64 R.d, .int .i64 R.w, .slice A1 R.m.length c1, .bool R.b] 25)).setCell ⟨w.heap.size, 0, none⟩ (.int .i64 R.d)).setCell ⟨w.heap.size, 1, none⟩ (.int .i64 R.w)) (w.heap.size) 2 (.slice A1 R.m.length c1)) (by omega)
            have t79 : At ((((w1.alloc (.cells #[.int .i64 R.d, .int .i64 R.w, .slice A1 R.m.length c1, .bool R.b] 25)).setCell ⟨w.heap.size, 0, none⟩ (.int .i64 R.d)).setCell ⟨w.heap.size, 1, none⟩ (.int .i64 R.w)).setCell ⟨w.heap.size, 2, none⟩ (.slice A1 R.m.length c1)) (w.heap.size) 25 #[.int .i64 R.d, .int .i64 R.w, .slice A1 R.m.length c1, .bool S.b] := by simpa using t74.set 2 (.slice A1 R.m.length c1)
            clear o70 hB71 p72 n73 t74
            have o80 := o75.past4 t79 (grown_set ((((w1.alloc (.cells #[.int .i64 R.d, .int .i64 R.w, .slice A1 R.m.length c1, .bool R.b] 25)).setCell ⟨w.heap.size, 0, none⟩ (.int .i64 R.d)).setCell ⟨w.heap.size, 1, none⟩ (.int .i64 R.w)).setCell ⟨w.heap.size, 2, none⟩ (.slice A1 R.m.length c1)) (w.heap.size) 3 (.bool R.b))
            have hB81 := below_put hB76 (grown_set ((((w1.alloc (.cells #[.int .i64 R.d, .int .i64 R.w, .slice A1 R.m.length c1, .bool R.b] 25)).setCell ⟨w.heap.size, 0, none⟩ (.int .i64 R.d)).setCell ⟨w.heap.size, 1, none⟩ (.int .i64 R.w)).setCell ⟨w.heap.size, 2, none⟩ (.slice A1 R.m.length c1)) (w.heap.size) 3 (.bool R.b)) (by omega) (by have := hB76.size; omega)
            have p82 := p77.past4 t79 (grown_set ((((w1.alloc (.cells #[.int .i64 R.d, .int .i64 R.w, .slice A1 R.m.length c1, .bool R.b] 25)).setCell ⟨w.heap.size, 0, none⟩ (.int .i64 R.d)).setCell ⟨w.heap.size, 1, none⟩ (.int .i64 R.w)).setCell ⟨w.heap.size, 2, none⟩ (.slice A1 R.m.length c1)) (w.heap.size) 3 (.bool R.b))
            have n83 := n78.past (grown_set ((((w1.alloc (.cells #[.int .i64 R.d, .int .i64 R.w, .slice A1 R.m.length c1, .bool R.b] 25)).setCell ⟨w.heap.size, 0, none⟩ (.int .i64 R.d)).setCell ⟨w.heap.size, 1, none⟩ (.int .i64 R.w)).setCell ⟨w.heap.size, 2, none⟩ (.slice A1 R.m.length c1)) (w.heap.size) 3 (.bool R.b)) (by omega)
            have t84 : At (((((w1.alloc (.cells #[.int .i64 R.d, .int .i64 R.w, .slice A1 R.m.length c1, .bool R.b] 25)).setCell ⟨w.heap.size, 0, none⟩ (.int .i64 R.d)).setCell ⟨w.heap.size, 1, none⟩ (.int .i64 R.w)).setCell ⟨w.heap.size, 2, none⟩ (.slice A1 R.m.length c1)).setCell ⟨w.heap.size, 3, none⟩ (.bool R.b)) (w.heap.size) 25 #[.int .i64 R.d, .int .i64 R.w, .slice A1 R.m.length c1, .bool R.b] := by simpa using t79.set 3 (.bool R.b)
            clear o75 hB76 p77 n78 t79
            go_wp2
            go_roundw
            case rel => exact ⟨k + 1, A1, c1, R, N, by omega, by go_num, by first | rfl | go_num, hid E1.out.symm, hid (HNX.out.symm), t84, p82, hB81⟩
            case measure => simp [intOf]; omega
      · skip
        have hi : ¬ (k : Int) < (l.length : Int) := by omega
        rw [take_whole hlt] at HS HNN
        have EV := hid (show keptV l = N by rw [keptV_yes HL.out, HNN.out])
        obtain ⟨y0, y1, y2, y3, yl, yf⟩ := (⟨t4.cell 0, t4.cell 1, t4.cell 2, t4.cell 3, t4.lt, t4.frozen⟩ : _ ∧ _ ∧ _ ∧ _ ∧ _ ∧ _)
        go_wp2
        go_ret
        exact ⟨ret_int EV.out.symm, hB6⟩
  · skip
    have hl17 : (l.length : Int) > 16 := by omega
    have hl18 : (16 : Int) < (l.length : Int) := by omega
    have EV := hid (keptV_no hl)
    have hB85 := Below.refl w.heap.size w
    go_enter Try.func21, Try.ntmps21
    go_wp2
    go_ret
    exact ⟨ret_int EV.out.symm, hB85⟩

set_option maxHeartbeats 8000000 in
theorem iCleanUp_any (s : Nst) (A1 : Option Addr) (c1 : Nat) (w : World) (h : SeesM w w.heap.size A1 s) (hc : s.m.length ≤ c1) (h1 : s.m.length ≤ 4194304) :
    Calls Try.prog 25 #[.agg #[.int .i64 s.d, .int .i64 s.w, .slice A1 s.m.length c1, .bool s.b]] w fun e w' => ∃ v, e = .returned v ∧ Own w' w.heap.size v (cleanL s) ∧ Below w.heap.size w w' := by
  obtain ⟨i0, hi0, hz0, hz1, hz2⟩ := info_parts intInfo
  have H1 := hid h1
  have HC := hid hc
  clear h1 hc
  rcases hv : nestB s with _ | _
  · skip
    have HV := hid hv
    have E := hid (clean_no hv)
    clear hv
    have hB1 := Below.refl w.heap.size w
    have hB2 := hB1.alloc hB1.size (.cells #[.int .i64 s.d, .int .i64 s.w, .slice A1 s.m.length c1, .bool s.b] 25)
    clear hB1
    have x3 : At (w.alloc (.cells #[.int .i64 s.d, .int .i64 s.w, .slice A1 s.m.length c1, .bool s.b] 25)) (w.heap.size) 25 #[.int .i64 s.d, .int .i64 s.w, .slice A1 s.m.length c1, .bool s.b] := At.newAt _ _ (by first | rfl | (simp; done) | (simp; omega))
    go_enter Try.func25, Try.ntmps25
    obtain ⟨p0, p1, p2, p3, pl, pf⟩ := (⟨x3.cell 0, x3.cell 1, x3.cell 2, x3.cell 3, x3.lt, x3.frozen⟩ : _ ∧ _ ∧ _ ∧ _ ∧ _ ∧ _)
    go_wp2_with fail
    with_reducible refine (iValidNest_any s A1 c1 _ (h.on hB2) HC.out H1.out).mono ?_
    rintro e w1 ⟨he, hb1⟩
    rw [HV.out] at he
    subst he
    have sz1 : w.heap.size + 1 ≤ w1.heap.size := Nat.le_trans (by first | exact Nat.le_refl _ | (simp; done) | (simp; omega)) (hb1.size)
    have hB4 := hB2.trans (hb1.mono hB2.size)
    have x5 := x3.below hb1 x3.lt
    clear hB2 x3
    clear p0 p1 p2 p3 pl pf
    obtain ⟨p0, p1, p2, p3, pl, pf⟩ := (⟨x5.cell 0, x5.cell 1, x5.cell 2, x5.cell 3, x5.lt, x5.frozen⟩ : _ ∧ _ ∧ _ ∧ _ ∧ _ ∧ _)
    go_wp2
    go_ret
    exact ⟨_, rfl, by rw [E.out]; exact Own.none_ _ _, hB4⟩
  · skip
    have HV := hid hv
    have E := hid (clean_yes hv)
    have hd := (nestB_iff.1 hv).1
    obtain ⟨D, hD⟩ : ∃ D : Nat, s.d = D := ⟨s.d.toNat, by omega⟩
    have HD := hid hD
    have hD4 : D ≤ 4 := by omega
    have HE := hid (show cleanL s = List.replicate D 4 by rw [E.out, hD]; rfl)
    clear hv hd hD
    have hB6 := Below.refl w.heap.size w
    have hB7 := hB6.alloc hB6.size (.cells #[.int .i64 s.d, .int .i64 s.w, .slice A1 s.m.length c1, .bool s.b] 25)
    clear hB6
    have x8 : At (w.alloc (.cells #[.int .i64 s.d, .int .i64 s.w, .slice A1 s.m.length c1, .bool s.b] 25)) (w.heap.size) 25 #[.int .i64 s.d, .int .i64 s.w, .slice A1 s.m.length c1, .bool s.b] := At.newAt _ _ (by first | rfl | (simp; done) | (simp; omega))
    go_enter Try.func25, Try.ntmps25
    have ho0 : Own (w.alloc (.cells #[.int .i64 s.d, .int .i64 s.w, .slice A1 s.m.length c1, .bool s.b] 25)) w.heap.size (.slice none 0 0) [] := Own.none_ _ _
    have l9 := ho0
    clear ho0
    obtain ⟨p0, p1, p2, p3, pl, pf⟩ := (⟨x8.cell 0, x8.cell 1, x8.cell 2, x8.cell 3, x8.lt, x8.frozen⟩ : _ ∧ _ ∧ _ ∧ _ ∧ _ ∧ _)
    go_wp2_with fail
    with_reducible refine (iValidNest_any s A1 c1 _ (h.on hB7) HC.out H1.out).mono ?_
    rintro e w1 ⟨he, hb1⟩
    rw [HV.out] at he
    subst he
    have sz1 : w.heap.size + 1 ≤ w1.heap.size := Nat.le_trans (by first | exact Nat.le_refl _ | (simp; done) | (simp; omega)) (hb1.size)
    have hB10 := hB7.trans (hb1.mono hB7.size)
    have x11 := x8.below hb1 x8.lt
    have l12 := l9.below hb1
    clear hB7 x8 l9
    clear p0 p1 p2 p3 pl pf
    have xx := x11.four
    rw [HD.out] at xx
    obtain ⟨p0, p1, p2, p3, pl, pf⟩ := xx
    go_wp2_with fail
    go_loopw [3] (fun v wr => ∃ (k : Nat) (G : Option Addr) (e : Nat), k ≤ D ∧ v = .slice G k e ∧ At wr w.heap.size 25 #[.int .i64 s.d, .int .i64 s.w, .slice A1 s.m.length c1, .bool s.b] ∧ Own wr w.heap.size (.slice G k e) (List.replicate k 4) ∧ Below w.heap.size w wr) (fun v _ => D - (match v with | .slice _ n _ => n | _ => 0))
    case atStart => exact ⟨0, _, _, Nat.zero_le _, rfl, x11, l12, hB10⟩
    case round =>
      clear p0 p1 p2 p3 pl pf x11 hB10 l12
      obtain ⟨k, G, f, hk, rfl, x0, ho, hB0⟩ := hrel
      have szr : w.heap.size < wr.heap.size := x0.lt
      have xx := x0.four
      rw [HD.out] at xx
      obtain ⟨p0, p1, p2, p3, pl, pf⟩ := xx
      have hlow := ho.out.lt
      by_cases hlt : k < D
      · skip
        have hi : (k : Int) < (D : Int) := by omega
        go_wp2_with (at_builtin; refine wpList_append_own_at _ rfl _ _ 23 rfl w.heap.size 3 i0 (.int .i64 0) 1 8 Try.underlying23 hi0 hz0 hz1 hz2 rfl (by decide) _ _ _ rfl (show World.ownsRow (wr.alloc (.cells #[.int .i64 4] 3)) w.heap.size 3 1 (.slice G k f) k (ints (List.replicate k 4)) by have hq := (ho.alloc4 (.cells #[.int .i64 4] 3)).out; rw [List.length_replicate] at hq; exact hq) ⟨wr.heap.size, 0, none⟩ 1 1 [.int .i64 4] rfl rfl (cell_one_new _ _ _) ?c2 ?c3 ?c4 ?c5 ?_)
        case c2 => simp [Value.oneCell']
        case c3 => unfold maxLen; omega
        case c4 => omega
        case c5 => simp; omega
        case _ =>
          intro v6 w6 h6 hg6 _ _
          have ho6 : Own w6 w.heap.size v6 (List.replicate (k + 1) 4) := by
            unfold Own
            rw [List.length_replicate, List.replicate_succ', ints_app]; exact h6
          have x6 := (x0.alloc (.cells #[.int .i64 4] 3)).grown hg6 (fun e => row_ne ho.out x0 (by decide) e.symm)
          have hB6 := (hB0.alloc hB0.size (.cells #[.int .i64 4] 3)).grown hg6 (by simp; omega) (fun q hq => (hlow q hq).1)
          obtain ⟨A6, c6, rfl, _, _⟩ := own_form h6
          clear h6 hg6 hlow ho p0 p1 p2 p3 pl pf
          go_wp2
          go_roundw
          case rel => exact ⟨k + 1, A6, c6, by omega, rfl, x6, ho6, hB6⟩
          case measure => simp; omega
      · skip
        have hi : ¬ (k : Int) < (D : Int) := by omega
        have hkD : k = D := by omega
        have HO := hid (show Own wr w.heap.size (.slice G k f) (cleanL s) by rw [HE.out, ← hkD]; exact ho)
        clear hkD ho
        go_wp2
        go_ret
        exact ⟨_, rfl, HO.out, hB0⟩

end Go.Proofs.Ytocaddibdiikpaa

/-
  What the program's canStep and closeInnermost answer. Condition: the lists lie in memory.
-/
import Derived.Test.YtocaddibdiikpaaNsB
import Derived.Deep.RegionHeld3
import Derived.StillTailTactics
import Derived.Deep.CutRange
namespace Go.Proofs.Ytocaddibdiikpaa
open Go.RowKit Nes

theorem OwnM.past4 {w w' : World} {base : Nat} {A1 : Option Addr} {c1 : Nat} {s : Nst} (h : OwnM w base A1 c1 s) {g : Nat} {cs : Array Value} (ha : At w g 25 cs) (hg : w.grownBy w' (some g)) : OwnM w' base A1 c1 s := h.past ha (by decide) hg
theorem Sees.cellAt {w : World} {B b o : Nat} {l : List Int} (h : Sees w B (some ⟨b, o, none⟩) (ints l)) {k : Nat} (hk : k < l.length) : w.cell? ⟨b, o + k, none⟩ = some (.int .i64 l[k]) := by
  obtain ⟨b', o', e, _, hc⟩ := h.int hk
  injection e with e
  injection e with e1 e2
  subst e1 e2
  exact hc
theorem copyN_len {A : Option Addr} {n c : Nat} {l : List Int} {w : World} (hl : l.length = n) (h : Sees w w.heap.size A (ints l)) (hn : l.length ≤ 4194304) :
    Calls Try.prog 32 #[.slice A n c] w fun e w' => ∃ v, e = .returned v ∧ Own w' w.heap.size v l ∧ Below w.heap.size w w' := by
  subst hl; exact copyNumbers_any A c l w h hn
theorem scopyN_len {A : Option Addr} {n c : Nat} {l : List Int} {w : World} (hl : l.length = n) (h : Sees w w.heap.size A (ints l)) (hn : l.length ≤ 4194304) :
    Calls Try.prog 41 #[.slice A n c] w fun e w' => ∃ v, e = .returned v ∧ Own w' w.heap.size v l ∧ Below w.heap.size w w' := by
  subst hl; exact copyInts_any A c l w h hn
theorem shut_one {s : Nst} {v : Int} (h : s.d = 1) : shut s v = zeroN := if_pos h
theorem shut_more {s : Nst} {v : Int} (h : ¬ s.d = 1) : shut s v = ⟨s.d - 1, v, s.m.take (s.m.length - 1), false⟩ := if_neg h
/-- What closes the innermost transaction answers. -/
def ShutAns (s : Nst) (v : Int) (w : World) (e : Ending) (w' : World) : Prop :=
  ∃ A c, e = .returned (.agg #[.int .i64 (shut s v).d, .int .i64 (shut s v).w, .slice A (shut s v).m.length c, .bool (shut s v).b]) ∧ OwnM w' w.heap.size A c (shut s v) ∧ Below w.heap.size w w'
set_option maxHeartbeats 4000000 in
theorem canStep_any (s : Nst) (k : Int) (A1 : Option Addr) (c1 : Nat) (w : World) :
    Calls Try.prog 31 #[.agg #[.int .i64 s.d, .int .i64 s.w, .slice A1 s.m.length c1, .bool s.b], .int .i64 k] w fun e w' => e = .returned (.bool (canB s k)) ∧ Below w.heap.size w w' := by
  obtain ⟨d, w1, m, b⟩ := s
  cases b with
  | true =>
    by_cases k2 : k = 2
    · skip
      subst k2
      have E := hid (show canB ⟨d, w1, m, true⟩ 2 = true by simp [canB])
      have hB1 := Below.refl w.heap.size w
      have hB2 := hB1.alloc hB1.size (.cells #[.int .i64 d, .int .i64 w1, .slice A1 m.length c1, .bool true] 25)
      clear hB1
      have x3 : At (w.alloc (.cells #[.int .i64 d, .int .i64 w1, .slice A1 m.length c1, .bool true] 25)) (w.heap.size) 25 #[.int .i64 d, .int .i64 w1, .slice A1 m.length c1, .bool true] := At.newAt _ _ (by first | rfl | (simp; done) | (simp; omega))
      go_enter Try.func31, Try.ntmps31
      obtain ⟨p0, p1, p2, p3, pl, pf⟩ := (⟨x3.cell 0, x3.cell 1, x3.cell 2, x3.cell 3, x3.lt, x3.frozen⟩ : _ ∧ _ ∧ _ ∧ _ ∧ _ ∧ _)
      go_wp2
      go_ret
      exact ⟨ret_bool E.out.symm, hB2⟩
    by_cases k4 : k = 4
    · skip
      subst k4
      have E := hid (show canB ⟨d, w1, m, true⟩ 4 = true by simp [canB])
      have hB4 := Below.refl w.heap.size w
      have hB5 := hB4.alloc hB4.size (.cells #[.int .i64 d, .int .i64 w1, .slice A1 m.length c1, .bool true] 25)
      clear hB4
      have x6 : At (w.alloc (.cells #[.int .i64 d, .int .i64 w1, .slice A1 m.length c1, .bool true] 25)) (w.heap.size) 25 #[.int .i64 d, .int .i64 w1, .slice A1 m.length c1, .bool true] := At.newAt _ _ (by first | rfl | (simp; done) | (simp; omega))
      go_enter Try.func31, Try.ntmps31
      obtain ⟨p0, p1, p2, p3, pl, pf⟩ := (⟨x6.cell 0, x6.cell 1, x6.cell 2, x6.cell 3, x6.lt, x6.frozen⟩ : _ ∧ _ ∧ _ ∧ _ ∧ _ ∧ _)
      go_wp2
      go_ret
      exact ⟨ret_bool E.out.symm, hB5⟩
    · skip
      have n2 : (k == 2) = false := beq_eq_false_iff_ne.2 k2
      have n4 : (k == 4) = false := beq_eq_false_iff_ne.2 k4
      have E := hid (show canB ⟨d, w1, m, true⟩ k = false by simp [canB, k2, k4])
      clear k2 k4
      have hB7 := Below.refl w.heap.size w
      have hB8 := hB7.alloc hB7.size (.cells #[.int .i64 d, .int .i64 w1, .slice A1 m.length c1, .bool true] 25)
      clear hB7
      have x9 : At (w.alloc (.cells #[.int .i64 d, .int .i64 w1, .slice A1 m.length c1, .bool true] 25)) (w.heap.size) 25 #[.int .i64 d, .int .i64 w1, .slice A1 m.length c1, .bool true] := At.newAt _ _ (by first | rfl | (simp; done) | (simp; omega))
      go_enter Try.func31, Try.ntmps31
      obtain ⟨p0, p1, p2, p3, pl, pf⟩ := (⟨x9.cell 0, x9.cell 1, x9.cell 2, x9.cell 3, x9.lt, x9.frozen⟩ : _ ∧ _ ∧ _ ∧ _ ∧ _ ∧ _)
      go_wp2
      go_ret
      exact ⟨ret_bool E.out.symm, hB8⟩
  | false =>
    by_cases k0 : k = 0
    · skip
      subst k0
      have E := hid (show canB ⟨d, w1, m, false⟩ 0 = decide (d < 4) by simp [canB])
      have hB10 := Below.refl w.heap.size w
      have hB11 := hB10.alloc hB10.size (.cells #[.int .i64 d, .int .i64 w1, .slice A1 m.length c1, .bool false] 25)
      clear hB10
      have x12 : At (w.alloc (.cells #[.int .i64 d, .int .i64 w1, .slice A1 m.length c1, .bool false] 25)) (w.heap.size) 25 #[.int .i64 d, .int .i64 w1, .slice A1 m.length c1, .bool false] := At.newAt _ _ (by first | rfl | (simp; done) | (simp; omega))
      go_enter Try.func31, Try.ntmps31
      obtain ⟨p0, p1, p2, p3, pl, pf⟩ := (⟨x12.cell 0, x12.cell 1, x12.cell 2, x12.cell 3, x12.lt, x12.frozen⟩ : _ ∧ _ ∧ _ ∧ _ ∧ _ ∧ _)
      go_wp2
      go_ret
      exact ⟨ret_bool E.out.symm, hB11⟩
    by_cases k1 : k = 1
    · skip
      subst k1
      by_cases hd : d > 0
      · skip
        have hd2 : decide (0 < d) = true := by simpa using hd
        have E := hid (show canB ⟨d, w1, m, false⟩ 1 = decide (w1 < 12) by simp [canB]; intro _; exact hd)
        have hB13 := Below.refl w.heap.size w
        have hB14 := hB13.alloc hB13.size (.cells #[.int .i64 d, .int .i64 w1, .slice A1 m.length c1, .bool false] 25)
        clear hB13
        have x15 : At (w.alloc (.cells #[.int .i64 d, .int .i64 w1, .slice A1 m.length c1, .bool false] 25)) (w.heap.size) 25 #[.int .i64 d, .int .i64 w1, .slice A1 m.length c1, .bool false] := At.newAt _ _ (by first | rfl | (simp; done) | (simp; omega))
        go_enter Try.func31, Try.ntmps31
        obtain ⟨p0, p1, p2, p3, pl, pf⟩ := (⟨x15.cell 0, x15.cell 1, x15.cell 2, x15.cell 3, x15.lt, x15.frozen⟩ : _ ∧ _ ∧ _ ∧ _ ∧ _ ∧ _)
        go_wp2
        go_ret
        exact ⟨ret_bool E.out.symm, hB14⟩
      · skip
        have hd2 : decide (0 < d) = false := by simpa using hd
        have E := hid (show canB ⟨d, w1, m, false⟩ 1 = false by simp [canB]; omega)
        have hB16 := Below.refl w.heap.size w
        have hB17 := hB16.alloc hB16.size (.cells #[.int .i64 d, .int .i64 w1, .slice A1 m.length c1, .bool false] 25)
        clear hB16
        have x18 : At (w.alloc (.cells #[.int .i64 d, .int .i64 w1, .slice A1 m.length c1, .bool false] 25)) (w.heap.size) 25 #[.int .i64 d, .int .i64 w1, .slice A1 m.length c1, .bool false] := At.newAt _ _ (by first | rfl | (simp; done) | (simp; omega))
        go_enter Try.func31, Try.ntmps31
        obtain ⟨p0, p1, p2, p3, pl, pf⟩ := (⟨x18.cell 0, x18.cell 1, x18.cell 2, x18.cell 3, x18.lt, x18.frozen⟩ : _ ∧ _ ∧ _ ∧ _ ∧ _ ∧ _)
        go_wp2
        go_ret
        exact ⟨ret_bool E.out.symm, hB17⟩
    by_cases k2 : k = 2
    · skip
      subst k2
      have E := hid (show canB ⟨d, w1, m, false⟩ 2 = decide (0 < d) by simp [canB])
      have hB19 := Below.refl w.heap.size w
      have hB20 := hB19.alloc hB19.size (.cells #[.int .i64 d, .int .i64 w1, .slice A1 m.length c1, .bool false] 25)
      clear hB19
      have x21 : At (w.alloc (.cells #[.int .i64 d, .int .i64 w1, .slice A1 m.length c1, .bool false] 25)) (w.heap.size) 25 #[.int .i64 d, .int .i64 w1, .slice A1 m.length c1, .bool false] := At.newAt _ _ (by first | rfl | (simp; done) | (simp; omega))
      go_enter Try.func31, Try.ntmps31
      obtain ⟨p0, p1, p2, p3, pl, pf⟩ := (⟨x21.cell 0, x21.cell 1, x21.cell 2, x21.cell 3, x21.lt, x21.frozen⟩ : _ ∧ _ ∧ _ ∧ _ ∧ _ ∧ _)
      go_wp2
      go_ret
      exact ⟨ret_bool E.out.symm, hB20⟩
    by_cases k3 : k = 3
    · skip
      subst k3
      have E := hid (show canB ⟨d, w1, m, false⟩ 3 = decide (0 < d) by simp [canB])
      have hB22 := Below.refl w.heap.size w
      have hB23 := hB22.alloc hB22.size (.cells #[.int .i64 d, .int .i64 w1, .slice A1 m.length c1, .bool false] 25)
      clear hB22
      have x24 : At (w.alloc (.cells #[.int .i64 d, .int .i64 w1, .slice A1 m.length c1, .bool false] 25)) (w.heap.size) 25 #[.int .i64 d, .int .i64 w1, .slice A1 m.length c1, .bool false] := At.newAt _ _ (by first | rfl | (simp; done) | (simp; omega))
      go_enter Try.func31, Try.ntmps31
      obtain ⟨p0, p1, p2, p3, pl, pf⟩ := (⟨x24.cell 0, x24.cell 1, x24.cell 2, x24.cell 3, x24.lt, x24.frozen⟩ : _ ∧ _ ∧ _ ∧ _ ∧ _ ∧ _)
      go_wp2
      go_ret
      exact ⟨ret_bool E.out.symm, hB23⟩
    by_cases k4 : k = 4
    · skip
      subst k4
      have E := hid (show canB ⟨d, w1, m, false⟩ 4 = decide (0 < d) by simp [canB])
      have hB25 := Below.refl w.heap.size w
      have hB26 := hB25.alloc hB25.size (.cells #[.int .i64 d, .int .i64 w1, .slice A1 m.length c1, .bool false] 25)
      clear hB25
      have x27 : At (w.alloc (.cells #[.int .i64 d, .int .i64 w1, .slice A1 m.length c1, .bool false] 25)) (w.heap.size) 25 #[.int .i64 d, .int .i64 w1, .slice A1 m.length c1, .bool false] := At.newAt _ _ (by first | rfl | (simp; done) | (simp; omega))
      go_enter Try.func31, Try.ntmps31
      obtain ⟨p0, p1, p2, p3, pl, pf⟩ := (⟨x27.cell 0, x27.cell 1, x27.cell 2, x27.cell 3, x27.lt, x27.frozen⟩ : _ ∧ _ ∧ _ ∧ _ ∧ _ ∧ _)
      go_wp2
      go_ret
      exact ⟨ret_bool E.out.symm, hB26⟩
    · skip
      have n0 : (k == 0) = false := beq_eq_false_iff_ne.2 k0
      have n1 : (k == 1) = false := beq_eq_false_iff_ne.2 k1
      have n2 : (k == 2) = false := beq_eq_false_iff_ne.2 k2
      have n3 : (k == 3) = false := beq_eq_false_iff_ne.2 k3
      have n4 : (k == 4) = false := beq_eq_false_iff_ne.2 k4
      have E := hid (show canB ⟨d, w1, m, false⟩ k = false by simp [canB, k0, k1, k2, k3, k4])
      clear k0 k1 k2 k3 k4
      have hB28 := Below.refl w.heap.size w
      have hB29 := hB28.alloc hB28.size (.cells #[.int .i64 d, .int .i64 w1, .slice A1 m.length c1, .bool false] 25)
      clear hB28
      have x30 : At (w.alloc (.cells #[.int .i64 d, .int .i64 w1, .slice A1 m.length c1, .bool false] 25)) (w.heap.size) 25 #[.int .i64 d, .int .i64 w1, .slice A1 m.length c1, .bool false] := At.newAt _ _ (by first | rfl | (simp; done) | (simp; omega))
      go_enter Try.func31, Try.ntmps31
      obtain ⟨p0, p1, p2, p3, pl, pf⟩ := (⟨x30.cell 0, x30.cell 1, x30.cell 2, x30.cell 3, x30.lt, x30.frozen⟩ : _ ∧ _ ∧ _ ∧ _ ∧ _ ∧ _)
      go_wp2
      go_ret
      exact ⟨ret_bool E.out.symm, hB29⟩

set_option maxHeartbeats 4000000 in
theorem closeInnermost_any (s : Nst) (v : Int) (A1 : Option Addr) (c1 : Nat) (w : World) (h : SeesM w w.heap.size A1 s) (hc : s.m.length ≤ c1) (hd : 0 < s.d) (hd4 : s.d ≤ 4) (hl : (s.m.length : Int) = s.d) :
    Calls Try.prog 33 #[.agg #[.int .i64 s.d, .int .i64 s.w, .slice A1 s.m.length c1, .bool s.b], .int .i64 v] w (ShutAns s v w) := by
  have hw1 : IntKind.i64.wrap (s.d - 1) = s.d - 1 := by rw [IntKind.wrap_i64]; omega
  by_cases h1 : s.d = 1
  · skip
    have E := hid (shut_one (v := v) h1)
    have hwz : IntKind.i64.wrap (s.d - 1) = 0 := by rw [hw1, h1]; rfl
    have HD := hid h1
    clear h1 hw1 hl hd hd4
    have hB1 := Below.refl w.heap.size w
    have hB2 := hB1.alloc hB1.size (.cells #[.int .i64 s.d, .int .i64 s.w, .slice A1 s.m.length c1, .bool s.b] 25)
    clear hB1
    have x3 : At (w.alloc (.cells #[.int .i64 s.d, .int .i64 s.w, .slice A1 s.m.length c1, .bool s.b] 25)) (w.heap.size) 25 #[.int .i64 s.d, .int .i64 s.w, .slice A1 s.m.length c1, .bool s.b] := At.newAt _ _ (by first | rfl | (simp; done) | (simp; omega))
    have hB4 := hB2.alloc hB2.size (.cells #[.int .i64 0, .int .i64 0, .slice none 0 0, .bool false] 25)
    have x5 := x3.alloc (.cells #[.int .i64 0, .int .i64 0, .slice none 0 0, .bool false] 25)
    clear hB2 x3
    have r6 : At ((w.alloc (.cells #[.int .i64 s.d, .int .i64 s.w, .slice A1 s.m.length c1, .bool s.b] 25)).alloc (.cells #[.int .i64 0, .int .i64 0, .slice none 0 0, .bool false] 25)) (w.heap.size + 1) 25 #[.int .i64 0, .int .i64 0, .slice none 0 0, .bool false] := At.newAt _ _ (by first | rfl | (simp; done) | (simp; omega))
    go_enter Try.func33, Try.ntmps33
    obtain ⟨p0, p1, p2, p3, pl, pf⟩ := (⟨x5.cell 0, x5.cell 1, x5.cell 2, x5.cell 3, x5.lt, x5.frozen⟩ : _ ∧ _ ∧ _ ∧ _ ∧ _ ∧ _)
    obtain ⟨q0, q1, q2, q3, ql, qf⟩ := (⟨r6.cell 0, r6.cell 1, r6.cell 2, r6.cell 3, r6.lt, r6.frozen⟩ : _ ∧ _ ∧ _ ∧ _ ∧ _ ∧ _)
    have ne_pq : ¬ w.heap.size = w.heap.size + 1 := by omega
    have ne_qp : ¬ w.heap.size + 1 = w.heap.size := by omega
    go_wp2
    refine bodyPost_ret (v := .agg #[.int .i64 0, .int .i64 0, .slice none 0 0, .bool false]) (by simp [results, Try.results33, go_sem, r6.cell]) rfl ?_
    exact ⟨none, 0, by rw [E.out]; rfl, by rw [E.out]; exact OwnM.zero _ _, hB4⟩
  · skip
    have E := hid (shut_more (v := v) h1)
    obtain ⟨n, hn⟩ : ∃ n, n = s.m.length - 1 := ⟨_, rfl⟩
    rw [← hn] at E
    have hdn : s.d - 1 = (n : Int) := by omega
    rw [hdn] at E
    have hw2 : IntKind.i64.wrap (s.d - 1) = (n : Int) := by rw [hw1, hdn]
    have hnz : ((n : Int) == 0) = false := beq_eq_false_iff_ne.2 (by omega)
    have n1 : (0 : Int) ≤ (n : Int) := by omega
    have n2 : (n : Int) ≤ (s.m.length : Int) := by omega
    have n3 : (n : Int) ≤ (c1 : Int) := by omega
    have n4 : (s.m.length : Int) ≤ (c1 : Int) := by omega
    have hn4 : n ≤ 4 := by omega
    have HT := hid (show (s.m.take n).length = n by rw [List.length_take]; omega)
    have HTn := hid (show (s.m.take n).length ≤ 4194304 by rw [HT.out]; omega)
    have HS := hid (fun (w1 : World) (hs : SeesM w1 w1.heap.size A1 s) => (show Sees w1 w1.heap.size A1 (ints (s.m.take n)) by rw [show ints (s.m.take n) = (ints s.m).take n by simp [ints]]; exact hs.marks.take n))
    clear hn hdn h1 hw1
    have hB7 := Below.refl w.heap.size w
    have hB8 := hB7.alloc hB7.size (.cells #[.int .i64 s.d, .int .i64 s.w, .slice A1 s.m.length c1, .bool s.b] 25)
    clear hB7
    have x9 : At (w.alloc (.cells #[.int .i64 s.d, .int .i64 s.w, .slice A1 s.m.length c1, .bool s.b] 25)) (w.heap.size) 25 #[.int .i64 s.d, .int .i64 s.w, .slice A1 s.m.length c1, .bool s.b] := At.newAt _ _ (by first | rfl | (simp; done) | (simp; omega))
    have hB10 := hB8.alloc hB8.size (.cells #[.int .i64 0, .int .i64 0, .slice none 0 0, .bool false] 25)
    have x11 := x9.alloc (.cells #[.int .i64 0, .int .i64 0, .slice none 0 0, .bool false] 25)
    clear hB8 x9
    have r12 : At ((w.alloc (.cells #[.int .i64 s.d, .int .i64 s.w, .slice A1 s.m.length c1, .bool s.b] 25)).alloc (.cells #[.int .i64 0, .int .i64 0, .slice none 0 0, .bool false] 25)) (w.heap.size + 1) 25 #[.int .i64 0, .int .i64 0, .slice none 0 0, .bool false] := At.newAt _ _ (by first | rfl | (simp; done) | (simp; omega))
    go_enter Try.func33, Try.ntmps33
    obtain ⟨p0, p1, p2, p3, pl, pf⟩ := (⟨x11.cell 0, x11.cell 1, x11.cell 2, x11.cell 3, x11.lt, x11.frozen⟩ : _ ∧ _ ∧ _ ∧ _ ∧ _ ∧ _)
    obtain ⟨q0, q1, q2, q3, ql, qf⟩ := (⟨r12.cell 0, r12.cell 1, r12.cell 2, r12.cell 3, r12.lt, r12.frozen⟩ : _ ∧ _ ∧ _ ∧ _ ∧ _ ∧ _)
    have ne_pq : ¬ w.heap.size = w.heap.size + 1 := by omega
    have ne_qp : ¬ w.heap.size + 1 = w.heap.size := by omega
    go_wp2_with fail
    with_reducible refine (copyN_len HT.out (HS.out _ (h.on hB10)) HTn.out).mono ?_
    rintro e w1 ⟨v1, rfl, ho1, hb1⟩
    obtain ⟨A1, c1, rfl, _⟩ := ho1.form
    obtain ⟨R, hR⟩ : ∃ R : Nst, R = ⟨(n : Int), v, s.m.take n, false⟩ := ⟨_, rfl⟩
    have HRl := hid (show R.m.length = n by rw [hR]; exact HT.out)
    have HRm := hid (show s.m.take n = R.m by rw [hR])
    rw [HRm.out] at ho1
    rw [← hR] at E
    have HRd := hid (show R.d = (n : Int) by rw [hR])
    have HRw := hid (show R.w = v by rw [hR])
    have HRb := hid (show R.b = false by rw [hR])
    clear hR
    have sz1 : w.heap.size + 2 ≤ w1.heap.size := Nat.le_trans (by first | exact Nat.le_refl _ | (simp; done) | (simp; omega)) (hb1.size)
    have hB13 := hB10.trans (hb1.mono hB10.size)
    have x14 := x11.below hb1 x11.lt
    have r15 := r12.below hb1 r12.lt
    clear hB10 x11 r12
    clear p0 p1 p2 p3 pl pf q0 q1 q2 q3 ql qf ne_pq ne_qp
    have o16 : OwnM w1 (w.heap.size + 2) A1 c1 R := OwnM.mono (show OwnM w1 _ A1 c1 R from ho1) (by first | (simp; done) | (simp; omega))
    clear ho1
    have HTR := hid (show (s.m.take n).length = R.m.length by rw [HT.out, HRl.out])
    rw [HTR.out]
    obtain ⟨p0, p1, p2, p3, pl, pf⟩ := (⟨x14.cell 0, x14.cell 1, x14.cell 2, x14.cell 3, x14.lt, x14.frozen⟩ : _ ∧ _ ∧ _ ∧ _ ∧ _ ∧ _)
    obtain ⟨q0, q1, q2, q3, ql, qf⟩ := (⟨r15.cell 0, r15.cell 1, r15.cell 2, r15.cell 3, r15.lt, r15.frozen⟩ : _ ∧ _ ∧ _ ∧ _ ∧ _ ∧ _)
    have ne_pq : ¬ w.heap.size = w.heap.size + 1 := by omega
    have ne_qp : ¬ w.heap.size + 1 = w.heap.size := by omega
    have hB17 := below_put hB13 (grown_set w1 (w.heap.size + 1) 0 (.int .i64 (n : Int))) (by omega) (by have := hB13.size; omega)
    have x18 := x14.past (grown_set w1 (w.heap.size + 1) 0 (.int .i64 (n : Int))) (by omega)
    have o19 := o16.past4 r15 (grown_set w1 (w.heap.size + 1) 0 (.int .i64 (n : Int)))
    have r20 : At (w1.setCell ⟨w.heap.size + 1, 0, none⟩ (.int .i64 (n : Int))) (w.heap.size + 1) 25 #[.int .i64 (n : Int), .int .i64 0, .slice none 0 0, .bool false] := by simpa using r15.set 0 (.int .i64 (n : Int))
    clear hB13 x14 o16 r15
    have hB21 := below_put hB17 (grown_set (w1.setCell ⟨w.heap.size + 1, 0, none⟩ (.int .i64 (n : Int))) (w.heap.size + 1) 1 (.int .i64 v)) (by omega) (by have := hB17.size; omega)
    have x22 := x18.past (grown_set (w1.setCell ⟨w.heap.size + 1, 0, none⟩ (.int .i64 (n : Int))) (w.heap.size + 1) 1 (.int .i64 v)) (by omega)
    have o23 := o19.past4 r20 (grown_set (w1.setCell ⟨w.heap.size + 1, 0, none⟩ (.int .i64 (n : Int))) (w.heap.size + 1) 1 (.int .i64 v))
    have r24 : At ((w1.setCell ⟨w.heap.size + 1, 0, none⟩ (.int .i64 (n : Int))).setCell ⟨w.heap.size + 1, 1, none⟩ (.int .i64 v)) (w.heap.size + 1) 25 #[.int .i64 (n : Int), .int .i64 v, .slice none 0 0, .bool false] := by simpa using r20.set 1 (.int .i64 v)
    clear hB17 x18 o19 r20
    have hB25 := below_put hB21 (grown_set ((w1.setCell ⟨w.heap.size + 1, 0, none⟩ (.int .i64 (n : Int))).setCell ⟨w.heap.size + 1, 1, none⟩ (.int .i64 v)) (w.heap.size + 1) 2 (.slice A1 R.m.length c1)) (by omega) (by have := hB21.size; omega)
    have x26 := x22.past (grown_set ((w1.setCell ⟨w.heap.size + 1, 0, none⟩ (.int .i64 (n : Int))).setCell ⟨w.heap.size + 1, 1, none⟩ (.int .i64 v)) (w.heap.size + 1) 2 (.slice A1 R.m.length c1)) (by omega)
    have o27 := o23.past4 r24 (grown_set ((w1.setCell ⟨w.heap.size + 1, 0, none⟩ (.int .i64 (n : Int))).setCell ⟨w.heap.size + 1, 1, none⟩ (.int .i64 v)) (w.heap.size + 1) 2 (.slice A1 R.m.length c1))
    have r28 : At (((w1.setCell ⟨w.heap.size + 1, 0, none⟩ (.int .i64 (n : Int))).setCell ⟨w.heap.size + 1, 1, none⟩ (.int .i64 v)).setCell ⟨w.heap.size + 1, 2, none⟩ (.slice A1 R.m.length c1)) (w.heap.size + 1) 25 #[.int .i64 (n : Int), .int .i64 v, .slice A1 R.m.length c1, .bool false] := by simpa using r24.set 2 (.slice A1 R.m.length c1)
    clear hB21 x22 o23 r24
    have hB29 := below_put hB25 (grown_set (((w1.setCell ⟨w.heap.size + 1, 0, none⟩ (.int .i64 (n : Int))).setCell ⟨w.heap.size + 1, 1, none⟩ (.int .i64 v)).setCell ⟨w.heap.size + 1, 2, none⟩ (.slice A1 R.m.length c1)) (w.heap.size + 1) 3 (.bool false)) (by omega) (by have := hB25.size; omega)
    have x30 := x26.past (grown_set (((w1.setCell ⟨w.heap.size + 1, 0, none⟩ (.int .i64 (n : Int))).setCell ⟨w.heap.size + 1, 1, none⟩ (.int .i64 v)).setCell ⟨w.heap.size + 1, 2, none⟩ (.slice A1 R.m.length c1)) (w.heap.size + 1) 3 (.bool false)) (by omega)
    have o31 := o27.past4 r28 (grown_set (((w1.setCell ⟨w.heap.size + 1, 0, none⟩ (.int .i64 (n : Int))).setCell ⟨w.heap.size + 1, 1, none⟩ (.int .i64 v)).setCell ⟨w.heap.size + 1, 2, none⟩ (.slice A1 R.m.length c1)) (w.heap.size + 1) 3 (.bool false))
    have r32 : At ((((w1.setCell ⟨w.heap.size + 1, 0, none⟩ (.int .i64 (n : Int))).setCell ⟨w.heap.size + 1, 1, none⟩ (.int .i64 v)).setCell ⟨w.heap.size + 1, 2, none⟩ (.slice A1 R.m.length c1)).setCell ⟨w.heap.size + 1, 3, none⟩ (.bool false)) (w.heap.size + 1) 25 #[.int .i64 (n : Int), .int .i64 v, .slice A1 R.m.length c1, .bool false] := by simpa using r28.set 3 (.bool false)
    clear hB25 x26 o27 r28
    go_wp2
    refine bodyPost_ret (v := .agg #[.int .i64 (n : Int), .int .i64 v, .slice A1 R.m.length c1, .bool false]) (by simp [results, Try.results33, go_sem, r32.cell]) rfl ?_
    exact ⟨A1, c1, by rw [E.out, HRd.out, HRw.out, HRb.out], by rw [E.out]; exact o31.mono (by omega), hB29⟩

end Go.Proofs.Ytocaddibdiikpaa

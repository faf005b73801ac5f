/-
  Share in the exact laws: what the helpers answer that measure, copy, compare and mark. Condition: the lists lie in memory and are at most 2^22 long.
-/
import Derived.Test.YtgfdjhbkmnhppaaMidW
import Derived.Test.YtgfdjhbkmnhppaaExG
import Derived.Test.YtgfdjhbkmnhppaaXGen
import Derived.Test.YtgfdjhbkmnhppaaShA
import Derived.Handy
namespace Go.Proofs.Ytgfdjhbkmnhppaa
open Go.RowKit Sha

theorem Own.kept5 {w w' : World} {base : Nat} {v : Value} {ys : List Int} {row : Option Nat} (h : Own w base v ys) (hg : w.grownBy w' row) (hr : ∀ k, v.ownBlock = some k → row ≠ some k) : Own w' base v ys := row_kept h hg hr
/-- The lists lie in rows of the call's own, in blocks from lo to before hi, no two in one. -/
def IvShare (w : World) (lo hi : Nat) (A1 A2 : Option Addr) (c1 c2 : Nat) (p : Shr) : Prop :=
  IvL w lo hi A1 c1 p.m ∧ IvL w lo hi A2 c2 p.h ∧ (∀ k, (Value.slice A1 p.m.length c1).ownBlock = some k → (Value.slice A2 p.h.length c2).ownBlock ≠ some k)
section
variable {w w' : World} {lo hi : Nat} {A1 A2 : Option Addr} {c1 c2 : Nat} {p : Shr}
theorem IvShare.l1 (h : IvShare w lo hi A1 A2 c1 c2 p) : IvL w lo hi A1 c1 p.m := h.1
theorem IvShare.l2 (h : IvShare w lo hi A1 A2 c1 c2 p) : IvL w lo hi A2 c2 p.h := h.2.1
theorem IvShare.f12 (h : IvShare w lo hi A1 A2 c1 c2 p) : ∀ k, (Value.slice A1 p.m.length c1).ownBlock = some k → (Value.slice A2 p.h.length c2).ownBlock ≠ some k := h.2.2
theorem IvShare.below (h : IvShare w lo hi A1 A2 c1 c2 p) (hb : Below w.heap.size w w') : IvShare w' lo hi A1 A2 c1 c2 p := ⟨(h.1).below hb, (h.2.1).below hb, h.2.2⟩
theorem IvShare.alloc (h : IvShare w lo hi A1 A2 c1 c2 p) (o : Obj) : IvShare (w.alloc o) lo hi A1 A2 c1 c2 p := h.below ((Below.refl _ _).alloc (Nat.le_refl _) o)
theorem IvShare.drew (h : IvShare w lo hi A1 A2 c1 c2 p) : IvShare w.drew lo hi A1 A2 c1 c2 p := h.below (Below.refl _ _).drew
theorem IvShare.mid {lo' hi' : Nat} (h : IvShare w lo hi A1 A2 c1 c2 p) (hm : Mid lo' hi' w w') (hd : hi ≤ lo' ∨ hi' ≤ lo) : IvShare w' lo hi A1 A2 c1 c2 p := ⟨(h.1).mid hm hd, (h.2.1).mid hm hd, h.2.2⟩
theorem IvShare.of_own {base : Nat} (h : OwnR w base A1 A2 c1 c2 p) : IvShare w base w.heap.size A1 A2 c1 c2 p := ⟨IvL.of_own h.1, IvL.of_own h.2.1, h.2.2⟩
theorem IvShare.sees (h : IvShare w lo hi A1 A2 c1 c2 p) : SeesR w w.heap.size A1 A2 p := ⟨(h.1).sees, (h.2.1).sees⟩
end
/-- The lists have been marked. -/
def Sha.Shr.marked (p : Shr) : Shr := ⟨p.t, marksG 1 p.m.length, marksG (1 + p.m.length) p.h.length⟩
def Sha.Shr.count (p : Shr) : Int := 1 + p.m.length + p.h.length
theorem Sha.Shr.count_pos (p : Shr) : ¬ p.count < 0 := by unfold Shr.count; omega

theorem Sha.Shr.marked_m (p : Shr) : p.marked.m.length = p.m.length := marksG_len _ _
theorem Sha.Shr.marked_h (p : Shr) : p.marked.h.length = p.h.length := marksG_len _ _
set_option maxHeartbeats 1000000 in
theorem szShare_any (A1 A2 : Option Addr) (n1 n2 c1 c2 : Nat) (x_t : Int) (w : World) (h1 : n1 ≤ maxLen) (h2 : n2 ≤ maxLen) :
    Calls Try.prog 11 #[.agg #[.int .i64 x_t, .slice A1 n1 c1, .slice A2 n2 c2], .int .i64 1048576] w fun e w' => e = .returned (.int .i64 (if 1048576 < n1 + n2 then -1 else 1048576 - ((n1 + n2 : Nat) : Int))) ∧ Below w.heap.size w w' := by
  obtain ⟨V, hV⟩ : ∃ V : Int, V = (if 1048576 < n1 + n2 then -1 else 1048576 - ((n1 + n2 : Nat) : Int)) := ⟨_, rfl⟩
  rw [← hV]
  have HV := hid hV
  clear hV
  have H1 := hid h1
  have H2 := hid h2
  clear h1 h2
  have hb := (Below.refl w.heap.size w).alloc (Nat.le_refl _) (.cells #[.int .i64 x_t, .slice A1 n1 c1, .slice A2 n2 c2] 24)
  go_enter Try.func11, Try.ntmps11
  by_cases x1 : 1048576 < n1
  · have E1 : Hid ((if 1048576 < n1 then (-1 : Int) else ((1048576 : Nat) : Int) - n1) = -1) := hid (if_pos x1)
    go_wp2_with fail
    refine (szIntS_g A1 n1 c1 1048576 _ H1.out (by omega)).mono ?_
    rintro e w1 ⟨he, rfl⟩
    rw [E1.out] at he
    subst he
    go_wp2
    go_ret
    exact ⟨ret_int (by rw [HV.out, if_pos (by omega)]), hb⟩
  · have E1 : Hid ((if 1048576 < n1 then (-1 : Int) else ((1048576 : Nat) : Int) - n1) = ((1048576 - n1 : Nat) : Int)) := hid ((if_neg x1).trans (by omega))
    have y1 : ¬ ((1048576 - n1 : Nat) : Int) < 0 := by omega
    obtain ⟨r1, hr1⟩ : ∃ r1, r1 = 1048576 - n1 := ⟨_, rfl⟩
    rw [← hr1] at E1 y1
    have HR1 := hid hr1
    clear hr1
    go_wp2_with fail
    refine (szIntS_g A1 n1 c1 1048576 _ H1.out (by omega)).mono ?_
    rintro e w1 ⟨he, rfl⟩
    rw [E1.out] at he
    subst he
    by_cases x2 : r1 < n2
    · have E2 : Hid ((if r1 < n2 then (-1 : Int) else (r1 : Int) - n2) = -1) := hid (if_pos x2)
      go_wp2_with fail
      refine (szIntS_g A2 n2 c2 r1 _ H2.out (by have := HR1.out; omega)).mono ?_
      rintro e w1 ⟨he, rfl⟩
      rw [E2.out] at he
      subst he
      go_wp2
      go_ret
      exact ⟨ret_int (by rw [HV.out, if_pos (by have := HR1.out; omega)]), hb⟩
    · have E2 : Hid ((if r1 < n2 then (-1 : Int) else (r1 : Int) - n2) = ((r1 - n2 : Nat) : Int)) := hid ((if_neg x2).trans (by omega))
      have y2 : ¬ ((r1 - n2 : Nat) : Int) < 0 := by omega
      have E9 := hid (show 1048576 - ((n1 + n2 : Nat) : Int) = ((r1 - n2 : Nat) : Int) by have := HR1.out; omega)
      go_wp2_with fail
      refine (szIntS_g A2 n2 c2 r1 _ H2.out (by have := HR1.out; omega)).mono ?_
      rintro e w1 ⟨he, rfl⟩
      rw [E2.out] at he
      subst he
      go_wp2
      go_ret
      exact ⟨ret_int (by rw [HV.out, if_neg (by have := HR1.out; omega)]; exact E9.out.symm), hb⟩

set_option maxHeartbeats 1000000 in
theorem markShare_any (lo hi : Nat) (A1 A2 : Option Addr) (c1 c2 : Nat) (p : Shr) (w : World) (h : IvShare w lo hi A1 A2 c1 c2 p) (h1 : p.m.length ≤ 4194304) (h2 : p.h.length ≤ 4194304) :
    Calls Try.prog 22 #[.agg #[.int .i64 p.t, .slice A1 p.m.length c1, .slice A2 p.h.length c2], .int .i64 1] w fun e w' => e = .returned (.int .i64 p.count) ∧ Mid lo hi w w' ∧ IvShare w' lo hi A1 A2 c1 c2 p.marked := by
  have H1 := hid h1
  have H2 := hid h2
  clear h1 h2
  have t1 := h.l1.top
  have t2 := h.l2.top
  have f12 := h.f12
  have hb := (Below.refl w.heap.size w).alloc (Nat.le_refl _) (.cells #[.int .i64 p.t, .slice A1 p.m.length c1, .slice A2 p.h.length c2] 27)
  have o1 := (h.l1.below hb).own
  have b1 := (h.l1.own.out).lt
  have o2 := (h.l2.below hb).own
  have b2 := (h.l2.own.out).lt
  have m0 : Mid lo hi w (w.alloc (.cells #[.int .i64 p.t, .slice A1 p.m.length c1, .slice A2 p.h.length c2] 27)) := Mid.of_below hb (Nat.le_refl _)
  clear h hb
  have q0 := (At.new w 27 #[.int .i64 p.t, .slice A1 p.m.length c1, .slice A2 p.h.length c2])
  have E1 := hid (show (((1 : Nat) : Int) + p.m.length) = ((1 + p.m.length : Nat) : Int) by omega)
  have E2 := hid (show (((1 + p.m.length : Nat) : Int) + p.h.length) = p.count by unfold Shr.count; omega)
  obtain ⟨p0, p1, p2, pl⟩ := (⟨q0.cell 0, q0.cell 1, q0.cell 2, q0.lt⟩ : _ ∧ _ ∧ _ ∧ _)
  go_enter Try.func22, Try.ntmps22
  go_wp2_with fail
  refine (markIntS_g 1 lo A1 c1 p.m _ o1 H1.out (by omega)).mono ?_
  rintro e w1 ⟨he, n1, g1⟩
  rw [E1.out] at he
  subst he
  have q1 := q0.grown g1 (fun e => by have := b1 _ e.symm; omega)
  have m1 := m0.trans (Mid.grown g1 t1)
  have o2_0 := Own.kept5 o2 g1 (fun k hk e => f12 k e hk)
  clear p0 p1 p2 pl q0 g1 m0
  obtain ⟨p0, p1, p2, pl⟩ := (⟨q1.cell 0, q1.cell 1, q1.cell 2, q1.lt⟩ : _ ∧ _ ∧ _ ∧ _)
  go_wp2_with fail
  refine (markIntS_g (1 + p.m.length) lo A2 c2 p.h _ o2_0 H2.out (by have := H1.out; omega)).mono ?_
  rintro e w2 ⟨he, n2, g2⟩
  rw [E2.out] at he
  subst he
  have q2 := q1.grown g2 (fun e => by have := b2 _ e.symm; omega)
  have m2 := m1.trans (Mid.grown g2 t2)
  have n1_1 : Own w2 lo (.slice A1 p.m.length c1) (marksG 1 p.m.length) := row_kept n1 g2 (fun k hk e => f12 k hk e)
  clear p0 p1 p2 pl q1 g2 m1
  have hO : IvShare w2 lo hi A1 A2 c1 c2 p.marked := by
    unfold IvShare IvL
    simp only [Shr.marked_m, Shr.marked_h]
    exact ⟨⟨n1_1, fun k hk => (t1 k hk).2⟩, ⟨n2, fun k hk => (t2 k hk).2⟩, f12⟩
  go_wp2
  go_ret
  exact ⟨rfl, m2, hO⟩

set_option maxHeartbeats 1000000 in
theorem heldShare_any (A1 A2 : Option Addr) (c1 c2 : Nat) (p : Shr) (w : World) (h : SeesR w w.heap.size A1 A2 p.marked) (h1 : p.m.length ≤ 4194304) (h2 : p.h.length ≤ 4194304) :
    Calls Try.prog 23 #[.agg #[.int .i64 p.t, .slice A1 p.m.length c1, .slice A2 p.h.length c2], .int .i64 1] w fun e w' => e = .returned (.int .i64 p.count) ∧ Below w.heap.size w w' := by
  have H1 := hid h1
  have H2 := hid h2
  clear h1 h2
  have hb := (Below.refl w.heap.size w).alloc (Nat.le_refl _) (.cells #[.int .i64 p.t, .slice A1 p.m.length c1, .slice A2 p.h.length c2] 27)
  have hs := h.on hb
  have E1 := hid (show (((1 : Nat) : Int) + p.m.length) = ((1 + p.m.length : Nat) : Int) by omega)
  have y1 : ¬ ((1 + p.m.length : Nat) : Int) < 0 := by omega
  have E2 := hid (show (((1 + p.m.length : Nat) : Int) + p.h.length) = p.count by unfold Shr.count; omega)
  have y9 := p.count_pos
  go_enter Try.func23, Try.ntmps23
  go_wp2_with fail
  refine (heldIntS_g 1 A1 p.m.length c1 _ hs.most H1.out (by omega)).mono ?_
  rintro e w1 ⟨he, rfl⟩
  rw [E1.out] at he
  subst he
  go_wp2_with fail
  refine (heldIntS_g (1 + p.m.length) A2 p.h.length c2 _ hs.has H2.out (by have := H1.out; omega)).mono ?_
  rintro e w1 ⟨he, rfl⟩
  rw [E2.out] at he
  subst he
  go_wp2
  go_ret
  exact ⟨rfl, hb⟩

set_option maxHeartbeats 1000000 in
theorem eqShare_same (A1 A2 B1 B2 : Option Addr) (c1 c2 d1 d2 : Nat) (p : Shr) (w : World) (h : SeesR w w.heap.size A1 A2 p) (h' : SeesR w w.heap.size B1 B2 p) (h1 : p.m.length ≤ 4194304) (h2 : p.h.length ≤ 4194304) :
    Calls Try.prog 15 #[.agg #[.int .i64 p.t, .slice A1 p.m.length c1, .slice A2 p.h.length c2], .agg #[.int .i64 p.t, .slice B1 p.m.length d1, .slice B2 p.h.length d2]] w fun e w' => e = .returned (.bool true) ∧ Below w.heap.size w w' := by
  have H1 := hid h1
  have H2 := hid h2
  clear h1 h2
  have hb0 := (Below.refl w.heap.size w).alloc (Nat.le_refl _) (.cells #[.int .i64 p.t, .slice A1 p.m.length c1, .slice A2 p.h.length c2] 27)
  have hb := hb0.alloc hb0.size (.cells #[.int .i64 p.t, .slice B1 p.m.length d1, .slice B2 p.h.length d2] 27)
  have x0 := (At.new w 27 #[.int .i64 p.t, .slice A1 p.m.length c1, .slice A2 p.h.length c2]).alloc (.cells #[.int .i64 p.t, .slice B1 p.m.length d1, .slice B2 p.h.length d2] 27)
  have z0 : At ((w.alloc (.cells #[.int .i64 p.t, .slice A1 p.m.length c1, .slice A2 p.h.length c2] 27)).alloc (.cells #[.int .i64 p.t, .slice B1 p.m.length d1, .slice B2 p.h.length d2] 27)) (w.heap.size + 1) 27 #[.int .i64 p.t, .slice B1 p.m.length d1, .slice B2 p.h.length d2] := At.newAt _ _ (by simp)
  have hs := h.on hb
  have hs' := h'.on hb
  clear hb0 h h'
  obtain ⟨p0, p1, p2, pl⟩ := (⟨x0.cell 0, x0.cell 1, x0.cell 2, x0.lt⟩ : _ ∧ _ ∧ _ ∧ _)
  obtain ⟨q0, q1, q2, ql⟩ := (⟨z0.cell 0, z0.cell 1, z0.cell 2, z0.lt⟩ : _ ∧ _ ∧ _ ∧ _)
  go_enter Try.func15, Try.ntmps15
  go_wp2_with fail
  refine (eqIntS_same _ _ _ _ _ _ hs.most hs'.most H1.out).mono ?_
  rintro e w1 ⟨rfl, hb1⟩
  have x1 := x0.below hb1 x0.lt
  have z1 := z0.below hb1 z0.lt
  have hs1 := hs.on hb1
  have hs1' := hs'.on hb1
  have hbw1 := hb.trans (hb1.mono hb.size)
  clear x0 z0 hs hs' hb hb1 p0 p1 p2 pl q0 q1 q2 ql
  obtain ⟨p0, p1, p2, pl⟩ := (⟨x1.cell 0, x1.cell 1, x1.cell 2, x1.lt⟩ : _ ∧ _ ∧ _ ∧ _)
  obtain ⟨q0, q1, q2, ql⟩ := (⟨z1.cell 0, z1.cell 1, z1.cell 2, z1.lt⟩ : _ ∧ _ ∧ _ ∧ _)
  go_wp2_with fail
  refine (eqIntS_same _ _ _ _ _ _ hs1.has hs1'.has H2.out).mono ?_
  rintro e w2 ⟨rfl, hb2⟩
  have x2 := x1.below hb2 x1.lt
  have z2 := z1.below hb2 z1.lt
  have hs2 := hs1.on hb2
  have hs2' := hs1'.on hb2
  have hbw2 := hbw1.trans (hb2.mono hbw1.size)
  clear x1 z1 hs1 hs1' hbw1 hb2 p0 p1 p2 pl q0 q1 q2 ql
  obtain ⟨p0, p1, p2, pl⟩ := (⟨x2.cell 0, x2.cell 1, x2.cell 2, x2.lt⟩ : _ ∧ _ ∧ _ ∧ _)
  obtain ⟨q0, q1, q2, ql⟩ := (⟨z2.cell 0, z2.cell 1, z2.cell 2, z2.lt⟩ : _ ∧ _ ∧ _ ∧ _)
  go_wp2
  go_ret
  exact ⟨rfl, hbw2⟩

set_option maxHeartbeats 2000000 in
theorem toShare_any (p : Shr) (A1 A2 : Option Addr) (c1 c2 : Nat) (w : World) (h : SeesR w w.heap.size A1 A2 p) (h1 : p.m.length ≤ 4194304) (h2 : p.h.length ≤ 4194304) :
    Calls Try.prog 13 #[.agg #[.int .i64 p.t, .slice A1 p.m.length c1, .slice A2 p.h.length c2]] w fun e w' => ∃ B1 B2 d1 d2, e = .returned (.agg #[.int .i64 p.t, .slice B1 p.m.length d1, .slice B2 p.h.length d2]) ∧ OwnR w' w.heap.size B1 B2 d1 d2 p ∧ Below w.heap.size w w' := by
  have H1 := hid h1
  have H2 := hid h2
  clear h1 h2
  have hB1 := Below.refl w.heap.size w
  have hB2 := hB1.alloc hB1.size (.cells #[.int .i64 p.t, .slice A1 p.m.length c1, .slice A2 p.h.length c2] 24)
  clear hB1
  have x3 : At (w.alloc (.cells #[.int .i64 p.t, .slice A1 p.m.length c1, .slice A2 p.h.length c2] 24)) (w.heap.size) 24 #[.int .i64 p.t, .slice A1 p.m.length c1, .slice A2 p.h.length c2] := At.newAt _ _ (by first | rfl | (simp; done) | (simp; omega))
  have hB4 := hB2.alloc hB2.size (.cells #[.int .i64 0, .slice none 0 0, .slice none 0 0] 27)
  have x5 := x3.alloc (.cells #[.int .i64 0, .slice none 0 0, .slice none 0 0] 27)
  clear hB2 x3
  have r6 : At ((w.alloc (.cells #[.int .i64 p.t, .slice A1 p.m.length c1, .slice A2 p.h.length c2] 24)).alloc (.cells #[.int .i64 0, .slice none 0 0, .slice none 0 0] 27)) (w.heap.size + 1) 27 #[.int .i64 0, .slice none 0 0, .slice none 0 0] := At.newAt _ _ (by first | rfl | (simp; done) | (simp; omega))
  have hB7 := hB4.alloc hB4.size (.cells #[.int .i64 p.t, .slice none 0 0, .slice none 0 0] 27)
  have x8 := x5.alloc (.cells #[.int .i64 p.t, .slice none 0 0, .slice none 0 0] 27)
  have r9 := r6.alloc (.cells #[.int .i64 p.t, .slice none 0 0, .slice none 0 0] 27)
  clear hB4 x5 r6
  have t10 : At (((w.alloc (.cells #[.int .i64 p.t, .slice A1 p.m.length c1, .slice A2 p.h.length c2] 24)).alloc (.cells #[.int .i64 0, .slice none 0 0, .slice none 0 0] 27)).alloc (.cells #[.int .i64 p.t, .slice none 0 0, .slice none 0 0] 27)) (w.heap.size + 2) 27 #[.int .i64 p.t, .slice none 0 0, .slice none 0 0] := At.newAt _ _ (by first | rfl | (simp; done) | (simp; omega))
  go_enter Try.func13, Try.ntmps13
  obtain ⟨p0, p1, p2, pl, pf⟩ := (⟨x8.cell 0, x8.cell 1, x8.cell 2, x8.lt, x8.frozen⟩ : _ ∧ _ ∧ _ ∧ _ ∧ _)
  obtain ⟨q0, q1, q2, ql, qf⟩ := (⟨r9.cell 0, r9.cell 1, r9.cell 2, r9.lt, r9.frozen⟩ : _ ∧ _ ∧ _ ∧ _ ∧ _)
  obtain ⟨t0, t1, t2, tl, tf⟩ := (⟨t10.cell 0, t10.cell 1, t10.cell 2, t10.lt, t10.frozen⟩ : _ ∧ _ ∧ _ ∧ _ ∧ _)
  have ne_pq : ¬ w.heap.size = w.heap.size + 1 := by omega
  have ne_qp : ¬ w.heap.size + 1 = w.heap.size := by omega
  have ne_pt : ¬ w.heap.size = w.heap.size + 2 := by omega
  have ne_tp : ¬ w.heap.size + 2 = w.heap.size := by omega
  have ne_qt : ¬ w.heap.size + 1 = w.heap.size + 2 := by omega
  have ne_tq : ¬ w.heap.size + 2 = w.heap.size + 1 := by omega
  go_wp2_with fail
  with_reducible refine (toIntS_any A1 c1 p.m _ (h.on hB7).most H1.out).mono ?_
  rintro e w1 ⟨v1, rfl, hn1, hb1⟩
  obtain ⟨An1, cn1, rfl, _⟩ := hn1.form
  have sz1 : w.heap.size + 3 ≤ w1.heap.size := Nat.le_trans (by first | exact Nat.le_refl _ | (simp; done) | (simp; omega)) (hb1.size)
  have lo0 := (own_mono hn1.out (show w.heap.size + 3 ≤ _ by first | exact Nat.le_refl _ | (simp; done))).lt
  have hB11 := hB7.trans (hb1.mono hB7.size)
  have x12 := x8.below hb1 x8.lt
  have r13 := r9.below hb1 r9.lt
  have t14 := t10.below hb1 t10.lt
  clear hB7 x8 r9 t10
  clear p0 p1 p2 pl pf q0 q1 q2 ql qf t0 t1 t2 tl tf ne_pq ne_qp ne_pt ne_tp ne_qt ne_tq
  have l015 := hn1.out
  clear hn1
  obtain ⟨p0, p1, p2, pl, pf⟩ := (⟨x12.cell 0, x12.cell 1, x12.cell 2, x12.lt, x12.frozen⟩ : _ ∧ _ ∧ _ ∧ _ ∧ _)
  obtain ⟨q0, q1, q2, ql, qf⟩ := (⟨r13.cell 0, r13.cell 1, r13.cell 2, r13.lt, r13.frozen⟩ : _ ∧ _ ∧ _ ∧ _ ∧ _)
  obtain ⟨t0, t1, t2, tl, tf⟩ := (⟨t14.cell 0, t14.cell 1, t14.cell 2, t14.lt, t14.frozen⟩ : _ ∧ _ ∧ _ ∧ _ ∧ _)
  have ne_pq : ¬ w.heap.size = w.heap.size + 1 := by omega
  have ne_qp : ¬ w.heap.size + 1 = w.heap.size := by omega
  have ne_pt : ¬ w.heap.size = w.heap.size + 2 := by omega
  have ne_tp : ¬ w.heap.size + 2 = w.heap.size := by omega
  have ne_qt : ¬ w.heap.size + 1 = w.heap.size + 2 := by omega
  have ne_tq : ¬ w.heap.size + 2 = w.heap.size + 1 := by omega
  have hB16 := below_put hB11 (grown_set w1 (w.heap.size + 2) 1 (.slice An1 p.m.length cn1)) (by omega) (by have := hB11.size; omega)
  have x17 := x12.past (grown_set w1 (w.heap.size + 2) 1 (.slice An1 p.m.length cn1)) (by omega)
  have r18 := r13.past (grown_set w1 (w.heap.size + 2) 1 (.slice An1 p.m.length cn1)) (by omega)
  have l019 := row_past l015 t14 (by decide) (grown_set w1 (w.heap.size + 2) 1 (.slice An1 p.m.length cn1))
  have t20 : At (w1.setCell ⟨w.heap.size + 2, 1, none⟩ (.slice An1 p.m.length cn1)) (w.heap.size + 2) 27 #[.int .i64 p.t, .slice An1 p.m.length cn1, .slice none 0 0] := by simpa using t14.set 1 (.slice An1 p.m.length cn1)
  clear hB11 x12 r13 l015 t14
  obtain ⟨p0, p1, p2, pl, pf⟩ := (⟨x17.cell 0, x17.cell 1, x17.cell 2, x17.lt, x17.frozen⟩ : _ ∧ _ ∧ _ ∧ _ ∧ _)
  obtain ⟨q0, q1, q2, ql, qf⟩ := (⟨r18.cell 0, r18.cell 1, r18.cell 2, r18.lt, r18.frozen⟩ : _ ∧ _ ∧ _ ∧ _ ∧ _)
  obtain ⟨t0, t1, t2, tl, tf⟩ := (⟨t20.cell 0, t20.cell 1, t20.cell 2, t20.lt, t20.frozen⟩ : _ ∧ _ ∧ _ ∧ _ ∧ _)
  have ne_pq : ¬ w.heap.size = w.heap.size + 1 := by omega
  have ne_qp : ¬ w.heap.size + 1 = w.heap.size := by omega
  have ne_pt : ¬ w.heap.size = w.heap.size + 2 := by omega
  have ne_tp : ¬ w.heap.size + 2 = w.heap.size := by omega
  have ne_qt : ¬ w.heap.size + 1 = w.heap.size + 2 := by omega
  have ne_tq : ¬ w.heap.size + 2 = w.heap.size + 1 := by omega
  go_wp2_with fail
  with_reducible refine (toIntS_any A2 c2 p.h _ (h.on hB16).has H2.out).mono ?_
  rintro e w2 ⟨v2, rfl, hn2, hb2⟩
  obtain ⟨An2, cn2, rfl, _⟩ := hn2.form
  have sz2 : w1.heap.size ≤ w2.heap.size := Nat.le_trans (by first | exact Nat.le_refl _ | (simp; done) | (simp; omega)) (hb2.size)
  have lo1 := (own_mono hn2.out (show w1.heap.size ≤ _ by first | exact Nat.le_refl _ | (simp; done))).lt
  have hB21 := hB16.trans (hb2.mono hB16.size)
  have x22 := x17.below hb2 x17.lt
  have r23 := r18.below hb2 r18.lt
  have t24 := t20.below hb2 t20.lt
  have l025 := own_below l019 hb2
  clear hB16 x17 r18 t20 l019
  clear p0 p1 p2 pl pf q0 q1 q2 ql qf t0 t1 t2 tl tf ne_pq ne_qp ne_pt ne_tp ne_qt ne_tq
  have l126 := hn2.out
  clear hn2
  obtain ⟨p0, p1, p2, pl, pf⟩ := (⟨x22.cell 0, x22.cell 1, x22.cell 2, x22.lt, x22.frozen⟩ : _ ∧ _ ∧ _ ∧ _ ∧ _)
  obtain ⟨q0, q1, q2, ql, qf⟩ := (⟨r23.cell 0, r23.cell 1, r23.cell 2, r23.lt, r23.frozen⟩ : _ ∧ _ ∧ _ ∧ _ ∧ _)
  obtain ⟨t0, t1, t2, tl, tf⟩ := (⟨t24.cell 0, t24.cell 1, t24.cell 2, t24.lt, t24.frozen⟩ : _ ∧ _ ∧ _ ∧ _ ∧ _)
  have ne_pq : ¬ w.heap.size = w.heap.size + 1 := by omega
  have ne_qp : ¬ w.heap.size + 1 = w.heap.size := by omega
  have ne_pt : ¬ w.heap.size = w.heap.size + 2 := by omega
  have ne_tp : ¬ w.heap.size + 2 = w.heap.size := by omega
  have ne_qt : ¬ w.heap.size + 1 = w.heap.size + 2 := by omega
  have ne_tq : ¬ w.heap.size + 2 = w.heap.size + 1 := by omega
  have hB27 := below_put hB21 (grown_set w2 (w.heap.size + 2) 2 (.slice An2 p.h.length cn2)) (by omega) (by have := hB21.size; omega)
  have x28 := x22.past (grown_set w2 (w.heap.size + 2) 2 (.slice An2 p.h.length cn2)) (by omega)
  have r29 := r23.past (grown_set w2 (w.heap.size + 2) 2 (.slice An2 p.h.length cn2)) (by omega)
  have l030 := row_past l025 t24 (by decide) (grown_set w2 (w.heap.size + 2) 2 (.slice An2 p.h.length cn2))
  have l131 := row_past l126 t24 (by decide) (grown_set w2 (w.heap.size + 2) 2 (.slice An2 p.h.length cn2))
  have t32 : At (w2.setCell ⟨w.heap.size + 2, 2, none⟩ (.slice An2 p.h.length cn2)) (w.heap.size + 2) 27 #[.int .i64 p.t, .slice An1 p.m.length cn1, .slice An2 p.h.length cn2] := by simpa using t24.set 2 (.slice An2 p.h.length cn2)
  clear hB21 x22 r23 l025 l126 t24
  have hO : OwnR (w2.setCell ⟨w.heap.size + 2, 2, none⟩ (.slice An2 p.h.length cn2)) w.heap.size An1 An2 cn1 cn2 p := ⟨own_mono l030 (by first | omega | (simp; omega)), own_mono l131 (by first | omega | (simp; omega)), afar_of lo0 lo1 (.inl (by first | omega | (simp; omega)))⟩
  clear l030
  clear l131
  obtain ⟨p0, p1, p2, pl, pf⟩ := (⟨x28.cell 0, x28.cell 1, x28.cell 2, x28.lt, x28.frozen⟩ : _ ∧ _ ∧ _ ∧ _ ∧ _)
  obtain ⟨q0, q1, q2, ql, qf⟩ := (⟨r29.cell 0, r29.cell 1, r29.cell 2, r29.lt, r29.frozen⟩ : _ ∧ _ ∧ _ ∧ _ ∧ _)
  obtain ⟨t0, t1, t2, tl, tf⟩ := (⟨t32.cell 0, t32.cell 1, t32.cell 2, t32.lt, t32.frozen⟩ : _ ∧ _ ∧ _ ∧ _ ∧ _)
  have ne_pq : ¬ w.heap.size = w.heap.size + 1 := by omega
  have ne_qp : ¬ w.heap.size + 1 = w.heap.size := by omega
  have ne_pt : ¬ w.heap.size = w.heap.size + 2 := by omega
  have ne_tp : ¬ w.heap.size + 2 = w.heap.size := by omega
  have ne_qt : ¬ w.heap.size + 1 = w.heap.size + 2 := by omega
  have ne_tq : ¬ w.heap.size + 2 = w.heap.size + 1 := by omega
  have hcur := hO
  have O33 := hO
  clear hO hcur
  have O34 := OwnR.past O33 r29 (by decide) (grown_set (w2.setCell ⟨w.heap.size + 2, 2, none⟩ (.slice An2 p.h.length cn2)) (w.heap.size + 1) 0 (.int .i64 p.t))
  clear O33
  have hB35 := below_put hB27 (grown_set (w2.setCell ⟨w.heap.size + 2, 2, none⟩ (.slice An2 p.h.length cn2)) (w.heap.size + 1) 0 (.int .i64 p.t)) (by omega) (by have := hB27.size; omega)
  have x36 := x28.past (grown_set (w2.setCell ⟨w.heap.size + 2, 2, none⟩ (.slice An2 p.h.length cn2)) (w.heap.size + 1) 0 (.int .i64 p.t)) (by omega)
  have t37 := t32.past (grown_set (w2.setCell ⟨w.heap.size + 2, 2, none⟩ (.slice An2 p.h.length cn2)) (w.heap.size + 1) 0 (.int .i64 p.t)) (by omega)
  have r38 : At ((w2.setCell ⟨w.heap.size + 2, 2, none⟩ (.slice An2 p.h.length cn2)).setCell ⟨w.heap.size + 1, 0, none⟩ (.int .i64 p.t)) (w.heap.size + 1) 27 #[.int .i64 p.t, .slice none 0 0, .slice none 0 0] := by simpa using r29.set 0 (.int .i64 p.t)
  clear hB27 x28 t32 r29
  have O39 := OwnR.past O34 r38 (by decide) (grown_set ((w2.setCell ⟨w.heap.size + 2, 2, none⟩ (.slice An2 p.h.length cn2)).setCell ⟨w.heap.size + 1, 0, none⟩ (.int .i64 p.t)) (w.heap.size + 1) 1 (.slice An1 p.m.length cn1))
  clear O34
  have hB40 := below_put hB35 (grown_set ((w2.setCell ⟨w.heap.size + 2, 2, none⟩ (.slice An2 p.h.length cn2)).setCell ⟨w.heap.size + 1, 0, none⟩ (.int .i64 p.t)) (w.heap.size + 1) 1 (.slice An1 p.m.length cn1)) (by omega) (by have := hB35.size; omega)
  have x41 := x36.past (grown_set ((w2.setCell ⟨w.heap.size + 2, 2, none⟩ (.slice An2 p.h.length cn2)).setCell ⟨w.heap.size + 1, 0, none⟩ (.int .i64 p.t)) (w.heap.size + 1) 1 (.slice An1 p.m.length cn1)) (by omega)
  have t42 := t37.past (grown_set ((w2.setCell ⟨w.heap.size + 2, 2, none⟩ (.slice An2 p.h.length cn2)).setCell ⟨w.heap.size + 1, 0, none⟩ (.int .i64 p.t)) (w.heap.size + 1) 1 (.slice An1 p.m.length cn1)) (by omega)
  have r43 : At (((w2.setCell ⟨w.heap.size + 2, 2, none⟩ (.slice An2 p.h.length cn2)).setCell ⟨w.heap.size + 1, 0, none⟩ (.int .i64 p.t)).setCell ⟨w.heap.size + 1, 1, none⟩ (.slice An1 p.m.length cn1)) (w.heap.size + 1) 27 #[.int .i64 p.t, .slice An1 p.m.length cn1, .slice none 0 0] := by simpa using r38.set 1 (.slice An1 p.m.length cn1)
  clear hB35 x36 t37 r38
  have O44 := OwnR.past O39 r43 (by decide) (grown_set (((w2.setCell ⟨w.heap.size + 2, 2, none⟩ (.slice An2 p.h.length cn2)).setCell ⟨w.heap.size + 1, 0, none⟩ (.int .i64 p.t)).setCell ⟨w.heap.size + 1, 1, none⟩ (.slice An1 p.m.length cn1)) (w.heap.size + 1) 2 (.slice An2 p.h.length cn2))
  clear O39
  have hB45 := below_put hB40 (grown_set (((w2.setCell ⟨w.heap.size + 2, 2, none⟩ (.slice An2 p.h.length cn2)).setCell ⟨w.heap.size + 1, 0, none⟩ (.int .i64 p.t)).setCell ⟨w.heap.size + 1, 1, none⟩ (.slice An1 p.m.length cn1)) (w.heap.size + 1) 2 (.slice An2 p.h.length cn2)) (by omega) (by have := hB40.size; omega)
  have x46 := x41.past (grown_set (((w2.setCell ⟨w.heap.size + 2, 2, none⟩ (.slice An2 p.h.length cn2)).setCell ⟨w.heap.size + 1, 0, none⟩ (.int .i64 p.t)).setCell ⟨w.heap.size + 1, 1, none⟩ (.slice An1 p.m.length cn1)) (w.heap.size + 1) 2 (.slice An2 p.h.length cn2)) (by omega)
  have t47 := t42.past (grown_set (((w2.setCell ⟨w.heap.size + 2, 2, none⟩ (.slice An2 p.h.length cn2)).setCell ⟨w.heap.size + 1, 0, none⟩ (.int .i64 p.t)).setCell ⟨w.heap.size + 1, 1, none⟩ (.slice An1 p.m.length cn1)) (w.heap.size + 1) 2 (.slice An2 p.h.length cn2)) (by omega)
  have r48 : At ((((w2.setCell ⟨w.heap.size + 2, 2, none⟩ (.slice An2 p.h.length cn2)).setCell ⟨w.heap.size + 1, 0, none⟩ (.int .i64 p.t)).setCell ⟨w.heap.size + 1, 1, none⟩ (.slice An1 p.m.length cn1)).setCell ⟨w.heap.size + 1, 2, none⟩ (.slice An2 p.h.length cn2)) (w.heap.size + 1) 27 #[.int .i64 p.t, .slice An1 p.m.length cn1, .slice An2 p.h.length cn2] := by simpa using r43.set 2 (.slice An2 p.h.length cn2)
  clear hB40 x41 t42 r43
  go_wp2
  refine bodyPost_ret (v := .agg #[.int .i64 p.t, .slice An1 p.m.length cn1, .slice An2 p.h.length cn2]) (by simp [results, Try.results13, go_sem, r48.cell]) rfl ⟨_, _, _, _, rfl, O44, hB45⟩

end Go.Proofs.Ytgfdjhbkmnhppaa

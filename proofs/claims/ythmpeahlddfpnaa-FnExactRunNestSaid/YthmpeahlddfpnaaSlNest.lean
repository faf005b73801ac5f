/-
  Nest in the exact laws: what the helpers answer that measure, copy, compare and mark. Condition: the lists lie in memory and are at most 2^22 long.
-/
import Derived.Test.YthmpeahlddfpnaaMidW
import Derived.Test.YthmpeahlddfpnaaExG
import Derived.Test.YthmpeahlddfpnaaXGen
import Derived.Test.YthmpeahlddfpnaaNsA
import Derived.Handy
namespace Go.Proofs.Ythmpeahlddfpnaa
open Go.RowKit Nes

theorem Own.kept5 {w w' : World} {base : Nat} {v : Value} {ys : List Int} {row : Option Nat} (h : Own w base v ys) (hg : w.grownBy w' row) (hr : ∀ k, v.ownBlock = some k → row ≠ some k) : Own w' base v ys := row_kept h hg hr
/-- The lists lie in rows of the call's own, in blocks from lo to before hi, no two in one. -/
def IvNest (w : World) (lo hi : Nat) (A1 : Option Addr) (c1 : Nat) (p : Nst) : Prop :=
  IvL w lo hi A1 c1 p.m
section
variable {w w' : World} {lo hi : Nat} {A1 : Option Addr} {c1 : Nat} {p : Nst}
theorem IvNest.l1 (h : IvNest w lo hi A1 c1 p) : IvL w lo hi A1 c1 p.m := h
theorem IvNest.below (h : IvNest w lo hi A1 c1 p) (hb : Below w.heap.size w w') : IvNest w' lo hi A1 c1 p := IvL.below h hb
theorem IvNest.alloc (h : IvNest w lo hi A1 c1 p) (o : Obj) : IvNest (w.alloc o) lo hi A1 c1 p := h.below ((Below.refl _ _).alloc (Nat.le_refl _) o)
theorem IvNest.drew (h : IvNest w lo hi A1 c1 p) : IvNest w.drew lo hi A1 c1 p := h.below (Below.refl _ _).drew
theorem IvNest.mid {lo' hi' : Nat} (h : IvNest w lo hi A1 c1 p) (hm : Mid lo' hi' w w') (hd : hi ≤ lo' ∨ hi' ≤ lo) : IvNest w' lo hi A1 c1 p := IvL.mid h hm hd
theorem IvNest.of_own {base : Nat} (h : OwnM w base A1 c1 p) : IvNest w base w.heap.size A1 c1 p := IvL.of_own h
theorem IvNest.sees (h : IvNest w lo hi A1 c1 p) : SeesM w w.heap.size A1 p := IvL.sees h
end
/-- The lists have been marked. -/
def Nes.Nst.marked (p : Nst) : Nst := ⟨p.d, p.w, marksG 1 p.m.length, p.b⟩
def Nes.Nst.count (p : Nst) : Int := 1 + p.m.length
theorem Nes.Nst.count_pos (p : Nst) : ¬ p.count < 0 := by unfold Nst.count; omega

theorem Nes.Nst.marked_m (p : Nst) : p.marked.m.length = p.m.length := marksG_len _ _
set_option maxHeartbeats 1000000 in
theorem szNest_any (A1 : Option Addr) (n1 c1 : Nat) (x_d : Int) (x_w : Int) (x_b : Bool) (w : World) (h1 : n1 ≤ maxLen) :
    Calls Try.prog 12 #[.agg #[.int .i64 x_d, .int .i64 x_w, .slice A1 n1 c1, .bool x_b], .int .i64 1048576] w fun e w' => e = .returned (.int .i64 (if 1048576 < n1 then -1 else 1048576 - (n1 : Int))) ∧ Below w.heap.size w w' := by
  obtain ⟨V, hV⟩ : ∃ V : Int, V = (if 1048576 < n1 then -1 else 1048576 - (n1 : Int)) := ⟨_, rfl⟩
  rw [← hV]
  have HV := hid hV
  clear hV
  have H1 := hid h1
  clear h1
  have hb := (Below.refl w.heap.size w).alloc (Nat.le_refl _) (.cells #[.int .i64 x_d, .int .i64 x_w, .slice A1 n1 c1, .bool x_b] 24)
  go_enter Try.func12, Try.ntmps12
  by_cases x1 : 1048576 < n1
  · have E1 : Hid ((if 1048576 < n1 then (-1 : Int) else ((1048576 : Nat) : Int) - n1) = -1) := hid (if_pos x1)
    go_wp2_with fail
    refine (szIntS_g A1 n1 c1 1048576 _ H1.out (by omega)).mono ?_
    rintro e w1 ⟨he, rfl⟩
    rw [E1.out] at he
    subst he
    go_wp2
    go_ret
    exact ⟨ret_int (by rw [HV.out, if_pos (by omega)]), hb⟩
  · have E1 : Hid ((if 1048576 < n1 then (-1 : Int) else ((1048576 : Nat) : Int) - n1) = ((1048576 - n1 : Nat) : Int)) := hid ((if_neg x1).trans (by omega))
    have y1 : ¬ ((1048576 - n1 : Nat) : Int) < 0 := by omega
    have E9 := hid (show 1048576 - (n1 : Int) = ((1048576 - n1 : Nat) : Int) by omega)
    go_wp2_with fail
    refine (szIntS_g A1 n1 c1 1048576 _ H1.out (by omega)).mono ?_
    rintro e w1 ⟨he, rfl⟩
    rw [E1.out] at he
    subst he
    go_wp2
    go_ret
    exact ⟨ret_int (by rw [HV.out, if_neg (by omega)]; exact E9.out.symm), hb⟩

set_option maxHeartbeats 1000000 in
theorem markNest_any (lo hi : Nat) (A1 : Option Addr) (c1 : Nat) (p : Nst) (w : World) (h : IvNest w lo hi A1 c1 p) (h1 : p.m.length ≤ 4194304) :
    Calls Try.prog 19 #[.agg #[.int .i64 p.d, .int .i64 p.w, .slice A1 p.m.length c1, .bool p.b], .int .i64 1] w fun e w' => e = .returned (.int .i64 p.count) ∧ Mid lo hi w w' ∧ IvNest w' lo hi A1 c1 p.marked := by
  have H1 := hid h1
  clear h1
  have t1 := h.l1.top
  have hb := (Below.refl w.heap.size w).alloc (Nat.le_refl _) (.cells #[.int .i64 p.d, .int .i64 p.w, .slice A1 p.m.length c1, .bool p.b] 27)
  have o1 := (h.l1.below hb).own
  have b1 := (h.l1.own.out).lt
  have m0 : Mid lo hi w (w.alloc (.cells #[.int .i64 p.d, .int .i64 p.w, .slice A1 p.m.length c1, .bool p.b] 27)) := Mid.of_below hb (Nat.le_refl _)
  clear h hb
  have q0 := (At.new w 27 #[.int .i64 p.d, .int .i64 p.w, .slice A1 p.m.length c1, .bool p.b])
  have E1 := hid (show (((1 : Nat) : Int) + p.m.length) = p.count by unfold Nst.count; omega)
  obtain ⟨p0, p1, p2, p3, pl⟩ := (⟨q0.cell 0, q0.cell 1, q0.cell 2, q0.cell 3, q0.lt⟩ : _ ∧ _ ∧ _ ∧ _ ∧ _)
  go_enter Try.func19, Try.ntmps19
  go_wp2_with fail
  refine (markIntS_g 1 lo A1 c1 p.m _ o1 H1.out (by omega)).mono ?_
  rintro e w1 ⟨he, n1, g1⟩
  rw [E1.out] at he
  subst he
  have q1 := q0.grown g1 (fun e => by have := b1 _ e.symm; omega)
  have m1 := m0.trans (Mid.grown g1 t1)
  clear p0 p1 p2 p3 pl q0 g1 m0
  have hO : IvNest w1 lo hi A1 c1 p.marked := by
    unfold IvNest IvL
    simp only [Nst.marked_m]
    exact ⟨n1, fun k hk => (t1 k hk).2⟩
  go_wp2
  go_ret
  exact ⟨rfl, m1, hO⟩

set_option maxHeartbeats 1000000 in
theorem heldNest_any (A1 : Option Addr) (c1 : Nat) (p : Nst) (w : World) (h : SeesM w w.heap.size A1 p.marked) (h1 : p.m.length ≤ 4194304) :
    Calls Try.prog 20 #[.agg #[.int .i64 p.d, .int .i64 p.w, .slice A1 p.m.length c1, .bool p.b], .int .i64 1] w fun e w' => e = .returned (.int .i64 p.count) ∧ Below w.heap.size w w' := by
  have H1 := hid h1
  clear h1
  have hb := (Below.refl w.heap.size w).alloc (Nat.le_refl _) (.cells #[.int .i64 p.d, .int .i64 p.w, .slice A1 p.m.length c1, .bool p.b] 27)
  have hs := SeesM.on h hb
  have E1 := hid (show (((1 : Nat) : Int) + p.m.length) = p.count by unfold Nst.count; omega)
  have y9 := p.count_pos
  go_enter Try.func20, Try.ntmps20
  go_wp2_with fail
  refine (heldIntS_g 1 A1 p.m.length c1 _ hs.marks H1.out (by omega)).mono ?_
  rintro e w1 ⟨he, rfl⟩
  rw [E1.out] at he
  subst he
  go_wp2
  go_ret
  exact ⟨rfl, hb⟩

set_option maxHeartbeats 1000000 in
theorem eqNest_same (A1 B1 : Option Addr) (c1 d1 : Nat) (p : Nst) (w : World) (h : SeesM w w.heap.size A1 p) (h' : SeesM w w.heap.size B1 p) (h1 : p.m.length ≤ 4194304) :
    Calls Try.prog 16 #[.agg #[.int .i64 p.d, .int .i64 p.w, .slice A1 p.m.length c1, .bool p.b], .agg #[.int .i64 p.d, .int .i64 p.w, .slice B1 p.m.length d1, .bool p.b]] w fun e w' => e = .returned (.bool true) ∧ Below w.heap.size w w' := by
  have H1 := hid h1
  clear h1
  have hb0 := (Below.refl w.heap.size w).alloc (Nat.le_refl _) (.cells #[.int .i64 p.d, .int .i64 p.w, .slice A1 p.m.length c1, .bool p.b] 27)
  have hb := hb0.alloc hb0.size (.cells #[.int .i64 p.d, .int .i64 p.w, .slice B1 p.m.length d1, .bool p.b] 27)
  have x0 := (At.new w 27 #[.int .i64 p.d, .int .i64 p.w, .slice A1 p.m.length c1, .bool p.b]).alloc (.cells #[.int .i64 p.d, .int .i64 p.w, .slice B1 p.m.length d1, .bool p.b] 27)
  have z0 : At ((w.alloc (.cells #[.int .i64 p.d, .int .i64 p.w, .slice A1 p.m.length c1, .bool p.b] 27)).alloc (.cells #[.int .i64 p.d, .int .i64 p.w, .slice B1 p.m.length d1, .bool p.b] 27)) (w.heap.size + 1) 27 #[.int .i64 p.d, .int .i64 p.w, .slice B1 p.m.length d1, .bool p.b] := At.newAt _ _ (by simp)
  have hs := SeesM.on h hb
  have hs' := SeesM.on h' hb
  clear hb0 h h'
  obtain ⟨p0, p1, p2, p3, pl⟩ := (⟨x0.cell 0, x0.cell 1, x0.cell 2, x0.cell 3, x0.lt⟩ : _ ∧ _ ∧ _ ∧ _ ∧ _)
  obtain ⟨q0, q1, q2, q3, ql⟩ := (⟨z0.cell 0, z0.cell 1, z0.cell 2, z0.cell 3, z0.lt⟩ : _ ∧ _ ∧ _ ∧ _ ∧ _)
  go_enter Try.func16, Try.ntmps16
  go_wp2_with fail
  refine (eqIntS_same _ _ _ _ _ _ hs.marks hs'.marks H1.out).mono ?_
  rintro e w1 ⟨rfl, hb1⟩
  have x1 := x0.below hb1 x0.lt
  have z1 := z0.below hb1 z0.lt
  have hs1 := SeesM.on hs hb1
  have hs1' := SeesM.on hs' hb1
  have hbw1 := hb.trans (hb1.mono hb.size)
  clear x0 z0 hs hs' hb hb1 p0 p1 p2 p3 pl q0 q1 q2 q3 ql
  obtain ⟨p0, p1, p2, p3, pl⟩ := (⟨x1.cell 0, x1.cell 1, x1.cell 2, x1.cell 3, x1.lt⟩ : _ ∧ _ ∧ _ ∧ _ ∧ _)
  obtain ⟨q0, q1, q2, q3, ql⟩ := (⟨z1.cell 0, z1.cell 1, z1.cell 2, z1.cell 3, z1.lt⟩ : _ ∧ _ ∧ _ ∧ _ ∧ _)
  go_wp2
  go_ret
  exact ⟨rfl, hbw1⟩

set_option maxHeartbeats 2000000 in
theorem toNest_any (p : Nst) (A1 : Option Addr) (c1 : Nat) (w : World) (h : SeesM w w.heap.size A1 p) (h1 : p.m.length ≤ 4194304) :
    Calls Try.prog 14 #[.agg #[.int .i64 p.d, .int .i64 p.w, .slice A1 p.m.length c1, .bool p.b]] w fun e w' => ∃ B1 d1, e = .returned (.agg #[.int .i64 p.d, .int .i64 p.w, .slice B1 p.m.length d1, .bool p.b]) ∧ OwnM w' w.heap.size B1 d1 p ∧ Below w.heap.size w w' := by
  have H1 := hid h1
  clear h1
  have hB1 := Below.refl w.heap.size w
  have hB2 := hB1.alloc hB1.size (.cells #[.int .i64 p.d, .int .i64 p.w, .slice A1 p.m.length c1, .bool p.b] 24)
  clear hB1
  have x3 : At (w.alloc (.cells #[.int .i64 p.d, .int .i64 p.w, .slice A1 p.m.length c1, .bool p.b] 24)) (w.heap.size) 24 #[.int .i64 p.d, .int .i64 p.w, .slice A1 p.m.length c1, .bool p.b] := At.newAt _ _ (by first | rfl | (simp; done) | (simp; omega))
  have hB4 := hB2.alloc hB2.size (.cells #[.int .i64 0, .int .i64 0, .slice none 0 0, .bool false] 27)
  have x5 := x3.alloc (.cells #[.int .i64 0, .int .i64 0, .slice none 0 0, .bool false] 27)
  clear hB2 x3
  have r6 : At ((w.alloc (.cells #[.int .i64 p.d, .int .i64 p.w, .slice A1 p.m.length c1, .bool p.b] 24)).alloc (.cells #[.int .i64 0, .int .i64 0, .slice none 0 0, .bool false] 27)) (w.heap.size + 1) 27 #[.int .i64 0, .int .i64 0, .slice none 0 0, .bool false] := At.newAt _ _ (by first | rfl | (simp; done) | (simp; omega))
  have hB7 := hB4.alloc hB4.size (.cells #[.int .i64 p.d, .int .i64 p.w, .slice none 0 0, .bool false] 27)
  have x8 := x5.alloc (.cells #[.int .i64 p.d, .int .i64 p.w, .slice none 0 0, .bool false] 27)
  have r9 := r6.alloc (.cells #[.int .i64 p.d, .int .i64 p.w, .slice none 0 0, .bool false] 27)
  clear hB4 x5 r6
  have t10 : At (((w.alloc (.cells #[.int .i64 p.d, .int .i64 p.w, .slice A1 p.m.length c1, .bool p.b] 24)).alloc (.cells #[.int .i64 0, .int .i64 0, .slice none 0 0, .bool false] 27)).alloc (.cells #[.int .i64 p.d, .int .i64 p.w, .slice none 0 0, .bool false] 27)) (w.heap.size + 2) 27 #[.int .i64 p.d, .int .i64 p.w, .slice none 0 0, .bool false] := At.newAt _ _ (by first | rfl | (simp; done) | (simp; omega))
  go_enter Try.func14, Try.ntmps14
  obtain ⟨p0, p1, p2, p3, pl, pf⟩ := (⟨x8.cell 0, x8.cell 1, x8.cell 2, x8.cell 3, x8.lt, x8.frozen⟩ : _ ∧ _ ∧ _ ∧ _ ∧ _ ∧ _)
  obtain ⟨q0, q1, q2, q3, ql, qf⟩ := (⟨r9.cell 0, r9.cell 1, r9.cell 2, r9.cell 3, r9.lt, r9.frozen⟩ : _ ∧ _ ∧ _ ∧ _ ∧ _ ∧ _)
  obtain ⟨t0, t1, t2, t3, tl, tf⟩ := (⟨t10.cell 0, t10.cell 1, t10.cell 2, t10.cell 3, t10.lt, t10.frozen⟩ : _ ∧ _ ∧ _ ∧ _ ∧ _ ∧ _)
  have ne_pq : ¬ w.heap.size = w.heap.size + 1 := by omega
  have ne_qp : ¬ w.heap.size + 1 = w.heap.size := by omega
  have ne_pt : ¬ w.heap.size = w.heap.size + 2 := by omega
  have ne_tp : ¬ w.heap.size + 2 = w.heap.size := by omega
  have ne_qt : ¬ w.heap.size + 1 = w.heap.size + 2 := by omega
  have ne_tq : ¬ w.heap.size + 2 = w.heap.size + 1 := by omega
  go_wp2_with fail
  with_reducible refine (toIntS_any A1 c1 p.m _ (SeesM.on h hB7).marks H1.out).mono ?_
  rintro e w1 ⟨v1, rfl, hn1, hb1⟩
  obtain ⟨An1, cn1, rfl, _⟩ := hn1.form
  have sz1 : w.heap.size + 3 ≤ w1.heap.size := Nat.le_trans (by first | exact Nat.le_refl _ | (simp; done) | (simp; omega)) (hb1.size)
  have lo0 := (own_mono hn1.out (show w.heap.size + 3 ≤ _ by first | exact Nat.le_refl _ | (simp; done))).lt
  have hB11 := hB7.trans (hb1.mono hB7.size)
  have x12 := x8.below hb1 x8.lt
  have r13 := r9.below hb1 r9.lt
  have t14 := t10.below hb1 t10.lt
  clear hB7 x8 r9 t10
  clear p0 p1 p2 p3 pl pf q0 q1 q2 q3 ql qf t0 t1 t2 t3 tl tf ne_pq ne_qp ne_pt ne_tp ne_qt ne_tq
  have l015 := hn1.out
  clear hn1
  obtain ⟨p0, p1, p2, p3, pl, pf⟩ := (⟨x12.cell 0, x12.cell 1, x12.cell 2, x12.cell 3, x12.lt, x12.frozen⟩ : _ ∧ _ ∧ _ ∧ _ ∧ _ ∧ _)
  obtain ⟨q0, q1, q2, q3, ql, qf⟩ := (⟨r13.cell 0, r13.cell 1, r13.cell 2, r13.cell 3, r13.lt, r13.frozen⟩ : _ ∧ _ ∧ _ ∧ _ ∧ _ ∧ _)
  obtain ⟨t0, t1, t2, t3, tl, tf⟩ := (⟨t14.cell 0, t14.cell 1, t14.cell 2, t14.cell 3, t14.lt, t14.frozen⟩ : _ ∧ _ ∧ _ ∧ _ ∧ _ ∧ _)
  have ne_pq : ¬ w.heap.size = w.heap.size + 1 := by omega
  have ne_qp : ¬ w.heap.size + 1 = w.heap.size := by omega
  have ne_pt : ¬ w.heap.size = w.heap.size + 2 := by omega
  have ne_tp : ¬ w.heap.size + 2 = w.heap.size := by omega
  have ne_qt : ¬ w.heap.size + 1 = w.heap.size + 2 := by omega
  have ne_tq : ¬ w.heap.size + 2 = w.heap.size + 1 := by omega
  have hB16 := below_put hB11 (grown_set w1 (w.heap.size + 2) 2 (.slice An1 p.m.length cn1)) (by omega) (by have := hB11.size; omega)
  have x17 := x12.past (grown_set w1 (w.heap.size + 2) 2 (.slice An1 p.m.length cn1)) (by omega)
  have r18 := r13.past (grown_set w1 (w.heap.size + 2) 2 (.slice An1 p.m.length cn1)) (by omega)
  have l019 := row_past l015 t14 (by decide) (grown_set w1 (w.heap.size + 2) 2 (.slice An1 p.m.length cn1))
  have t20 : At (w1.setCell ⟨w.heap.size + 2, 2, none⟩ (.slice An1 p.m.length cn1)) (w.heap.size + 2) 27 #[.int .i64 p.d, .int .i64 p.w, .slice An1 p.m.length cn1, .bool false] := by simpa using t14.set 2 (.slice An1 p.m.length cn1)
  clear hB11 x12 r13 l015 t14
  have hB21 := below_put hB16 (grown_set (w1.setCell ⟨w.heap.size + 2, 2, none⟩ (.slice An1 p.m.length cn1)) (w.heap.size + 2) 3 (.bool p.b)) (by omega) (by have := hB16.size; omega)
  have x22 := x17.past (grown_set (w1.setCell ⟨w.heap.size + 2, 2, none⟩ (.slice An1 p.m.length cn1)) (w.heap.size + 2) 3 (.bool p.b)) (by omega)
  have r23 := r18.past (grown_set (w1.setCell ⟨w.heap.size + 2, 2, none⟩ (.slice An1 p.m.length cn1)) (w.heap.size + 2) 3 (.bool p.b)) (by omega)
  have l024 := row_past l019 t20 (by decide) (grown_set (w1.setCell ⟨w.heap.size + 2, 2, none⟩ (.slice An1 p.m.length cn1)) (w.heap.size + 2) 3 (.bool p.b))
  have t25 : At ((w1.setCell ⟨w.heap.size + 2, 2, none⟩ (.slice An1 p.m.length cn1)).setCell ⟨w.heap.size + 2, 3, none⟩ (.bool p.b)) (w.heap.size + 2) 27 #[.int .i64 p.d, .int .i64 p.w, .slice An1 p.m.length cn1, .bool p.b] := by simpa using t20.set 3 (.bool p.b)
  clear hB16 x17 r18 l019 t20
  have hO : OwnM ((w1.setCell ⟨w.heap.size + 2, 2, none⟩ (.slice An1 p.m.length cn1)).setCell ⟨w.heap.size + 2, 3, none⟩ (.bool p.b)) w.heap.size An1 cn1 p := own_mono l024 (by first | omega | (simp; omega))
  clear l024
  obtain ⟨p0, p1, p2, p3, pl, pf⟩ := (⟨x22.cell 0, x22.cell 1, x22.cell 2, x22.cell 3, x22.lt, x22.frozen⟩ : _ ∧ _ ∧ _ ∧ _ ∧ _ ∧ _)
  obtain ⟨q0, q1, q2, q3, ql, qf⟩ := (⟨r23.cell 0, r23.cell 1, r23.cell 2, r23.cell 3, r23.lt, r23.frozen⟩ : _ ∧ _ ∧ _ ∧ _ ∧ _ ∧ _)
  obtain ⟨t0, t1, t2, t3, tl, tf⟩ := (⟨t25.cell 0, t25.cell 1, t25.cell 2, t25.cell 3, t25.lt, t25.frozen⟩ : _ ∧ _ ∧ _ ∧ _ ∧ _ ∧ _)
  have ne_pq : ¬ w.heap.size = w.heap.size + 1 := by omega
  have ne_qp : ¬ w.heap.size + 1 = w.heap.size := by omega
  have ne_pt : ¬ w.heap.size = w.heap.size + 2 := by omega
  have ne_tp : ¬ w.heap.size + 2 = w.heap.size := by omega
  have ne_qt : ¬ w.heap.size + 1 = w.heap.size + 2 := by omega
  have ne_tq : ¬ w.heap.size + 2 = w.heap.size + 1 := by omega
  have hcur := hO
  have O26 := hO
  clear hO hcur
  have O27 := OwnM.past O26 r23 (by decide) (grown_set ((w1.setCell ⟨w.heap.size + 2, 2, none⟩ (.slice An1 p.m.length cn1)).setCell ⟨w.heap.size + 2, 3, none⟩ (.bool p.b)) (w.heap.size + 1) 0 (.int .i64 p.d))
  clear O26
  have hB28 := below_put hB21 (grown_set ((w1.setCell ⟨w.heap.size + 2, 2, none⟩ (.slice An1 p.m.length cn1)).setCell ⟨w.heap.size + 2, 3, none⟩ (.bool p.b)) (w.heap.size + 1) 0 (.int .i64 p.d)) (by omega) (by have := hB21.size; omega)
  have x29 := x22.past (grown_set ((w1.setCell ⟨w.heap.size + 2, 2, none⟩ (.slice An1 p.m.length cn1)).setCell ⟨w.heap.size + 2, 3, none⟩ (.bool p.b)) (w.heap.size + 1) 0 (.int .i64 p.d)) (by omega)
  have t30 := t25.past (grown_set ((w1.setCell ⟨w.heap.size + 2, 2, none⟩ (.slice An1 p.m.length cn1)).setCell ⟨w.heap.size + 2, 3, none⟩ (.bool p.b)) (w.heap.size + 1) 0 (.int .i64 p.d)) (by omega)
  have r31 : At (((w1.setCell ⟨w.heap.size + 2, 2, none⟩ (.slice An1 p.m.length cn1)).setCell ⟨w.heap.size + 2, 3, none⟩ (.bool p.b)).setCell ⟨w.heap.size + 1, 0, none⟩ (.int .i64 p.d)) (w.heap.size + 1) 27 #[.int .i64 p.d, .int .i64 0, .slice none 0 0, .bool false] := by simpa using r23.set 0 (.int .i64 p.d)
  clear hB21 x22 t25 r23
  have O32 := OwnM.past O27 r31 (by decide) (grown_set (((w1.setCell ⟨w.heap.size + 2, 2, none⟩ (.slice An1 p.m.length cn1)).setCell ⟨w.heap.size + 2, 3, none⟩ (.bool p.b)).setCell ⟨w.heap.size + 1, 0, none⟩ (.int .i64 p.d)) (w.heap.size + 1) 1 (.int .i64 p.w))
  clear O27
  have hB33 := below_put hB28 (grown_set (((w1.setCell ⟨w.heap.size + 2, 2, none⟩ (.slice An1 p.m.length cn1)).setCell ⟨w.heap.size + 2, 3, none⟩ (.bool p.b)).setCell ⟨w.heap.size + 1, 0, none⟩ (.int .i64 p.d)) (w.heap.size + 1) 1 (.int .i64 p.w)) (by omega) (by have := hB28.size; omega)
  have x34 := x29.past (grown_set (((w1.setCell ⟨w.heap.size + 2, 2, none⟩ (.slice An1 p.m.length cn1)).setCell ⟨w.heap.size + 2, 3, none⟩ (.bool p.b)).setCell ⟨w.heap.size + 1, 0, none⟩ (.int .i64 p.d)) (w.heap.size + 1) 1 (.int .i64 p.w)) (by omega)
  have t35 := t30.past (grown_set (((w1.setCell ⟨w.heap.size + 2, 2, none⟩ (.slice An1 p.m.length cn1)).setCell ⟨w.heap.size + 2, 3, none⟩ (.bool p.b)).setCell ⟨w.heap.size + 1, 0, none⟩ (.int .i64 p.d)) (w.heap.size + 1) 1 (.int .i64 p.w)) (by omega)
  have r36 : At ((((w1.setCell ⟨w.heap.size + 2, 2, none⟩ (.slice An1 p.m.length cn1)).setCell ⟨w.heap.size + 2, 3, none⟩ (.bool p.b)).setCell ⟨w.heap.size + 1, 0, none⟩ (.int .i64 p.d)).setCell ⟨w.heap.size + 1, 1, none⟩ (.int .i64 p.w)) (w.heap.size + 1) 27 #[.int .i64 p.d, .int .i64 p.w, .slice none 0 0, .bool false] := by simpa using r31.set 1 (.int .i64 p.w)
  clear hB28 x29 t30 r31
  have O37 := OwnM.past O32 r36 (by decide) (grown_set ((((w1.setCell ⟨w.heap.size + 2, 2, none⟩ (.slice An1 p.m.length cn1)).setCell ⟨w.heap.size + 2, 3, none⟩ (.bool p.b)).setCell ⟨w.heap.size + 1, 0, none⟩ (.int .i64 p.d)).setCell ⟨w.heap.size + 1, 1, none⟩ (.int .i64 p.w)) (w.heap.size + 1) 2 (.slice An1 p.m.length cn1))
  clear O32
  have hB38 := below_put hB33 (grown_set ((((w1.setCell ⟨w.heap.size + 2, 2, none⟩ (.slice An1 p.m.length cn1)).setCell ⟨w.heap.size + 2, 3, none⟩ (.bool p.b)).setCell ⟨w.heap.size + 1, 0, none⟩ (.int .i64 p.d)).setCell ⟨w.heap.size + 1, 1, none⟩ (.int .i64 p.w)) (w.heap.size + 1) 2 (.slice An1 p.m.length cn1)) (by omega) (by have := hB33.size; omega)
  have x39 := x34.past (grown_set ((((w1.setCell ⟨w.heap.size + 2, 2, none⟩ (.slice An1 p.m.length cn1)).setCell ⟨w.heap.size + 2, 3, none⟩ (.bool p.b)).setCell ⟨w.heap.size + 1, 0, none⟩ (.int .i64 p.d)).setCell ⟨w.heap.size + 1, 1, none⟩ (.int .i64 p.w)) (w.heap.size + 1) 2 (.slice An1 p.m.length cn1)) (by omega)
  have t40 := t35.past (grown_set ((((w1.setCell ⟨w.heap.size + 2, 2, none⟩ (.slice An1 p.m.length cn1)).setCell ⟨w.heap.size + 2, 3, none⟩ (.bool p.b)).setCell ⟨w.heap.size + 1, 0, none⟩ (.int .i64 p.d)).setCell ⟨w.heap.size + 1, 1, none⟩ (.int .i64 p.w)) (w.heap.size + 1) 2 (.slice An1 p.m.length cn1)) (by omega)
  have r41 : At (((((w1.setCell ⟨w.heap.size + 2, 2, none⟩ (.slice An1 p.m.length cn1)).setCell ⟨w.heap.size + 2, 3, none⟩ (.bool p.b)).setCell ⟨w.heap.size + 1, 0, none⟩ (.int .i64 p.d)).setCell ⟨w.heap.size + 1, 1, none⟩ (.int .i64 p.w)).setCell ⟨w.heap.size + 1, 2, none⟩ (.slice An1 p.m.length cn1)) (w.heap.size + 1) 27 #[.int .i64 p.d, .int .i64 p.w, .slice An1 p.m.length cn1, .bool false] := by simpa using r36.set 2 (.slice An1 p.m.length cn1)
  clear hB33 x34 t35 r36
  have O42 := OwnM.past O37 r41 (by decide) (grown_set (((((w1.setCell ⟨w.heap.size + 2, 2, none⟩ (.slice An1 p.m.length cn1)).setCell ⟨w.heap.size + 2, 3, none⟩ (.bool p.b)).setCell ⟨w.heap.size + 1, 0, none⟩ (.int .i64 p.d)).setCell ⟨w.heap.size + 1, 1, none⟩ (.int .i64 p.w)).setCell ⟨w.heap.size + 1, 2, none⟩ (.slice An1 p.m.length cn1)) (w.heap.size + 1) 3 (.bool p.b))
  clear O37
  have hB43 := below_put hB38 (grown_set (((((w1.setCell ⟨w.heap.size + 2, 2, none⟩ (.slice An1 p.m.length cn1)).setCell ⟨w.heap.size + 2, 3, none⟩ (.bool p.b)).setCell ⟨w.heap.size + 1, 0, none⟩ (.int .i64 p.d)).setCell ⟨w.heap.size + 1, 1, none⟩ (.int .i64 p.w)).setCell ⟨w.heap.size + 1, 2, none⟩ (.slice An1 p.m.length cn1)) (w.heap.size + 1) 3 (.bool p.b)) (by omega) (by have := hB38.size; omega)
  have x44 := x39.past (grown_set (((((w1.setCell ⟨w.heap.size + 2, 2, none⟩ (.slice An1 p.m.length cn1)).setCell ⟨w.heap.size + 2, 3, none⟩ (.bool p.b)).setCell ⟨w.heap.size + 1, 0, none⟩ (.int .i64 p.d)).setCell ⟨w.heap.size + 1, 1, none⟩ (.int .i64 p.w)).setCell ⟨w.heap.size + 1, 2, none⟩ (.slice An1 p.m.length cn1)) (w.heap.size + 1) 3 (.bool p.b)) (by omega)
  have t45 := t40.past (grown_set (((((w1.setCell ⟨w.heap.size + 2, 2, none⟩ (.slice An1 p.m.length cn1)).setCell ⟨w.heap.size + 2, 3, none⟩ (.bool p.b)).setCell ⟨w.heap.size + 1, 0, none⟩ (.int .i64 p.d)).setCell ⟨w.heap.size + 1, 1, none⟩ (.int .i64 p.w)).setCell ⟨w.heap.size + 1, 2, none⟩ (.slice An1 p.m.length cn1)) (w.heap.size + 1) 3 (.bool p.b)) (by omega)
  have r46 : At ((((((w1.setCell ⟨w.heap.size + 2, 2, none⟩ (.slice An1 p.m.length cn1)).setCell ⟨w.heap.size + 2, 3, none⟩ (.bool p.b)).setCell ⟨w.heap.size + 1, 0, none⟩ (.int .i64 p.d)).setCell ⟨w.heap.size + 1, 1, none⟩ (.int .i64 p.w)).setCell ⟨w.heap.size + 1, 2, none⟩ (.slice An1 p.m.length cn1)).setCell ⟨w.heap.size + 1, 3, none⟩ (.bool p.b)) (w.heap.size + 1) 27 #[.int .i64 p.d, .int .i64 p.w, .slice An1 p.m.length cn1, .bool p.b] := by simpa using r41.set 3 (.bool p.b)
  clear hB38 x39 t40 r41
  go_wp2
  refine bodyPost_ret (v := .agg #[.int .i64 p.d, .int .i64 p.w, .slice An1 p.m.length cn1, .bool p.b]) (by simp [results, Try.results14, go_sem, r46.cell]) rfl ⟨_, _, rfl, O42, hB43⟩

end Go.Proofs.Ythmpeahlddfpnaa

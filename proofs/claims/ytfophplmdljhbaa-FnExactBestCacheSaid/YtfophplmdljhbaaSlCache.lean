/-
  Cache in the exact laws: what the helpers answer that measure, copy, compare and mark. Condition: the lists lie in memory and are at most 2^22 long.
-/
import Derived.Test.YtfophplmdljhbaaMidW
import Derived.Test.YtfophplmdljhbaaExG
import Derived.Test.YtfophplmdljhbaaXGen
import Derived.Test.YtfophplmdljhbaaCaA
import Derived.Handy
namespace Go.Proofs.Ytfophplmdljhbaa
open Go.RowKit Cac

theorem Own.kept5 {w w' : World} {base : Nat} {v : Value} {ys : List Int} {row : Option Nat} (h : Own w base v ys) (hg : w.grownBy w' row) (hr : ∀ k, v.ownBlock = some k → row ≠ some k) : Own w' base v ys := row_kept h hg hr
/-- The lists lie in rows of the call's own, in blocks from lo to before hi, no two in one. -/
def IvCache (w : World) (lo hi : Nat) (A1 : Option Addr) (c1 : Nat) (p : Cch) : Prop :=
  IvL w lo hi A1 c1 p.n
section
variable {w w' : World} {lo hi : Nat} {A1 : Option Addr} {c1 : Nat} {p : Cch}
theorem IvCache.l1 (h : IvCache w lo hi A1 c1 p) : IvL w lo hi A1 c1 p.n := h
theorem IvCache.below (h : IvCache w lo hi A1 c1 p) (hb : Below w.heap.size w w') : IvCache w' lo hi A1 c1 p := IvL.below h hb
theorem IvCache.alloc (h : IvCache w lo hi A1 c1 p) (o : Obj) : IvCache (w.alloc o) lo hi A1 c1 p := h.below ((Below.refl _ _).alloc (Nat.le_refl _) o)
theorem IvCache.drew (h : IvCache w lo hi A1 c1 p) : IvCache w.drew lo hi A1 c1 p := h.below (Below.refl _ _).drew
theorem IvCache.mid {lo' hi' : Nat} (h : IvCache w lo hi A1 c1 p) (hm : Mid lo' hi' w w') (hd : hi ≤ lo' ∨ hi' ≤ lo) : IvCache w' lo hi A1 c1 p := IvL.mid h hm hd
theorem IvCache.of_own {base : Nat} (h : OwnN w base A1 c1 p) : IvCache w base w.heap.size A1 c1 p := IvL.of_own h
theorem IvCache.sees (h : IvCache w lo hi A1 c1 p) : SeesN w w.heap.size A1 p := IvL.sees h
end
/-- The lists have been marked. -/
def Cac.Cch.marked (p : Cch) : Cch := ⟨p.r, marksG 1 p.n.length⟩
def Cac.Cch.count (p : Cch) : Int := 1 + p.n.length
theorem Cac.Cch.count_pos (p : Cch) : ¬ p.count < 0 := by unfold Cch.count; omega

theorem Cac.Cch.marked_n (p : Cch) : p.marked.n.length = p.n.length := marksG_len _ _
set_option maxHeartbeats 1000000 in
theorem szCache_any (A1 : Option Addr) (n1 c1 : Nat) (x_r : Int) (w : World) (h1 : n1 ≤ maxLen) :
    Calls Try.prog 15 #[.agg #[.int .i64 x_r, .slice A1 n1 c1], .int .i64 1048576] w fun e w' => e = .returned (.int .i64 (if 1048576 < n1 then -1 else 1048576 - (n1 : Int))) ∧ Below w.heap.size w w' := by
  obtain ⟨V, hV⟩ : ∃ V : Int, V = (if 1048576 < n1 then -1 else 1048576 - (n1 : Int)) := ⟨_, rfl⟩
  rw [← hV]
  have HV := hid hV
  clear hV
  have H1 := hid h1
  clear h1
  have hb := (Below.refl w.heap.size w).alloc (Nat.le_refl _) (.cells #[.int .i64 x_r, .slice A1 n1 c1] 40)
  go_enter Try.func15, Try.ntmps15
  by_cases x1 : 1048576 < n1
  · have E1 : Hid ((if 1048576 < n1 then (-1 : Int) else ((1048576 : Nat) : Int) - n1) = -1) := hid (if_pos x1)
    go_wp2_with fail
    refine (szIntS_g A1 n1 c1 1048576 _ H1.out (by omega)).mono ?_
    rintro e w1 ⟨he, rfl⟩
    rw [E1.out] at he
    subst he
    go_wp2
    go_ret
    exact ⟨ret_int (by rw [HV.out, if_pos (by omega)]), hb⟩
  · have E1 : Hid ((if 1048576 < n1 then (-1 : Int) else ((1048576 : Nat) : Int) - n1) = ((1048576 - n1 : Nat) : Int)) := hid ((if_neg x1).trans (by omega))
    have y1 : ¬ ((1048576 - n1 : Nat) : Int) < 0 := by omega
    have E9 := hid (show 1048576 - (n1 : Int) = ((1048576 - n1 : Nat) : Int) by omega)
    go_wp2_with fail
    refine (szIntS_g A1 n1 c1 1048576 _ H1.out (by omega)).mono ?_
    rintro e w1 ⟨he, rfl⟩
    rw [E1.out] at he
    subst he
    go_wp2
    go_ret
    exact ⟨ret_int (by rw [HV.out, if_neg (by omega)]; exact E9.out.symm), hb⟩

set_option maxHeartbeats 1000000 in
theorem eqCache_same (A1 B1 : Option Addr) (c1 d1 : Nat) (p : Cch) (w : World) (h : SeesN w w.heap.size A1 p) (h' : SeesN w w.heap.size B1 p) (h1 : p.n.length ≤ 4194304) :
    Calls Try.prog 26 #[.agg #[.int .i64 p.r, .slice A1 p.n.length c1], .agg #[.int .i64 p.r, .slice B1 p.n.length d1]] w fun e w' => e = .returned (.bool true) ∧ Below w.heap.size w w' := by
  have H1 := hid h1
  clear h1
  have hb0 := (Below.refl w.heap.size w).alloc (Nat.le_refl _) (.cells #[.int .i64 p.r, .slice A1 p.n.length c1] 37)
  have hb := hb0.alloc hb0.size (.cells #[.int .i64 p.r, .slice B1 p.n.length d1] 37)
  have x0 := (At.new w 37 #[.int .i64 p.r, .slice A1 p.n.length c1]).alloc (.cells #[.int .i64 p.r, .slice B1 p.n.length d1] 37)
  have z0 : At ((w.alloc (.cells #[.int .i64 p.r, .slice A1 p.n.length c1] 37)).alloc (.cells #[.int .i64 p.r, .slice B1 p.n.length d1] 37)) (w.heap.size + 1) 37 #[.int .i64 p.r, .slice B1 p.n.length d1] := At.newAt _ _ (by simp)
  have hs := SeesN.on h hb
  have hs' := SeesN.on h' hb
  clear hb0 h h'
  obtain ⟨p0, p1, pl⟩ := (⟨x0.cell 0, x0.cell 1, x0.lt⟩ : _ ∧ _ ∧ _)
  obtain ⟨q0, q1, ql⟩ := (⟨z0.cell 0, z0.cell 1, z0.lt⟩ : _ ∧ _ ∧ _)
  go_enter Try.func26, Try.ntmps26
  go_wp2_with fail
  refine (eqIntS_same _ _ _ _ _ _ hs.names hs'.names H1.out).mono ?_
  rintro e w1 ⟨rfl, hb1⟩
  have x1 := x0.below hb1 x0.lt
  have z1 := z0.below hb1 z0.lt
  have hs1 := SeesN.on hs hb1
  have hs1' := SeesN.on hs' hb1
  have hbw1 := hb.trans (hb1.mono hb.size)
  clear x0 z0 hs hs' hb hb1 p0 p1 pl q0 q1 ql
  obtain ⟨p0, p1, pl⟩ := (⟨x1.cell 0, x1.cell 1, x1.lt⟩ : _ ∧ _ ∧ _)
  obtain ⟨q0, q1, ql⟩ := (⟨z1.cell 0, z1.cell 1, z1.lt⟩ : _ ∧ _ ∧ _)
  go_wp2
  go_ret
  exact ⟨rfl, hbw1⟩

set_option maxHeartbeats 2000000 in
theorem toCache_any (p : Cch) (A1 : Option Addr) (c1 : Nat) (w : World) (h : SeesN w w.heap.size A1 p) (h1 : p.n.length ≤ 4194304) :
    Calls Try.prog 20 #[.agg #[.int .i64 p.r, .slice A1 p.n.length c1]] w fun e w' => ∃ B1 d1, e = .returned (.agg #[.int .i64 p.r, .slice B1 p.n.length d1]) ∧ OwnN w' w.heap.size B1 d1 p ∧ Below w.heap.size w w' := by
  have H1 := hid h1
  clear h1
  have hB1 := Below.refl w.heap.size w
  have hB2 := hB1.alloc hB1.size (.cells #[.int .i64 p.r, .slice A1 p.n.length c1] 40)
  clear hB1
  have x3 : At (w.alloc (.cells #[.int .i64 p.r, .slice A1 p.n.length c1] 40)) (w.heap.size) 40 #[.int .i64 p.r, .slice A1 p.n.length c1] := At.newAt _ _ (by first | rfl | (simp; done) | (simp; omega))
  have hB4 := hB2.alloc hB2.size (.cells #[.int .i64 0, .slice none 0 0] 37)
  have x5 := x3.alloc (.cells #[.int .i64 0, .slice none 0 0] 37)
  clear hB2 x3
  have r6 : At ((w.alloc (.cells #[.int .i64 p.r, .slice A1 p.n.length c1] 40)).alloc (.cells #[.int .i64 0, .slice none 0 0] 37)) (w.heap.size + 1) 37 #[.int .i64 0, .slice none 0 0] := At.newAt _ _ (by first | rfl | (simp; done) | (simp; omega))
  have hB7 := hB4.alloc hB4.size (.cells #[.int .i64 p.r, .slice none 0 0] 37)
  have x8 := x5.alloc (.cells #[.int .i64 p.r, .slice none 0 0] 37)
  have r9 := r6.alloc (.cells #[.int .i64 p.r, .slice none 0 0] 37)
  clear hB4 x5 r6
  have t10 : At (((w.alloc (.cells #[.int .i64 p.r, .slice A1 p.n.length c1] 40)).alloc (.cells #[.int .i64 0, .slice none 0 0] 37)).alloc (.cells #[.int .i64 p.r, .slice none 0 0] 37)) (w.heap.size + 2) 37 #[.int .i64 p.r, .slice none 0 0] := At.newAt _ _ (by first | rfl | (simp; done) | (simp; omega))
  go_enter Try.func20, Try.ntmps20
  obtain ⟨p0, p1, pl, pf⟩ := (⟨x8.cell 0, x8.cell 1, x8.lt, x8.frozen⟩ : _ ∧ _ ∧ _ ∧ _)
  obtain ⟨q0, q1, ql, qf⟩ := (⟨r9.cell 0, r9.cell 1, r9.lt, r9.frozen⟩ : _ ∧ _ ∧ _ ∧ _)
  obtain ⟨t0, t1, tl, tf⟩ := (⟨t10.cell 0, t10.cell 1, t10.lt, t10.frozen⟩ : _ ∧ _ ∧ _ ∧ _)
  have ne_pq : ¬ w.heap.size = w.heap.size + 1 := by omega
  have ne_qp : ¬ w.heap.size + 1 = w.heap.size := by omega
  have ne_pt : ¬ w.heap.size = w.heap.size + 2 := by omega
  have ne_tp : ¬ w.heap.size + 2 = w.heap.size := by omega
  have ne_qt : ¬ w.heap.size + 1 = w.heap.size + 2 := by omega
  have ne_tq : ¬ w.heap.size + 2 = w.heap.size + 1 := by omega
  go_wp2_with fail
  with_reducible refine (toIntS_any A1 c1 p.n _ (SeesN.on h hB7).names H1.out).mono ?_
  rintro e w1 ⟨v1, rfl, hn1, hb1⟩
  obtain ⟨An1, cn1, rfl, _⟩ := hn1.form
  have sz1 : w.heap.size + 3 ≤ w1.heap.size := Nat.le_trans (by first | exact Nat.le_refl _ | (simp; done) | (simp; omega)) (hb1.size)
  have lo0 := (own_mono hn1.out (show w.heap.size + 3 ≤ _ by first | exact Nat.le_refl _ | (simp; done))).lt
  have hB11 := hB7.trans (hb1.mono hB7.size)
  have x12 := x8.below hb1 x8.lt
  have r13 := r9.below hb1 r9.lt
  have t14 := t10.below hb1 t10.lt
  clear hB7 x8 r9 t10
  clear p0 p1 pl pf q0 q1 ql qf t0 t1 tl tf ne_pq ne_qp ne_pt ne_tp ne_qt ne_tq
  have l015 := hn1.out
  clear hn1
  obtain ⟨p0, p1, pl, pf⟩ := (⟨x12.cell 0, x12.cell 1, x12.lt, x12.frozen⟩ : _ ∧ _ ∧ _ ∧ _)
  obtain ⟨q0, q1, ql, qf⟩ := (⟨r13.cell 0, r13.cell 1, r13.lt, r13.frozen⟩ : _ ∧ _ ∧ _ ∧ _)
  obtain ⟨t0, t1, tl, tf⟩ := (⟨t14.cell 0, t14.cell 1, t14.lt, t14.frozen⟩ : _ ∧ _ ∧ _ ∧ _)
  have ne_pq : ¬ w.heap.size = w.heap.size + 1 := by omega
  have ne_qp : ¬ w.heap.size + 1 = w.heap.size := by omega
  have ne_pt : ¬ w.heap.size = w.heap.size + 2 := by omega
  have ne_tp : ¬ w.heap.size + 2 = w.heap.size := by omega
  have ne_qt : ¬ w.heap.size + 1 = w.heap.size + 2 := by omega
  have ne_tq : ¬ w.heap.size + 2 = w.heap.size + 1 := by omega
  have hB16 := below_put hB11 (grown_set w1 (w.heap.size + 2) 1 (.slice An1 p.n.length cn1)) (by omega) (by have := hB11.size; omega)
  have x17 := x12.past (grown_set w1 (w.heap.size + 2) 1 (.slice An1 p.n.length cn1)) (by omega)
  have r18 := r13.past (grown_set w1 (w.heap.size + 2) 1 (.slice An1 p.n.length cn1)) (by omega)
  have l019 := row_past l015 t14 (by decide) (grown_set w1 (w.heap.size + 2) 1 (.slice An1 p.n.length cn1))
  have t20 : At (w1.setCell ⟨w.heap.size + 2, 1, none⟩ (.slice An1 p.n.length cn1)) (w.heap.size + 2) 37 #[.int .i64 p.r, .slice An1 p.n.length cn1] := by simpa using t14.set 1 (.slice An1 p.n.length cn1)
  clear hB11 x12 r13 l015 t14
  have hO : OwnN (w1.setCell ⟨w.heap.size + 2, 1, none⟩ (.slice An1 p.n.length cn1)) w.heap.size An1 cn1 p := own_mono l019 (by first | omega | (simp; omega))
  clear l019
  obtain ⟨p0, p1, pl, pf⟩ := (⟨x17.cell 0, x17.cell 1, x17.lt, x17.frozen⟩ : _ ∧ _ ∧ _ ∧ _)
  obtain ⟨q0, q1, ql, qf⟩ := (⟨r18.cell 0, r18.cell 1, r18.lt, r18.frozen⟩ : _ ∧ _ ∧ _ ∧ _)
  obtain ⟨t0, t1, tl, tf⟩ := (⟨t20.cell 0, t20.cell 1, t20.lt, t20.frozen⟩ : _ ∧ _ ∧ _ ∧ _)
  have ne_pq : ¬ w.heap.size = w.heap.size + 1 := by omega
  have ne_qp : ¬ w.heap.size + 1 = w.heap.size := by omega
  have ne_pt : ¬ w.heap.size = w.heap.size + 2 := by omega
  have ne_tp : ¬ w.heap.size + 2 = w.heap.size := by omega
  have ne_qt : ¬ w.heap.size + 1 = w.heap.size + 2 := by omega
  have ne_tq : ¬ w.heap.size + 2 = w.heap.size + 1 := by omega
  have hcur := hO
  have O21 := hO
  clear hO hcur
  have O22 := OwnN.past O21 r18 (by decide) (grown_set (w1.setCell ⟨w.heap.size + 2, 1, none⟩ (.slice An1 p.n.length cn1)) (w.heap.size + 1) 0 (.int .i64 p.r))
  clear O21
  have hB23 := below_put hB16 (grown_set (w1.setCell ⟨w.heap.size + 2, 1, none⟩ (.slice An1 p.n.length cn1)) (w.heap.size + 1) 0 (.int .i64 p.r)) (by omega) (by have := hB16.size; omega)
  have x24 := x17.past (grown_set (w1.setCell ⟨w.heap.size + 2, 1, none⟩ (.slice An1 p.n.length cn1)) (w.heap.size + 1) 0 (.int .i64 p.r)) (by omega)
  have t25 := t20.past (grown_set (w1.setCell ⟨w.heap.size + 2, 1, none⟩ (.slice An1 p.n.length cn1)) (w.heap.size + 1) 0 (.int .i64 p.r)) (by omega)
  have r26 : At ((w1.setCell ⟨w.heap.size + 2, 1, none⟩ (.slice An1 p.n.length cn1)).setCell ⟨w.heap.size + 1, 0, none⟩ (.int .i64 p.r)) (w.heap.size + 1) 37 #[.int .i64 p.r, .slice none 0 0] := by simpa using r18.set 0 (.int .i64 p.r)
  clear hB16 x17 t20 r18
  have O27 := OwnN.past O22 r26 (by decide) (grown_set ((w1.setCell ⟨w.heap.size + 2, 1, none⟩ (.slice An1 p.n.length cn1)).setCell ⟨w.heap.size + 1, 0, none⟩ (.int .i64 p.r)) (w.heap.size + 1) 1 (.slice An1 p.n.length cn1))
  clear O22
  have hB28 := below_put hB23 (grown_set ((w1.setCell ⟨w.heap.size + 2, 1, none⟩ (.slice An1 p.n.length cn1)).setCell ⟨w.heap.size + 1, 0, none⟩ (.int .i64 p.r)) (w.heap.size + 1) 1 (.slice An1 p.n.length cn1)) (by omega) (by have := hB23.size; omega)
  have x29 := x24.past (grown_set ((w1.setCell ⟨w.heap.size + 2, 1, none⟩ (.slice An1 p.n.length cn1)).setCell ⟨w.heap.size + 1, 0, none⟩ (.int .i64 p.r)) (w.heap.size + 1) 1 (.slice An1 p.n.length cn1)) (by omega)
  have t30 := t25.past (grown_set ((w1.setCell ⟨w.heap.size + 2, 1, none⟩ (.slice An1 p.n.length cn1)).setCell ⟨w.heap.size + 1, 0, none⟩ (.int .i64 p.r)) (w.heap.size + 1) 1 (.slice An1 p.n.length cn1)) (by omega)
  have r31 : At (((w1.setCell ⟨w.heap.size + 2, 1, none⟩ (.slice An1 p.n.length cn1)).setCell ⟨w.heap.size + 1, 0, none⟩ (.int .i64 p.r)).setCell ⟨w.heap.size + 1, 1, none⟩ (.slice An1 p.n.length cn1)) (w.heap.size + 1) 37 #[.int .i64 p.r, .slice An1 p.n.length cn1] := by simpa using r26.set 1 (.slice An1 p.n.length cn1)
  clear hB23 x24 t25 r26
  go_wp2
  refine bodyPost_ret (v := .agg #[.int .i64 p.r, .slice An1 p.n.length cn1]) (by simp [results, Try.results20, go_sem, r31.cell]) rfl ⟨_, _, rfl, O27, hB28⟩

end Go.Proofs.Ytfophplmdljhbaa

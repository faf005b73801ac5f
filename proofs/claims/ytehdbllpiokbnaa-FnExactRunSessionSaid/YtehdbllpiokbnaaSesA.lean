/-
  What the program's functions answer that execute one command of a session. Condition: the pool is valid and its lists lie in memory.
-/
import Derived.Test.YtehdbllpiokbnaaSesMath
import Derived.Test.YtehdbllpiokbnaaTa
import Derived.Test.YtehdbllpiokbnaaPlH
import Derived.Test.YtehdbllpiokbnaaPlI
import Derived.Test.YtehdbllpiokbnaaPlJ
import Derived.Test.YtehdbllpiokbnaaPlK
import Derived.Test.YtehdbllpiokbnaaSeesF
import Derived.StillTailTactics

namespace Go.Proofs.Ytehdbllpiokbnaa
open Go.RowKit Txt Pol Ses

/-- A pool whose lists lie in no block of a kind. -/
def PolF (w : World) (F : Nat → Prop) (A1 A2 A3 : Option Addr) (c1 c2 c3 : Nat) (p : Pl) : Prop := (SeesF w F A1 (ints p.idle) ∧ SeesF w F A2 (strip hcells p.held) ∧ SeesF w F A3 (ints p.wait)) ∧ p.idle.length ≤ c1 ∧ p.held.length ≤ c2 ∧ p.wait.length ≤ c3
section
variable {w w' : World} {F : Nat → Prop} {A1 A2 A3 : Option Addr} {c1 c2 c3 : Nat} {p : Pl}
theorem PolF.sees (h : PolF w F A1 A2 A3 c1 c2 c3 p) : SeesP w w.heap.size A1 A2 A3 p := ⟨h.1.1.sees, h.1.2.1.sees, h.1.2.2.sees⟩
theorem PolF.below (h : PolF w F A1 A2 A3 c1 c2 c3 p) (hb : Below w.heap.size w w') : PolF w' F A1 A2 A3 c1 c2 c3 p := ⟨⟨h.1.1.below hb, h.1.2.1.below hb, h.1.2.2.below hb⟩, h.2⟩
theorem PolF.grown (h : PolF w F A1 A2 A3 c1 c2 c3 p) {row : Option Nat} (hg : w.grownBy w' row) (hr : ∀ b, row = some b → F b) : PolF w' F A1 A2 A3 c1 c2 c3 p := ⟨⟨h.1.1.grown hg hr, h.1.2.1.grown hg hr, h.1.2.2.grown hg hr⟩, h.2⟩
theorem PolF.sized (h : PolF w F A1 A2 A3 c1 c2 c3 p) (n : Int) : PolF w F A1 A2 A3 c1 c2 c3 (sized p n) := h
theorem PolF.of_own {base : Nat} (h : OwnP w base A1 A2 A3 c1 c2 c3 p) (hF : ∀ b, F b → b < base) : PolF w F A1 A2 A3 c1 c2 c3 p :=
  ⟨⟨SeesF.of_row h.1.out (fun b h1 _ e => by have := hF b e; omega), SeesF.of_row h.2.1.out (fun b h1 _ e => by have := hF b e; omega), SeesF.of_row h.2.2.1.out (fun b h1 _ e => by have := hF b e; omega)⟩, h.lens⟩
end
/-- A pool after a step of a session, and what was said. -/
def StepAns (F : Nat → Prop) (r : Pl × List UInt8) (w : World) (e : Ending) (w' : World) : Prop := ∃ B1 B2 B3 d1 d2 d3, e = .returned (.tuple #[.agg #[.int .i64 r.1.mx, .slice B1 r.1.idle.length d1, .slice B2 r.1.held.length d2, .slice B3 r.1.wait.length d3], tx r.2]) ∧ PolF w' F B1 B2 B3 d1 d2 d3 r.1 ∧ Below w.heap.size w w'
theorem fourS {w : World} {g : Nat} {t : TypeId} {a b c d : Value} (h : At w g t #[a, b, c, d]) : w.cell? ⟨g, 0, none⟩ = some a ∧ w.cell? ⟨g, 1, none⟩ = some b ∧ w.cell? ⟨g, 2, none⟩ = some c ∧ w.cell? ⟨g, 3, none⟩ = some d ∧ g < w.heap.size ∧ ∀ i, w.frozen? ⟨g, i, none⟩ = false := ⟨h.cell 0, h.cell 1, h.cell 2, h.cell 3, h.lt, h.frozen⟩
theorem four {w : World} {D : Nat} {t : TypeId} {u0 u1 u2 u3 : Value} (h : At w D t #[u0, u1, u2, u3]) : w.cell? ⟨D, 0, none⟩ = some u0 ∧ w.cell? ⟨D, 1, none⟩ = some u1 ∧ w.cell? ⟨D, 2, none⟩ = some u2 ∧ w.cell? ⟨D, 3, none⟩ = some u3 := ⟨h.cell 0, h.cell 1, h.cell 2, h.cell 3⟩
theorem put4_at {w : World} {D : Nat} {t : TypeId} {cs : Array Value} (u0 u1 u2 u3 : Value) (h : At w D t cs) (hc : cs.size = 4) : At ((((w.setCell ⟨D, 0, none⟩ u0).setCell ⟨D, 1, none⟩ u1).setCell ⟨D, 2, none⟩ u2).setCell ⟨D, 3, none⟩ u3) D t #[u0, u1, u2, u3] ∧ w.grownBy ((((w.setCell ⟨D, 0, none⟩ u0).setCell ⟨D, 1, none⟩ u1).setCell ⟨D, 2, none⟩ u2).setCell ⟨D, 3, none⟩ u3) (some D) := by
  have h4 := (((h.set 0 u0).set 1 u1).set 2 u2).set 3 u3
  have e : (((cs.setIfInBounds 0 u0).setIfInBounds 1 u1).setIfInBounds 2 u2).setIfInBounds 3 u3 = #[u0, u1, u2, u3] := by
    obtain ⟨l⟩ := cs
    match l, hc with
    | [a, b, c, d], _ => rfl
  rw [e] at h4
  exact ⟨h4, (((grown_set w D 0 u0).trans (grown_set _ D 1 u1)).trans (grown_set _ D 2 u2)).trans (grown_set _ D 3 u3)⟩
theorem ok_2 {p : Pl} (h : Ok p) : Hid (p.idle.length ≤ 2097152) ∧ Hid (p.held.length ≤ 2097152) ∧ Hid (p.wait.length ≤ 2097152) := by
  obtain ⟨z1, z2, z3⟩ := h.small
  exact ⟨hid (by omega), hid (by omega), hid (by omega)⟩
theorem text_at (n : Int) (h0 : 0 ≤ n) (h1 : n ≤ 9999) : ∃ m : Nat, n = m ∧ m ≤ 1000000000 ∧ (dec m).length ≤ 4 := ⟨n.toNat, by omega, by omega, dec_len 3 _ (by omega)⟩
set_option maxHeartbeats 8000000 in
set_option maxRecDepth 16384 in
theorem runAcquire_any (p : Pl) (A1 A2 A3 : Option Addr) (c1 c2 c3 : Nat) (o : Int) (F : Nat → Prop) (w : World) (hP : PolF w F A1 A2 A3 c1 c2 c3 p) (hF : ∀ b, F b → b < w.heap.size) (hok : Ok p) :
    Calls Try.prog 90 #[.agg #[.int .i64 p.mx, .slice A1 p.idle.length c1, .slice A2 p.held.length c2, .slice A3 p.wait.length c3], .int .i64 o] w (StepAns F (rAcq p o) w) := by
  have h := hP.sees
  obtain ⟨k1, k2, k3⟩ := hP.2
  obtain ⟨L1, L2, L3⟩ := ok_2 hok
  obtain ⟨R, hR⟩ : ∃ R, R = acqR p o := ⟨_, rfl⟩
  have HR := hid hR.symm
  rcases hb : acqB p o with _ | _
  · skip
    have ER : Hid (rAcq p o = (p, tNo)) := hid (by unfold rAcq; rw [hb]; rfl)
    have HN := hid (acq_no hb).1
    have HK := hid hb
    clear hb hR hok
    have hB1 := Below.refl w.heap.size w
    have hB2 := hB1.alloc hB1.size (.cells #[.int .i64 p.mx, .slice A1 p.idle.length c1, .slice A2 p.held.length c2, .slice A3 p.wait.length c3] 30)
    clear hB1
    have x3 : At (w.alloc (.cells #[.int .i64 p.mx, .slice A1 p.idle.length c1, .slice A2 p.held.length c2, .slice A3 p.wait.length c3] 30)) (w.heap.size) 30 #[.int .i64 p.mx, .slice A1 p.idle.length c1, .slice A2 p.held.length c2, .slice A3 p.wait.length c3] := At.newAt _ _ (by first | rfl | (simp; done) | (simp; omega))
    have hB4 := hB2.alloc hB2.size (.cells #[.int .i64 0, .slice none 0 0, .slice none 0 0, .slice none 0 0] 30)
    have x5 := x3.alloc (.cells #[.int .i64 0, .slice none 0 0, .slice none 0 0, .slice none 0 0] 30)
    clear hB2 x3
    have r6 : At ((w.alloc (.cells #[.int .i64 p.mx, .slice A1 p.idle.length c1, .slice A2 p.held.length c2, .slice A3 p.wait.length c3] 30)).alloc (.cells #[.int .i64 0, .slice none 0 0, .slice none 0 0, .slice none 0 0] 30)) (w.heap.size + 1) 30 #[.int .i64 0, .slice none 0 0, .slice none 0 0, .slice none 0 0] := At.newAt _ _ (by first | rfl | (simp; done) | (simp; omega))
    go_enter Try.func90, Try.ntmps90
    obtain ⟨p0, p1, p2, p3, pl, pf⟩ := fourS x5
    obtain ⟨q0, q1, q2, q3, ql, qf⟩ := fourS r6
    go_wp2_with fail
    with_reducible refine (iAcquireConn_any p A1 A2 A3 c1 c2 c3 o _ (h.on hB4) k1 L1.out L2.out L3.out).mono ?_
    rintro e w1 ⟨Br1, Br2, Br3, dr1, dr2, dr3, he, ho, hb1⟩
    rw [HR.out, HN.out, HK.out] at he
    rw [HR.out] at ho
    subst he
    have sz1 : w.heap.size + 2 ≤ w1.heap.size := Nat.le_trans (by first | exact Nat.le_refl _ | (simp; done) | (simp; omega)) (hb1.size)
    have hB7 := hB4.trans (hb1.mono hB4.size)
    have x8 := x5.below hb1 x5.lt
    have r9 := r6.below hb1 r6.lt
    clear hB4 x5 r6
    clear p0 p1 p2 p3 pl pf q0 q1 q2 q3 ql qf
    have o10 := ho.mono (show w.heap.size + 2 ≤ _ by first | omega | (simp; done) | (simp; omega))
    clear ho
    obtain ⟨p0, p1, p2, p3, pl, pf⟩ := fourS x8
    obtain ⟨q0, q1, q2, q3, ql, qf⟩ := fourS r9
    have ne_pq : ¬ w.heap.size = w.heap.size + 1 := by omega
    have ne_qp : ¬ w.heap.size + 1 = w.heap.size := by omega
    have hB11 := below_put hB7 (grown_set w1 (w.heap.size + 1) 0 (.int .i64 p.mx)) (by omega) (by have := hB7.size; omega)
    have x12 := x8.past (grown_set w1 (w.heap.size + 1) 0 (.int .i64 p.mx)) (by omega)
    have o13 := o10.past r9 (grown_set w1 (w.heap.size + 1) 0 (.int .i64 p.mx))
    have r14 : At (w1.setCell ⟨w.heap.size + 1, 0, none⟩ (.int .i64 p.mx)) (w.heap.size + 1) 30 #[.int .i64 p.mx, .slice none 0 0, .slice none 0 0, .slice none 0 0] := by simpa using r9.set 0 (.int .i64 p.mx)
    clear hB7 x8 o10 r9
    have hB15 := below_put hB11 (grown_set (w1.setCell ⟨w.heap.size + 1, 0, none⟩ (.int .i64 p.mx)) (w.heap.size + 1) 1 (.slice A1 p.idle.length c1)) (by omega) (by have := hB11.size; omega)
    have x16 := x12.past (grown_set (w1.setCell ⟨w.heap.size + 1, 0, none⟩ (.int .i64 p.mx)) (w.heap.size + 1) 1 (.slice A1 p.idle.length c1)) (by omega)
    have o17 := o13.past r14 (grown_set (w1.setCell ⟨w.heap.size + 1, 0, none⟩ (.int .i64 p.mx)) (w.heap.size + 1) 1 (.slice A1 p.idle.length c1))
    have r18 : At ((w1.setCell ⟨w.heap.size + 1, 0, none⟩ (.int .i64 p.mx)).setCell ⟨w.heap.size + 1, 1, none⟩ (.slice A1 p.idle.length c1)) (w.heap.size + 1) 30 #[.int .i64 p.mx, .slice A1 p.idle.length c1, .slice none 0 0, .slice none 0 0] := by simpa using r14.set 1 (.slice A1 p.idle.length c1)
    clear hB11 x12 o13 r14
    have hB19 := below_put hB15 (grown_set ((w1.setCell ⟨w.heap.size + 1, 0, none⟩ (.int .i64 p.mx)).setCell ⟨w.heap.size + 1, 1, none⟩ (.slice A1 p.idle.length c1)) (w.heap.size + 1) 2 (.slice A2 p.held.length c2)) (by omega) (by have := hB15.size; omega)
    have x20 := x16.past (grown_set ((w1.setCell ⟨w.heap.size + 1, 0, none⟩ (.int .i64 p.mx)).setCell ⟨w.heap.size + 1, 1, none⟩ (.slice A1 p.idle.length c1)) (w.heap.size + 1) 2 (.slice A2 p.held.length c2)) (by omega)
    have o21 := o17.past r18 (grown_set ((w1.setCell ⟨w.heap.size + 1, 0, none⟩ (.int .i64 p.mx)).setCell ⟨w.heap.size + 1, 1, none⟩ (.slice A1 p.idle.length c1)) (w.heap.size + 1) 2 (.slice A2 p.held.length c2))
    have r22 : At (((w1.setCell ⟨w.heap.size + 1, 0, none⟩ (.int .i64 p.mx)).setCell ⟨w.heap.size + 1, 1, none⟩ (.slice A1 p.idle.length c1)).setCell ⟨w.heap.size + 1, 2, none⟩ (.slice A2 p.held.length c2)) (w.heap.size + 1) 30 #[.int .i64 p.mx, .slice A1 p.idle.length c1, .slice A2 p.held.length c2, .slice none 0 0] := by simpa using r18.set 2 (.slice A2 p.held.length c2)
    clear hB15 x16 o17 r18
    have hB23 := below_put hB19 (grown_set (((w1.setCell ⟨w.heap.size + 1, 0, none⟩ (.int .i64 p.mx)).setCell ⟨w.heap.size + 1, 1, none⟩ (.slice A1 p.idle.length c1)).setCell ⟨w.heap.size + 1, 2, none⟩ (.slice A2 p.held.length c2)) (w.heap.size + 1) 3 (.slice A3 p.wait.length c3)) (by omega) (by have := hB19.size; omega)
    have x24 := x20.past (grown_set (((w1.setCell ⟨w.heap.size + 1, 0, none⟩ (.int .i64 p.mx)).setCell ⟨w.heap.size + 1, 1, none⟩ (.slice A1 p.idle.length c1)).setCell ⟨w.heap.size + 1, 2, none⟩ (.slice A2 p.held.length c2)) (w.heap.size + 1) 3 (.slice A3 p.wait.length c3)) (by omega)
    have o25 := o21.past r22 (grown_set (((w1.setCell ⟨w.heap.size + 1, 0, none⟩ (.int .i64 p.mx)).setCell ⟨w.heap.size + 1, 1, none⟩ (.slice A1 p.idle.length c1)).setCell ⟨w.heap.size + 1, 2, none⟩ (.slice A2 p.held.length c2)) (w.heap.size + 1) 3 (.slice A3 p.wait.length c3))
    have r26 : At ((((w1.setCell ⟨w.heap.size + 1, 0, none⟩ (.int .i64 p.mx)).setCell ⟨w.heap.size + 1, 1, none⟩ (.slice A1 p.idle.length c1)).setCell ⟨w.heap.size + 1, 2, none⟩ (.slice A2 p.held.length c2)).setCell ⟨w.heap.size + 1, 3, none⟩ (.slice A3 p.wait.length c3)) (w.heap.size + 1) 30 #[.int .i64 p.mx, .slice A1 p.idle.length c1, .slice A2 p.held.length c2, .slice A3 p.wait.length c3] := by simpa using r22.set 3 (.slice A3 p.wait.length c3)
    clear hB19 x20 o21 r22
    have hB27 := hB23.alloc hB23.size (.cells #[.int .i64 R.mx, .slice Br1 R.idle.length dr1, .slice Br2 R.held.length dr2, .slice Br3 R.wait.length dr3] 30)
    have x28 := x24.alloc (.cells #[.int .i64 R.mx, .slice Br1 R.idle.length dr1, .slice Br2 R.held.length dr2, .slice Br3 R.wait.length dr3] 30)
    have r29 := r26.alloc (.cells #[.int .i64 R.mx, .slice Br1 R.idle.length dr1, .slice Br2 R.held.length dr2, .slice Br3 R.wait.length dr3] 30)
    have o30 := o25.alloc (.cells #[.int .i64 R.mx, .slice Br1 R.idle.length dr1, .slice Br2 R.held.length dr2, .slice Br3 R.wait.length dr3] 30)
    clear hB23 x24 r26 o25
    go_wp2
    refine bodyPost_ret (v := .tuple #[.agg #[.int .i64 p.mx, .slice A1 p.idle.length c1, .slice A2 p.held.length c2, .slice A3 p.wait.length c3], .string (ByteArray.mk #[110, 111])]) (by simp [results, Try.results90, go_sem, r29.cell]) rfl ?_
    rw [ER.out]
    exact ⟨_, _, _, _, _, _, rfl, hP.below hB27, hB27⟩
  rcases acq_range hb with hn | ⟨hn0, hn9⟩
  · skip
    have ER : Hid (rAcq p o = (R, tWait)) := hid (by unfold rAcq; rw [if_pos hb, if_pos hn, hR])
    have HN := hid hn
    have HK := hid hb
    clear hb hR hok hn
    have hB31 := Below.refl w.heap.size w
    have hB32 := hB31.alloc hB31.size (.cells #[.int .i64 p.mx, .slice A1 p.idle.length c1, .slice A2 p.held.length c2, .slice A3 p.wait.length c3] 30)
    clear hB31
    have x33 : At (w.alloc (.cells #[.int .i64 p.mx, .slice A1 p.idle.length c1, .slice A2 p.held.length c2, .slice A3 p.wait.length c3] 30)) (w.heap.size) 30 #[.int .i64 p.mx, .slice A1 p.idle.length c1, .slice A2 p.held.length c2, .slice A3 p.wait.length c3] := At.newAt _ _ (by first | rfl | (simp; done) | (simp; omega))
    have hB34 := hB32.alloc hB32.size (.cells #[.int .i64 0, .slice none 0 0, .slice none 0 0, .slice none 0 0] 30)
    have x35 := x33.alloc (.cells #[.int .i64 0, .slice none 0 0, .slice none 0 0, .slice none 0 0] 30)
    clear hB32 x33
    have r36 : At ((w.alloc (.cells #[.int .i64 p.mx, .slice A1 p.idle.length c1, .slice A2 p.held.length c2, .slice A3 p.wait.length c3] 30)).alloc (.cells #[.int .i64 0, .slice none 0 0, .slice none 0 0, .slice none 0 0] 30)) (w.heap.size + 1) 30 #[.int .i64 0, .slice none 0 0, .slice none 0 0, .slice none 0 0] := At.newAt _ _ (by first | rfl | (simp; done) | (simp; omega))
    go_enter Try.func90, Try.ntmps90
    obtain ⟨p0, p1, p2, p3, pl, pf⟩ := fourS x35
    obtain ⟨q0, q1, q2, q3, ql, qf⟩ := fourS r36
    go_wp2_with fail
    with_reducible refine (iAcquireConn_any p A1 A2 A3 c1 c2 c3 o _ (h.on hB34) k1 L1.out L2.out L3.out).mono ?_
    rintro e w1 ⟨Br1, Br2, Br3, dr1, dr2, dr3, he, ho, hb1⟩
    rw [HR.out, HN.out, HK.out] at he
    rw [HR.out] at ho
    subst he
    have sz1 : w.heap.size + 2 ≤ w1.heap.size := Nat.le_trans (by first | exact Nat.le_refl _ | (simp; done) | (simp; omega)) (hb1.size)
    have hB37 := hB34.trans (hb1.mono hB34.size)
    have x38 := x35.below hb1 x35.lt
    have r39 := r36.below hb1 r36.lt
    clear hB34 x35 r36
    clear p0 p1 p2 p3 pl pf q0 q1 q2 q3 ql qf
    have o40 := ho.mono (show w.heap.size + 2 ≤ _ by first | omega | (simp; done) | (simp; omega))
    clear ho
    obtain ⟨p0, p1, p2, p3, pl, pf⟩ := fourS x38
    obtain ⟨q0, q1, q2, q3, ql, qf⟩ := fourS r39
    have ne_pq : ¬ w.heap.size = w.heap.size + 1 := by omega
    have ne_qp : ¬ w.heap.size + 1 = w.heap.size := by omega
    have hB41 := below_put hB37 (grown_set w1 (w.heap.size + 1) 0 (.int .i64 R.mx)) (by omega) (by have := hB37.size; omega)
    have x42 := x38.past (grown_set w1 (w.heap.size + 1) 0 (.int .i64 R.mx)) (by omega)
    have o43 := o40.past r39 (grown_set w1 (w.heap.size + 1) 0 (.int .i64 R.mx))
    have r44 : At (w1.setCell ⟨w.heap.size + 1, 0, none⟩ (.int .i64 R.mx)) (w.heap.size + 1) 30 #[.int .i64 R.mx, .slice none 0 0, .slice none 0 0, .slice none 0 0] := by simpa using r39.set 0 (.int .i64 R.mx)
    clear hB37 x38 o40 r39
    have hB45 := below_put hB41 (grown_set (w1.setCell ⟨w.heap.size + 1, 0, none⟩ (.int .i64 R.mx)) (w.heap.size + 1) 1 (.slice Br1 R.idle.length dr1)) (by omega) (by have := hB41.size; omega)
    have x46 := x42.past (grown_set (w1.setCell ⟨w.heap.size + 1, 0, none⟩ (.int .i64 R.mx)) (w.heap.size + 1) 1 (.slice Br1 R.idle.length dr1)) (by omega)
    have o47 := o43.past r44 (grown_set (w1.setCell ⟨w.heap.size + 1, 0, none⟩ (.int .i64 R.mx)) (w.heap.size + 1) 1 (.slice Br1 R.idle.length dr1))
    have r48 : At ((w1.setCell ⟨w.heap.size + 1, 0, none⟩ (.int .i64 R.mx)).setCell ⟨w.heap.size + 1, 1, none⟩ (.slice Br1 R.idle.length dr1)) (w.heap.size + 1) 30 #[.int .i64 R.mx, .slice Br1 R.idle.length dr1, .slice none 0 0, .slice none 0 0] := by simpa using r44.set 1 (.slice Br1 R.idle.length dr1)
    clear hB41 x42 o43 r44
    have hB49 := below_put hB45 (grown_set ((w1.setCell ⟨w.heap.size + 1, 0, none⟩ (.int .i64 R.mx)).setCell ⟨w.heap.size + 1, 1, none⟩ (.slice Br1 R.idle.length dr1)) (w.heap.size + 1) 2 (.slice Br2 R.held.length dr2)) (by omega) (by have := hB45.size; omega)
    have x50 := x46.past (grown_set ((w1.setCell ⟨w.heap.size + 1, 0, none⟩ (.int .i64 R.mx)).setCell ⟨w.heap.size + 1, 1, none⟩ (.slice Br1 R.idle.length dr1)) (w.heap.size + 1) 2 (.slice Br2 R.held.length dr2)) (by omega)
    have o51 := o47.past r48 (grown_set ((w1.setCell ⟨w.heap.size + 1, 0, none⟩ (.int .i64 R.mx)).setCell ⟨w.heap.size + 1, 1, none⟩ (.slice Br1 R.idle.length dr1)) (w.heap.size + 1) 2 (.slice Br2 R.held.length dr2))
    have r52 : At (((w1.setCell ⟨w.heap.size + 1, 0, none⟩ (.int .i64 R.mx)).setCell ⟨w.heap.size + 1, 1, none⟩ (.slice Br1 R.idle.length dr1)).setCell ⟨w.heap.size + 1, 2, none⟩ (.slice Br2 R.held.length dr2)) (w.heap.size + 1) 30 #[.int .i64 R.mx, .slice Br1 R.idle.length dr1, .slice Br2 R.held.length dr2, .slice none 0 0] := by simpa using r48.set 2 (.slice Br2 R.held.length dr2)
    clear hB45 x46 o47 r48
    have hB53 := below_put hB49 (grown_set (((w1.setCell ⟨w.heap.size + 1, 0, none⟩ (.int .i64 R.mx)).setCell ⟨w.heap.size + 1, 1, none⟩ (.slice Br1 R.idle.length dr1)).setCell ⟨w.heap.size + 1, 2, none⟩ (.slice Br2 R.held.length dr2)) (w.heap.size + 1) 3 (.slice Br3 R.wait.length dr3)) (by omega) (by have := hB49.size; omega)
    have x54 := x50.past (grown_set (((w1.setCell ⟨w.heap.size + 1, 0, none⟩ (.int .i64 R.mx)).setCell ⟨w.heap.size + 1, 1, none⟩ (.slice Br1 R.idle.length dr1)).setCell ⟨w.heap.size + 1, 2, none⟩ (.slice Br2 R.held.length dr2)) (w.heap.size + 1) 3 (.slice Br3 R.wait.length dr3)) (by omega)
    have o55 := o51.past r52 (grown_set (((w1.setCell ⟨w.heap.size + 1, 0, none⟩ (.int .i64 R.mx)).setCell ⟨w.heap.size + 1, 1, none⟩ (.slice Br1 R.idle.length dr1)).setCell ⟨w.heap.size + 1, 2, none⟩ (.slice Br2 R.held.length dr2)) (w.heap.size + 1) 3 (.slice Br3 R.wait.length dr3))
    have r56 : At ((((w1.setCell ⟨w.heap.size + 1, 0, none⟩ (.int .i64 R.mx)).setCell ⟨w.heap.size + 1, 1, none⟩ (.slice Br1 R.idle.length dr1)).setCell ⟨w.heap.size + 1, 2, none⟩ (.slice Br2 R.held.length dr2)).setCell ⟨w.heap.size + 1, 3, none⟩ (.slice Br3 R.wait.length dr3)) (w.heap.size + 1) 30 #[.int .i64 R.mx, .slice Br1 R.idle.length dr1, .slice Br2 R.held.length dr2, .slice Br3 R.wait.length dr3] := by simpa using r52.set 3 (.slice Br3 R.wait.length dr3)
    clear hB49 x50 o51 r52
    have hB57 := hB53.alloc hB53.size (.cells #[.int .i64 R.mx, .slice Br1 R.idle.length dr1, .slice Br2 R.held.length dr2, .slice Br3 R.wait.length dr3] 30)
    have x58 := x54.alloc (.cells #[.int .i64 R.mx, .slice Br1 R.idle.length dr1, .slice Br2 R.held.length dr2, .slice Br3 R.wait.length dr3] 30)
    have r59 := r56.alloc (.cells #[.int .i64 R.mx, .slice Br1 R.idle.length dr1, .slice Br2 R.held.length dr2, .slice Br3 R.wait.length dr3] 30)
    have o60 := o55.alloc (.cells #[.int .i64 R.mx, .slice Br1 R.idle.length dr1, .slice Br2 R.held.length dr2, .slice Br3 R.wait.length dr3] 30)
    clear hB53 x54 r56 o55
    go_wp2
    refine bodyPost_ret (v := .tuple #[.agg #[.int .i64 R.mx, .slice Br1 R.idle.length dr1, .slice Br2 R.held.length dr2, .slice Br3 R.wait.length dr3], .string (ByteArray.mk #[119, 97, 105, 116])]) (by simp [results, Try.results90, go_sem, r59.cell]) rfl ?_
    rw [ER.out]
    exact ⟨_, _, _, _, _, _, rfl, PolF.of_own (o60) (fun b hb => Nat.lt_of_lt_of_le (hF b hb) (by omega)), hB57⟩
  · skip
    obtain ⟨m, hm, hm9, hml⟩ := text_at (acqN p o) hn0 hn9
    have ER : Hid (rAcq p o = (R, dec m)) := hid (by unfold rAcq; rw [if_pos hb, if_neg (by omega), hR, hm, Int.toNat_natCast])
    have HN := hid hm
    have HK := hid hb
    have hmn : ((m : Int) == -1) = false := by simp only [beq_eq_false_iff_ne, ne_eq]; omega
    clear hb hR hok hn0 hn9 hm
    obtain ⟨D, hD⟩ : ∃ D, D = dec m := ⟨_, rfl⟩
    rw [← hD] at ER hml
    have HD := hid hD.symm
    clear hD
    have hB61 := Below.refl w.heap.size w
    have hB62 := hB61.alloc hB61.size (.cells #[.int .i64 p.mx, .slice A1 p.idle.length c1, .slice A2 p.held.length c2, .slice A3 p.wait.length c3] 30)
    clear hB61
    have x63 : At (w.alloc (.cells #[.int .i64 p.mx, .slice A1 p.idle.length c1, .slice A2 p.held.length c2, .slice A3 p.wait.length c3] 30)) (w.heap.size) 30 #[.int .i64 p.mx, .slice A1 p.idle.length c1, .slice A2 p.held.length c2, .slice A3 p.wait.length c3] := At.newAt _ _ (by first | rfl | (simp; done) | (simp; omega))
    have hB64 := hB62.alloc hB62.size (.cells #[.int .i64 0, .slice none 0 0, .slice none 0 0, .slice none 0 0] 30)
    have x65 := x63.alloc (.cells #[.int .i64 0, .slice none 0 0, .slice none 0 0, .slice none 0 0] 30)
    clear hB62 x63
    have r66 : At ((w.alloc (.cells #[.int .i64 p.mx, .slice A1 p.idle.length c1, .slice A2 p.held.length c2, .slice A3 p.wait.length c3] 30)).alloc (.cells #[.int .i64 0, .slice none 0 0, .slice none 0 0, .slice none 0 0] 30)) (w.heap.size + 1) 30 #[.int .i64 0, .slice none 0 0, .slice none 0 0, .slice none 0 0] := At.newAt _ _ (by first | rfl | (simp; done) | (simp; omega))
    go_enter Try.func90, Try.ntmps90
    obtain ⟨p0, p1, p2, p3, pl, pf⟩ := fourS x65
    obtain ⟨q0, q1, q2, q3, ql, qf⟩ := fourS r66
    go_wp2_with fail
    with_reducible refine (iAcquireConn_any p A1 A2 A3 c1 c2 c3 o _ (h.on hB64) k1 L1.out L2.out L3.out).mono ?_
    rintro e w1 ⟨Br1, Br2, Br3, dr1, dr2, dr3, he, ho, hb1⟩
    rw [HR.out, HN.out, HK.out] at he
    rw [HR.out] at ho
    subst he
    have sz1 : w.heap.size + 2 ≤ w1.heap.size := Nat.le_trans (by first | exact Nat.le_refl _ | (simp; done) | (simp; omega)) (hb1.size)
    have hB67 := hB64.trans (hb1.mono hB64.size)
    have x68 := x65.below hb1 x65.lt
    have r69 := r66.below hb1 r66.lt
    clear hB64 x65 r66
    clear p0 p1 p2 p3 pl pf q0 q1 q2 q3 ql qf
    have o70 := ho.mono (show w.heap.size + 2 ≤ _ by first | omega | (simp; done) | (simp; omega))
    clear ho
    obtain ⟨p0, p1, p2, p3, pl, pf⟩ := fourS x68
    obtain ⟨q0, q1, q2, q3, ql, qf⟩ := fourS r69
    have hB71 := hB67.alloc hB67.size (.cells #[.int .i64 R.mx, .slice Br1 R.idle.length dr1, .slice Br2 R.held.length dr2, .slice Br3 R.wait.length dr3] 30)
    have x72 := x68.alloc (.cells #[.int .i64 R.mx, .slice Br1 R.idle.length dr1, .slice Br2 R.held.length dr2, .slice Br3 R.wait.length dr3] 30)
    have r73 := r69.alloc (.cells #[.int .i64 R.mx, .slice Br1 R.idle.length dr1, .slice Br2 R.held.length dr2, .slice Br3 R.wait.length dr3] 30)
    have o74 := o70.alloc (.cells #[.int .i64 R.mx, .slice Br1 R.idle.length dr1, .slice Br2 R.held.length dr2, .slice Br3 R.wait.length dr3] 30)
    clear hB67 x68 r69 o70
    have t75 : At (w1.alloc (.cells #[.int .i64 R.mx, .slice Br1 R.idle.length dr1, .slice Br2 R.held.length dr2, .slice Br3 R.wait.length dr3] 30)) (w1.heap.size) 30 #[.int .i64 R.mx, .slice Br1 R.idle.length dr1, .slice Br2 R.held.length dr2, .slice Br3 R.wait.length dr3] := At.newAt _ _ (by first | rfl | (simp; done) | (simp; omega))
    obtain ⟨p0, p1, p2, p3, pl, pf⟩ := fourS x72
    obtain ⟨q0, q1, q2, q3, ql, qf⟩ := fourS r73
    obtain ⟨t0, t1, t2, t3, tl, tf⟩ := fourS t75
    go_wp2_with fail
    obtain ⟨w2, hw2⟩ : ∃ w2, w2 = (w1.alloc (.cells #[.int .i64 R.mx, .slice Br1 R.idle.length dr1, .slice Br2 R.held.length dr2, .slice Br3 R.wait.length dr3] 30)) := ⟨_, rfl⟩
    rw [← hw2] at hB71 x72 r73 o74 t75 ⊢
    have sz2 : w1.heap.size + 1 ≤ w2.heap.size := by rw [hw2]; first | exact Nat.le_refl _ | (simp; done) | (simp; omega)
    clear hw2
    clear p0 p1 p2 p3 pl pf q0 q1 q2 q3 ql qf t0 t1 t2 t3 tl tf
    obtain ⟨y0, y1, y2, y3, _, _⟩ := fourS t75
    obtain ⟨n0, n1, n2, n3, nl, nf⟩ := fourS r73
    obtain ⟨p0, p1, p2, p3, pl, pf⟩ := fourS x72
    obtain ⟨q0, q1, q2, q3, ql, qf⟩ := fourS r73
    obtain ⟨t0, t1, t2, t3, tl, tf⟩ := fourS t75
    have ne_pq : ¬ w.heap.size = w.heap.size + 1 := by omega
    have ne_qp : ¬ w.heap.size + 1 = w.heap.size := by omega
    have ne_qt : ¬ w.heap.size + 1 = w1.heap.size := by omega
    have ne_tq : ¬ w1.heap.size = w.heap.size + 1 := by omega
    go_region_held3 (fun w' => w'.cell? ⟨w1.heap.size, 0, none⟩ = some (.int .i64 R.mx) ∧ w'.cell? ⟨w1.heap.size, 1, none⟩ = some (.slice Br1 R.idle.length dr1) ∧ w'.cell? ⟨w1.heap.size, 2, none⟩ = some (.slice Br2 R.held.length dr2) ∧ w'.cell? ⟨w1.heap.size, 3, none⟩ = some (.slice Br3 R.wait.length dr3))
      (first | with_reducible exact ⟨y0, y1, y2, y3⟩ | go_keep)
      (first
        | (go_at_call 38; (with_reducible refine (numberText_any m _ hm9).mono ?_); rintro e w' ⟨he, rfl⟩; rw [HD.out] at he; subst he; unfold tx)
        | fail)
    all_goals
      have hB76 := below_put hB71 (grown_set w2 (w.heap.size + 1) 0 (.int .i64 R.mx)) (by omega) (by have := hB71.size; omega)
      have x77 := x72.past (grown_set w2 (w.heap.size + 1) 0 (.int .i64 R.mx)) (by omega)
      have o78 := o74.past r73 (grown_set w2 (w.heap.size + 1) 0 (.int .i64 R.mx))
      have t79 := t75.past (grown_set w2 (w.heap.size + 1) 0 (.int .i64 R.mx)) (by omega)
      have r80 : At (w2.setCell ⟨w.heap.size + 1, 0, none⟩ (.int .i64 R.mx)) (w.heap.size + 1) 30 #[.int .i64 R.mx, .slice none 0 0, .slice none 0 0, .slice none 0 0] := by simpa using r73.set 0 (.int .i64 R.mx)
      clear hB71 x72 o74 t75 r73
      have hB81 := below_put hB76 (grown_set (w2.setCell ⟨w.heap.size + 1, 0, none⟩ (.int .i64 R.mx)) (w.heap.size + 1) 1 (.slice Br1 R.idle.length dr1)) (by omega) (by have := hB76.size; omega)
      have x82 := x77.past (grown_set (w2.setCell ⟨w.heap.size + 1, 0, none⟩ (.int .i64 R.mx)) (w.heap.size + 1) 1 (.slice Br1 R.idle.length dr1)) (by omega)
      have o83 := o78.past r80 (grown_set (w2.setCell ⟨w.heap.size + 1, 0, none⟩ (.int .i64 R.mx)) (w.heap.size + 1) 1 (.slice Br1 R.idle.length dr1))
      have t84 := t79.past (grown_set (w2.setCell ⟨w.heap.size + 1, 0, none⟩ (.int .i64 R.mx)) (w.heap.size + 1) 1 (.slice Br1 R.idle.length dr1)) (by omega)
      have r85 : At ((w2.setCell ⟨w.heap.size + 1, 0, none⟩ (.int .i64 R.mx)).setCell ⟨w.heap.size + 1, 1, none⟩ (.slice Br1 R.idle.length dr1)) (w.heap.size + 1) 30 #[.int .i64 R.mx, .slice Br1 R.idle.length dr1, .slice none 0 0, .slice none 0 0] := by simpa using r80.set 1 (.slice Br1 R.idle.length dr1)
      clear hB76 x77 o78 t79 r80
      have hB86 := below_put hB81 (grown_set ((w2.setCell ⟨w.heap.size + 1, 0, none⟩ (.int .i64 R.mx)).setCell ⟨w.heap.size + 1, 1, none⟩ (.slice Br1 R.idle.length dr1)) (w.heap.size + 1) 2 (.slice Br2 R.held.length dr2)) (by omega) (by have := hB81.size; omega)
      have x87 := x82.past (grown_set ((w2.setCell ⟨w.heap.size + 1, 0, none⟩ (.int .i64 R.mx)).setCell ⟨w.heap.size + 1, 1, none⟩ (.slice Br1 R.idle.length dr1)) (w.heap.size + 1) 2 (.slice Br2 R.held.length dr2)) (by omega)
      have o88 := o83.past r85 (grown_set ((w2.setCell ⟨w.heap.size + 1, 0, none⟩ (.int .i64 R.mx)).setCell ⟨w.heap.size + 1, 1, none⟩ (.slice Br1 R.idle.length dr1)) (w.heap.size + 1) 2 (.slice Br2 R.held.length dr2))
      have t89 := t84.past (grown_set ((w2.setCell ⟨w.heap.size + 1, 0, none⟩ (.int .i64 R.mx)).setCell ⟨w.heap.size + 1, 1, none⟩ (.slice Br1 R.idle.length dr1)) (w.heap.size + 1) 2 (.slice Br2 R.held.length dr2)) (by omega)
      have r90 : At (((w2.setCell ⟨w.heap.size + 1, 0, none⟩ (.int .i64 R.mx)).setCell ⟨w.heap.size + 1, 1, none⟩ (.slice Br1 R.idle.length dr1)).setCell ⟨w.heap.size + 1, 2, none⟩ (.slice Br2 R.held.length dr2)) (w.heap.size + 1) 30 #[.int .i64 R.mx, .slice Br1 R.idle.length dr1, .slice Br2 R.held.length dr2, .slice none 0 0] := by simpa using r85.set 2 (.slice Br2 R.held.length dr2)
      clear hB81 x82 o83 t84 r85
      have hB91 := below_put hB86 (grown_set (((w2.setCell ⟨w.heap.size + 1, 0, none⟩ (.int .i64 R.mx)).setCell ⟨w.heap.size + 1, 1, none⟩ (.slice Br1 R.idle.length dr1)).setCell ⟨w.heap.size + 1, 2, none⟩ (.slice Br2 R.held.length dr2)) (w.heap.size + 1) 3 (.slice Br3 R.wait.length dr3)) (by omega) (by have := hB86.size; omega)
      have x92 := x87.past (grown_set (((w2.setCell ⟨w.heap.size + 1, 0, none⟩ (.int .i64 R.mx)).setCell ⟨w.heap.size + 1, 1, none⟩ (.slice Br1 R.idle.length dr1)).setCell ⟨w.heap.size + 1, 2, none⟩ (.slice Br2 R.held.length dr2)) (w.heap.size + 1) 3 (.slice Br3 R.wait.length dr3)) (by omega)
      have o93 := o88.past r90 (grown_set (((w2.setCell ⟨w.heap.size + 1, 0, none⟩ (.int .i64 R.mx)).setCell ⟨w.heap.size + 1, 1, none⟩ (.slice Br1 R.idle.length dr1)).setCell ⟨w.heap.size + 1, 2, none⟩ (.slice Br2 R.held.length dr2)) (w.heap.size + 1) 3 (.slice Br3 R.wait.length dr3))
      have t94 := t89.past (grown_set (((w2.setCell ⟨w.heap.size + 1, 0, none⟩ (.int .i64 R.mx)).setCell ⟨w.heap.size + 1, 1, none⟩ (.slice Br1 R.idle.length dr1)).setCell ⟨w.heap.size + 1, 2, none⟩ (.slice Br2 R.held.length dr2)) (w.heap.size + 1) 3 (.slice Br3 R.wait.length dr3)) (by omega)
      have r95 : At ((((w2.setCell ⟨w.heap.size + 1, 0, none⟩ (.int .i64 R.mx)).setCell ⟨w.heap.size + 1, 1, none⟩ (.slice Br1 R.idle.length dr1)).setCell ⟨w.heap.size + 1, 2, none⟩ (.slice Br2 R.held.length dr2)).setCell ⟨w.heap.size + 1, 3, none⟩ (.slice Br3 R.wait.length dr3)) (w.heap.size + 1) 30 #[.int .i64 R.mx, .slice Br1 R.idle.length dr1, .slice Br2 R.held.length dr2, .slice Br3 R.wait.length dr3] := by simpa using r90.set 3 (.slice Br3 R.wait.length dr3)
      clear hB86 x87 o88 t89 r90
      have hB96 := hB91.drew
      have x97 := x92.drew
      have r98 := r95.drew
      have o99 := o93.drew
      have t100 := t94.drew
      clear hB91 x92 r95 o93 t94
      go_wp2
      refine bodyPost_ret (v := .tuple #[.agg #[.int .i64 R.mx, .slice Br1 R.idle.length dr1, .slice Br2 R.held.length dr2, .slice Br3 R.wait.length dr3], .string (ByteArray.mk D.toArray)]) (by simp [results, Try.results90, go_sem, r98.cell]) rfl ?_
      rw [ER.out]
      exact ⟨_, _, _, _, _, _, rfl, PolF.of_own (o99) (fun b hb => Nat.lt_of_lt_of_le (hF b hb) (by omega)), hB96⟩

set_option maxHeartbeats 8000000 in
set_option maxRecDepth 16384 in
theorem runRelease_any (p : Pl) (A1 A2 A3 : Option Addr) (c1 c2 c3 : Nat) (o : Int) (F : Nat → Prop) (w : World) (hP : PolF w F A1 A2 A3 c1 c2 c3 p) (hF : ∀ b, F b → b < w.heap.size) (hok : Ok p) :
    Calls Try.prog 91 #[.agg #[.int .i64 p.mx, .slice A1 p.idle.length c1, .slice A2 p.held.length c2, .slice A3 p.wait.length c3], .int .i64 o] w (StepAns F (rRel p o) w) := by
  have h := hP.sees
  obtain ⟨k1, k2, k3⟩ := hP.2
  obtain ⟨L1, L2, L3⟩ := ok_2 hok
  obtain ⟨R, hR⟩ : ∃ R, R = relR p o := ⟨_, rfl⟩
  have HR := hid hR.symm
  rcases hb : relB p o with _ | _
  · skip
    have ER : Hid (rRel p o = (p, tNo)) := hid (by unfold rRel; rw [hb]; rfl)
    have HN := hid (rel_no hb).1
    have HK := hid hb
    clear hb hR hok
    have hB101 := Below.refl w.heap.size w
    have hB102 := hB101.alloc hB101.size (.cells #[.int .i64 p.mx, .slice A1 p.idle.length c1, .slice A2 p.held.length c2, .slice A3 p.wait.length c3] 30)
    clear hB101
    have x103 : At (w.alloc (.cells #[.int .i64 p.mx, .slice A1 p.idle.length c1, .slice A2 p.held.length c2, .slice A3 p.wait.length c3] 30)) (w.heap.size) 30 #[.int .i64 p.mx, .slice A1 p.idle.length c1, .slice A2 p.held.length c2, .slice A3 p.wait.length c3] := At.newAt _ _ (by first | rfl | (simp; done) | (simp; omega))
    have hB104 := hB102.alloc hB102.size (.cells #[.int .i64 0, .slice none 0 0, .slice none 0 0, .slice none 0 0] 30)
    have x105 := x103.alloc (.cells #[.int .i64 0, .slice none 0 0, .slice none 0 0, .slice none 0 0] 30)
    clear hB102 x103
    have r106 : At ((w.alloc (.cells #[.int .i64 p.mx, .slice A1 p.idle.length c1, .slice A2 p.held.length c2, .slice A3 p.wait.length c3] 30)).alloc (.cells #[.int .i64 0, .slice none 0 0, .slice none 0 0, .slice none 0 0] 30)) (w.heap.size + 1) 30 #[.int .i64 0, .slice none 0 0, .slice none 0 0, .slice none 0 0] := At.newAt _ _ (by first | rfl | (simp; done) | (simp; omega))
    go_enter Try.func91, Try.ntmps91
    obtain ⟨p0, p1, p2, p3, pl, pf⟩ := fourS x105
    obtain ⟨q0, q1, q2, q3, ql, qf⟩ := fourS r106
    go_wp2_with fail
    with_reducible refine (iReleaseConn_any p A1 A2 A3 c1 c2 c3 o _ (h.on hB104) k3 L1.out L2.out L3.out).mono ?_
    rintro e w1 ⟨Br1, Br2, Br3, dr1, dr2, dr3, he, ho, hb1⟩
    rw [HR.out, HN.out, HK.out] at he
    rw [HR.out] at ho
    subst he
    have sz1 : w.heap.size + 2 ≤ w1.heap.size := Nat.le_trans (by first | exact Nat.le_refl _ | (simp; done) | (simp; omega)) (hb1.size)
    have hB107 := hB104.trans (hb1.mono hB104.size)
    have x108 := x105.below hb1 x105.lt
    have r109 := r106.below hb1 r106.lt
    clear hB104 x105 r106
    clear p0 p1 p2 p3 pl pf q0 q1 q2 q3 ql qf
    have o110 := ho.mono (show w.heap.size + 2 ≤ _ by first | omega | (simp; done) | (simp; omega))
    clear ho
    obtain ⟨p0, p1, p2, p3, pl, pf⟩ := fourS x108
    obtain ⟨q0, q1, q2, q3, ql, qf⟩ := fourS r109
    have ne_pq : ¬ w.heap.size = w.heap.size + 1 := by omega
    have ne_qp : ¬ w.heap.size + 1 = w.heap.size := by omega
    have hB111 := below_put hB107 (grown_set w1 (w.heap.size + 1) 0 (.int .i64 p.mx)) (by omega) (by have := hB107.size; omega)
    have x112 := x108.past (grown_set w1 (w.heap.size + 1) 0 (.int .i64 p.mx)) (by omega)
    have o113 := o110.past r109 (grown_set w1 (w.heap.size + 1) 0 (.int .i64 p.mx))
    have r114 : At (w1.setCell ⟨w.heap.size + 1, 0, none⟩ (.int .i64 p.mx)) (w.heap.size + 1) 30 #[.int .i64 p.mx, .slice none 0 0, .slice none 0 0, .slice none 0 0] := by simpa using r109.set 0 (.int .i64 p.mx)
    clear hB107 x108 o110 r109
    have hB115 := below_put hB111 (grown_set (w1.setCell ⟨w.heap.size + 1, 0, none⟩ (.int .i64 p.mx)) (w.heap.size + 1) 1 (.slice A1 p.idle.length c1)) (by omega) (by have := hB111.size; omega)
    have x116 := x112.past (grown_set (w1.setCell ⟨w.heap.size + 1, 0, none⟩ (.int .i64 p.mx)) (w.heap.size + 1) 1 (.slice A1 p.idle.length c1)) (by omega)
    have o117 := o113.past r114 (grown_set (w1.setCell ⟨w.heap.size + 1, 0, none⟩ (.int .i64 p.mx)) (w.heap.size + 1) 1 (.slice A1 p.idle.length c1))
    have r118 : At ((w1.setCell ⟨w.heap.size + 1, 0, none⟩ (.int .i64 p.mx)).setCell ⟨w.heap.size + 1, 1, none⟩ (.slice A1 p.idle.length c1)) (w.heap.size + 1) 30 #[.int .i64 p.mx, .slice A1 p.idle.length c1, .slice none 0 0, .slice none 0 0] := by simpa using r114.set 1 (.slice A1 p.idle.length c1)
    clear hB111 x112 o113 r114
    have hB119 := below_put hB115 (grown_set ((w1.setCell ⟨w.heap.size + 1, 0, none⟩ (.int .i64 p.mx)).setCell ⟨w.heap.size + 1, 1, none⟩ (.slice A1 p.idle.length c1)) (w.heap.size + 1) 2 (.slice A2 p.held.length c2)) (by omega) (by have := hB115.size; omega)
    have x120 := x116.past (grown_set ((w1.setCell ⟨w.heap.size + 1, 0, none⟩ (.int .i64 p.mx)).setCell ⟨w.heap.size + 1, 1, none⟩ (.slice A1 p.idle.length c1)) (w.heap.size + 1) 2 (.slice A2 p.held.length c2)) (by omega)
    have o121 := o117.past r118 (grown_set ((w1.setCell ⟨w.heap.size + 1, 0, none⟩ (.int .i64 p.mx)).setCell ⟨w.heap.size + 1, 1, none⟩ (.slice A1 p.idle.length c1)) (w.heap.size + 1) 2 (.slice A2 p.held.length c2))
    have r122 : At (((w1.setCell ⟨w.heap.size + 1, 0, none⟩ (.int .i64 p.mx)).setCell ⟨w.heap.size + 1, 1, none⟩ (.slice A1 p.idle.length c1)).setCell ⟨w.heap.size + 1, 2, none⟩ (.slice A2 p.held.length c2)) (w.heap.size + 1) 30 #[.int .i64 p.mx, .slice A1 p.idle.length c1, .slice A2 p.held.length c2, .slice none 0 0] := by simpa using r118.set 2 (.slice A2 p.held.length c2)
    clear hB115 x116 o117 r118
    have hB123 := below_put hB119 (grown_set (((w1.setCell ⟨w.heap.size + 1, 0, none⟩ (.int .i64 p.mx)).setCell ⟨w.heap.size + 1, 1, none⟩ (.slice A1 p.idle.length c1)).setCell ⟨w.heap.size + 1, 2, none⟩ (.slice A2 p.held.length c2)) (w.heap.size + 1) 3 (.slice A3 p.wait.length c3)) (by omega) (by have := hB119.size; omega)
    have x124 := x120.past (grown_set (((w1.setCell ⟨w.heap.size + 1, 0, none⟩ (.int .i64 p.mx)).setCell ⟨w.heap.size + 1, 1, none⟩ (.slice A1 p.idle.length c1)).setCell ⟨w.heap.size + 1, 2, none⟩ (.slice A2 p.held.length c2)) (w.heap.size + 1) 3 (.slice A3 p.wait.length c3)) (by omega)
    have o125 := o121.past r122 (grown_set (((w1.setCell ⟨w.heap.size + 1, 0, none⟩ (.int .i64 p.mx)).setCell ⟨w.heap.size + 1, 1, none⟩ (.slice A1 p.idle.length c1)).setCell ⟨w.heap.size + 1, 2, none⟩ (.slice A2 p.held.length c2)) (w.heap.size + 1) 3 (.slice A3 p.wait.length c3))
    have r126 : At ((((w1.setCell ⟨w.heap.size + 1, 0, none⟩ (.int .i64 p.mx)).setCell ⟨w.heap.size + 1, 1, none⟩ (.slice A1 p.idle.length c1)).setCell ⟨w.heap.size + 1, 2, none⟩ (.slice A2 p.held.length c2)).setCell ⟨w.heap.size + 1, 3, none⟩ (.slice A3 p.wait.length c3)) (w.heap.size + 1) 30 #[.int .i64 p.mx, .slice A1 p.idle.length c1, .slice A2 p.held.length c2, .slice A3 p.wait.length c3] := by simpa using r122.set 3 (.slice A3 p.wait.length c3)
    clear hB119 x120 o121 r122
    have hB127 := hB123.alloc hB123.size (.cells #[.int .i64 R.mx, .slice Br1 R.idle.length dr1, .slice Br2 R.held.length dr2, .slice Br3 R.wait.length dr3] 30)
    have x128 := x124.alloc (.cells #[.int .i64 R.mx, .slice Br1 R.idle.length dr1, .slice Br2 R.held.length dr2, .slice Br3 R.wait.length dr3] 30)
    have r129 := r126.alloc (.cells #[.int .i64 R.mx, .slice Br1 R.idle.length dr1, .slice Br2 R.held.length dr2, .slice Br3 R.wait.length dr3] 30)
    have o130 := o125.alloc (.cells #[.int .i64 R.mx, .slice Br1 R.idle.length dr1, .slice Br2 R.held.length dr2, .slice Br3 R.wait.length dr3] 30)
    clear hB123 x124 r126 o125
    go_wp2
    refine bodyPost_ret (v := .tuple #[.agg #[.int .i64 p.mx, .slice A1 p.idle.length c1, .slice A2 p.held.length c2, .slice A3 p.wait.length c3], .string (ByteArray.mk #[110, 111])]) (by simp [results, Try.results91, go_sem, r129.cell]) rfl ?_
    rw [ER.out]
    exact ⟨_, _, _, _, _, _, rfl, hP.below hB127, hB127⟩
  rcases rel_range hb with hn | ⟨hn0, hn9⟩
  · skip
    have ER : Hid (rRel p o = (R, tIdle)) := hid (by unfold rRel; rw [if_pos hb, if_pos hn, hR])
    have HN := hid hn
    have HK := hid hb
    clear hb hR hok hn
    have hB131 := Below.refl w.heap.size w
    have hB132 := hB131.alloc hB131.size (.cells #[.int .i64 p.mx, .slice A1 p.idle.length c1, .slice A2 p.held.length c2, .slice A3 p.wait.length c3] 30)
    clear hB131
    have x133 : At (w.alloc (.cells #[.int .i64 p.mx, .slice A1 p.idle.length c1, .slice A2 p.held.length c2, .slice A3 p.wait.length c3] 30)) (w.heap.size) 30 #[.int .i64 p.mx, .slice A1 p.idle.length c1, .slice A2 p.held.length c2, .slice A3 p.wait.length c3] := At.newAt _ _ (by first | rfl | (simp; done) | (simp; omega))
    have hB134 := hB132.alloc hB132.size (.cells #[.int .i64 0, .slice none 0 0, .slice none 0 0, .slice none 0 0] 30)
    have x135 := x133.alloc (.cells #[.int .i64 0, .slice none 0 0, .slice none 0 0, .slice none 0 0] 30)
    clear hB132 x133
    have r136 : At ((w.alloc (.cells #[.int .i64 p.mx, .slice A1 p.idle.length c1, .slice A2 p.held.length c2, .slice A3 p.wait.length c3] 30)).alloc (.cells #[.int .i64 0, .slice none 0 0, .slice none 0 0, .slice none 0 0] 30)) (w.heap.size + 1) 30 #[.int .i64 0, .slice none 0 0, .slice none 0 0, .slice none 0 0] := At.newAt _ _ (by first | rfl | (simp; done) | (simp; omega))
    go_enter Try.func91, Try.ntmps91
    obtain ⟨p0, p1, p2, p3, pl, pf⟩ := fourS x135
    obtain ⟨q0, q1, q2, q3, ql, qf⟩ := fourS r136
    go_wp2_with fail
    with_reducible refine (iReleaseConn_any p A1 A2 A3 c1 c2 c3 o _ (h.on hB134) k3 L1.out L2.out L3.out).mono ?_
    rintro e w1 ⟨Br1, Br2, Br3, dr1, dr2, dr3, he, ho, hb1⟩
    rw [HR.out, HN.out, HK.out] at he
    rw [HR.out] at ho
    subst he
    have sz1 : w.heap.size + 2 ≤ w1.heap.size := Nat.le_trans (by first | exact Nat.le_refl _ | (simp; done) | (simp; omega)) (hb1.size)
    have hB137 := hB134.trans (hb1.mono hB134.size)
    have x138 := x135.below hb1 x135.lt
    have r139 := r136.below hb1 r136.lt
    clear hB134 x135 r136
    clear p0 p1 p2 p3 pl pf q0 q1 q2 q3 ql qf
    have o140 := ho.mono (show w.heap.size + 2 ≤ _ by first | omega | (simp; done) | (simp; omega))
    clear ho
    obtain ⟨p0, p1, p2, p3, pl, pf⟩ := fourS x138
    obtain ⟨q0, q1, q2, q3, ql, qf⟩ := fourS r139
    have ne_pq : ¬ w.heap.size = w.heap.size + 1 := by omega
    have ne_qp : ¬ w.heap.size + 1 = w.heap.size := by omega
    have hB141 := below_put hB137 (grown_set w1 (w.heap.size + 1) 0 (.int .i64 R.mx)) (by omega) (by have := hB137.size; omega)
    have x142 := x138.past (grown_set w1 (w.heap.size + 1) 0 (.int .i64 R.mx)) (by omega)
    have o143 := o140.past r139 (grown_set w1 (w.heap.size + 1) 0 (.int .i64 R.mx))
    have r144 : At (w1.setCell ⟨w.heap.size + 1, 0, none⟩ (.int .i64 R.mx)) (w.heap.size + 1) 30 #[.int .i64 R.mx, .slice none 0 0, .slice none 0 0, .slice none 0 0] := by simpa using r139.set 0 (.int .i64 R.mx)
    clear hB137 x138 o140 r139
    have hB145 := below_put hB141 (grown_set (w1.setCell ⟨w.heap.size + 1, 0, none⟩ (.int .i64 R.mx)) (w.heap.size + 1) 1 (.slice Br1 R.idle.length dr1)) (by omega) (by have := hB141.size; omega)
    have x146 := x142.past (grown_set (w1.setCell ⟨w.heap.size + 1, 0, none⟩ (.int .i64 R.mx)) (w.heap.size + 1) 1 (.slice Br1 R.idle.length dr1)) (by omega)
    have o147 := o143.past r144 (grown_set (w1.setCell ⟨w.heap.size + 1, 0, none⟩ (.int .i64 R.mx)) (w.heap.size + 1) 1 (.slice Br1 R.idle.length dr1))
    have r148 : At ((w1.setCell ⟨w.heap.size + 1, 0, none⟩ (.int .i64 R.mx)).setCell ⟨w.heap.size + 1, 1, none⟩ (.slice Br1 R.idle.length dr1)) (w.heap.size + 1) 30 #[.int .i64 R.mx, .slice Br1 R.idle.length dr1, .slice none 0 0, .slice none 0 0] := by simpa using r144.set 1 (.slice Br1 R.idle.length dr1)
    clear hB141 x142 o143 r144
    have hB149 := below_put hB145 (grown_set ((w1.setCell ⟨w.heap.size + 1, 0, none⟩ (.int .i64 R.mx)).setCell ⟨w.heap.size + 1, 1, none⟩ (.slice Br1 R.idle.length dr1)) (w.heap.size + 1) 2 (.slice Br2 R.held.length dr2)) (by omega) (by have := hB145.size; omega)
    have x150 := x146.past (grown_set ((w1.setCell ⟨w.heap.size + 1, 0, none⟩ (.int .i64 R.mx)).setCell ⟨w.heap.size + 1, 1, none⟩ (.slice Br1 R.idle.length dr1)) (w.heap.size + 1) 2 (.slice Br2 R.held.length dr2)) (by omega)
    have o151 := o147.past r148 (grown_set ((w1.setCell ⟨w.heap.size + 1, 0, none⟩ (.int .i64 R.mx)).setCell ⟨w.heap.size + 1, 1, none⟩ (.slice Br1 R.idle.length dr1)) (w.heap.size + 1) 2 (.slice Br2 R.held.length dr2))
    have r152 : At (((w1.setCell ⟨w.heap.size + 1, 0, none⟩ (.int .i64 R.mx)).setCell ⟨w.heap.size + 1, 1, none⟩ (.slice Br1 R.idle.length dr1)).setCell ⟨w.heap.size + 1, 2, none⟩ (.slice Br2 R.held.length dr2)) (w.heap.size + 1) 30 #[.int .i64 R.mx, .slice Br1 R.idle.length dr1, .slice Br2 R.held.length dr2, .slice none 0 0] := by simpa using r148.set 2 (.slice Br2 R.held.length dr2)
    clear hB145 x146 o147 r148
    have hB153 := below_put hB149 (grown_set (((w1.setCell ⟨w.heap.size + 1, 0, none⟩ (.int .i64 R.mx)).setCell ⟨w.heap.size + 1, 1, none⟩ (.slice Br1 R.idle.length dr1)).setCell ⟨w.heap.size + 1, 2, none⟩ (.slice Br2 R.held.length dr2)) (w.heap.size + 1) 3 (.slice Br3 R.wait.length dr3)) (by omega) (by have := hB149.size; omega)
    have x154 := x150.past (grown_set (((w1.setCell ⟨w.heap.size + 1, 0, none⟩ (.int .i64 R.mx)).setCell ⟨w.heap.size + 1, 1, none⟩ (.slice Br1 R.idle.length dr1)).setCell ⟨w.heap.size + 1, 2, none⟩ (.slice Br2 R.held.length dr2)) (w.heap.size + 1) 3 (.slice Br3 R.wait.length dr3)) (by omega)
    have o155 := o151.past r152 (grown_set (((w1.setCell ⟨w.heap.size + 1, 0, none⟩ (.int .i64 R.mx)).setCell ⟨w.heap.size + 1, 1, none⟩ (.slice Br1 R.idle.length dr1)).setCell ⟨w.heap.size + 1, 2, none⟩ (.slice Br2 R.held.length dr2)) (w.heap.size + 1) 3 (.slice Br3 R.wait.length dr3))
    have r156 : At ((((w1.setCell ⟨w.heap.size + 1, 0, none⟩ (.int .i64 R.mx)).setCell ⟨w.heap.size + 1, 1, none⟩ (.slice Br1 R.idle.length dr1)).setCell ⟨w.heap.size + 1, 2, none⟩ (.slice Br2 R.held.length dr2)).setCell ⟨w.heap.size + 1, 3, none⟩ (.slice Br3 R.wait.length dr3)) (w.heap.size + 1) 30 #[.int .i64 R.mx, .slice Br1 R.idle.length dr1, .slice Br2 R.held.length dr2, .slice Br3 R.wait.length dr3] := by simpa using r152.set 3 (.slice Br3 R.wait.length dr3)
    clear hB149 x150 o151 r152
    have hB157 := hB153.alloc hB153.size (.cells #[.int .i64 R.mx, .slice Br1 R.idle.length dr1, .slice Br2 R.held.length dr2, .slice Br3 R.wait.length dr3] 30)
    have x158 := x154.alloc (.cells #[.int .i64 R.mx, .slice Br1 R.idle.length dr1, .slice Br2 R.held.length dr2, .slice Br3 R.wait.length dr3] 30)
    have r159 := r156.alloc (.cells #[.int .i64 R.mx, .slice Br1 R.idle.length dr1, .slice Br2 R.held.length dr2, .slice Br3 R.wait.length dr3] 30)
    have o160 := o155.alloc (.cells #[.int .i64 R.mx, .slice Br1 R.idle.length dr1, .slice Br2 R.held.length dr2, .slice Br3 R.wait.length dr3] 30)
    clear hB153 x154 r156 o155
    go_wp2
    refine bodyPost_ret (v := .tuple #[.agg #[.int .i64 R.mx, .slice Br1 R.idle.length dr1, .slice Br2 R.held.length dr2, .slice Br3 R.wait.length dr3], .string (ByteArray.mk #[105, 100, 108, 101])]) (by simp [results, Try.results91, go_sem, r159.cell]) rfl ?_
    rw [ER.out]
    exact ⟨_, _, _, _, _, _, rfl, PolF.of_own (o160) (fun b hb => Nat.lt_of_lt_of_le (hF b hb) (by omega)), hB157⟩
  · skip
    obtain ⟨m, hm, hm9, hml⟩ := text_at (relN p o) hn0 hn9
    have ER : Hid (rRel p o = (R, tTo ++ dec m)) := hid (by unfold rRel; rw [if_pos hb, if_neg (by omega), hR, hm, Int.toNat_natCast])
    have HN := hid hm
    have HK := hid hb
    have hmn : ((m : Int) == -1) = false := by simp only [beq_eq_false_iff_ne, ne_eq]; omega
    clear hb hR hok hn0 hn9 hm
    obtain ⟨D, hD⟩ : ∃ D, D = dec m := ⟨_, rfl⟩
    rw [← hD] at ER hml
    have HD := hid hD.symm
    clear hD
    have hs1 : ¬ 3 + D.length > 9223372036854775807 := by omega
    have hB161 := Below.refl w.heap.size w
    have hB162 := hB161.alloc hB161.size (.cells #[.int .i64 p.mx, .slice A1 p.idle.length c1, .slice A2 p.held.length c2, .slice A3 p.wait.length c3] 30)
    clear hB161
    have x163 : At (w.alloc (.cells #[.int .i64 p.mx, .slice A1 p.idle.length c1, .slice A2 p.held.length c2, .slice A3 p.wait.length c3] 30)) (w.heap.size) 30 #[.int .i64 p.mx, .slice A1 p.idle.length c1, .slice A2 p.held.length c2, .slice A3 p.wait.length c3] := At.newAt _ _ (by first | rfl | (simp; done) | (simp; omega))
    have hB164 := hB162.alloc hB162.size (.cells #[.int .i64 0, .slice none 0 0, .slice none 0 0, .slice none 0 0] 30)
    have x165 := x163.alloc (.cells #[.int .i64 0, .slice none 0 0, .slice none 0 0, .slice none 0 0] 30)
    clear hB162 x163
    have r166 : At ((w.alloc (.cells #[.int .i64 p.mx, .slice A1 p.idle.length c1, .slice A2 p.held.length c2, .slice A3 p.wait.length c3] 30)).alloc (.cells #[.int .i64 0, .slice none 0 0, .slice none 0 0, .slice none 0 0] 30)) (w.heap.size + 1) 30 #[.int .i64 0, .slice none 0 0, .slice none 0 0, .slice none 0 0] := At.newAt _ _ (by first | rfl | (simp; done) | (simp; omega))
    go_enter Try.func91, Try.ntmps91
    obtain ⟨p0, p1, p2, p3, pl, pf⟩ := fourS x165
    obtain ⟨q0, q1, q2, q3, ql, qf⟩ := fourS r166
    go_wp2_with fail
    with_reducible refine (iReleaseConn_any p A1 A2 A3 c1 c2 c3 o _ (h.on hB164) k3 L1.out L2.out L3.out).mono ?_
    rintro e w1 ⟨Br1, Br2, Br3, dr1, dr2, dr3, he, ho, hb1⟩
    rw [HR.out, HN.out, HK.out] at he
    rw [HR.out] at ho
    subst he
    have sz1 : w.heap.size + 2 ≤ w1.heap.size := Nat.le_trans (by first | exact Nat.le_refl _ | (simp; done) | (simp; omega)) (hb1.size)
    have hB167 := hB164.trans (hb1.mono hB164.size)
    have x168 := x165.below hb1 x165.lt
    have r169 := r166.below hb1 r166.lt
    clear hB164 x165 r166
    clear p0 p1 p2 p3 pl pf q0 q1 q2 q3 ql qf
    have o170 := ho.mono (show w.heap.size + 2 ≤ _ by first | omega | (simp; done) | (simp; omega))
    clear ho
    obtain ⟨p0, p1, p2, p3, pl, pf⟩ := fourS x168
    obtain ⟨q0, q1, q2, q3, ql, qf⟩ := fourS r169
    have hB171 := hB167.alloc hB167.size (.cells #[.int .i64 R.mx, .slice Br1 R.idle.length dr1, .slice Br2 R.held.length dr2, .slice Br3 R.wait.length dr3] 30)
    have x172 := x168.alloc (.cells #[.int .i64 R.mx, .slice Br1 R.idle.length dr1, .slice Br2 R.held.length dr2, .slice Br3 R.wait.length dr3] 30)
    have r173 := r169.alloc (.cells #[.int .i64 R.mx, .slice Br1 R.idle.length dr1, .slice Br2 R.held.length dr2, .slice Br3 R.wait.length dr3] 30)
    have o174 := o170.alloc (.cells #[.int .i64 R.mx, .slice Br1 R.idle.length dr1, .slice Br2 R.held.length dr2, .slice Br3 R.wait.length dr3] 30)
    clear hB167 x168 r169 o170
    have t175 : At (w1.alloc (.cells #[.int .i64 R.mx, .slice Br1 R.idle.length dr1, .slice Br2 R.held.length dr2, .slice Br3 R.wait.length dr3] 30)) (w1.heap.size) 30 #[.int .i64 R.mx, .slice Br1 R.idle.length dr1, .slice Br2 R.held.length dr2, .slice Br3 R.wait.length dr3] := At.newAt _ _ (by first | rfl | (simp; done) | (simp; omega))
    obtain ⟨p0, p1, p2, p3, pl, pf⟩ := fourS x172
    obtain ⟨q0, q1, q2, q3, ql, qf⟩ := fourS r173
    obtain ⟨t0, t1, t2, t3, tl, tf⟩ := fourS t175
    go_wp2_with fail
    obtain ⟨w2, hw2⟩ : ∃ w2, w2 = (w1.alloc (.cells #[.int .i64 R.mx, .slice Br1 R.idle.length dr1, .slice Br2 R.held.length dr2, .slice Br3 R.wait.length dr3] 30)) := ⟨_, rfl⟩
    rw [← hw2] at hB171 x172 r173 o174 t175 ⊢
    have sz2 : w1.heap.size + 1 ≤ w2.heap.size := by rw [hw2]; first | exact Nat.le_refl _ | (simp; done) | (simp; omega)
    clear hw2
    clear p0 p1 p2 p3 pl pf q0 q1 q2 q3 ql qf t0 t1 t2 t3 tl tf
    obtain ⟨y0, y1, y2, y3, _, _⟩ := fourS t175
    obtain ⟨n0, n1, n2, n3, nl, nf⟩ := fourS r173
    obtain ⟨p0, p1, p2, p3, pl, pf⟩ := fourS x172
    obtain ⟨q0, q1, q2, q3, ql, qf⟩ := fourS r173
    obtain ⟨t0, t1, t2, t3, tl, tf⟩ := fourS t175
    have ne_pq : ¬ w.heap.size = w.heap.size + 1 := by omega
    have ne_qp : ¬ w.heap.size + 1 = w.heap.size := by omega
    have ne_qt : ¬ w.heap.size + 1 = w1.heap.size := by omega
    have ne_tq : ¬ w1.heap.size = w.heap.size + 1 := by omega
    go_region_held3 (fun w' => w'.cell? ⟨w1.heap.size, 0, none⟩ = some (.int .i64 R.mx) ∧ w'.cell? ⟨w1.heap.size, 1, none⟩ = some (.slice Br1 R.idle.length dr1) ∧ w'.cell? ⟨w1.heap.size, 2, none⟩ = some (.slice Br2 R.held.length dr2) ∧ w'.cell? ⟨w1.heap.size, 3, none⟩ = some (.slice Br3 R.wait.length dr3))
      (first | with_reducible exact ⟨y0, y1, y2, y3⟩ | go_keep)
      (first
        | (go_at_call 38; (with_reducible refine (numberText_any m _ hm9).mono ?_); rintro e w' ⟨he, rfl⟩; rw [HD.out] at he; subst he; unfold tx)
        | fail)
    all_goals
      have hB176 := below_put hB171 (grown_set w2 (w.heap.size + 1) 0 (.int .i64 R.mx)) (by omega) (by have := hB171.size; omega)
      have x177 := x172.past (grown_set w2 (w.heap.size + 1) 0 (.int .i64 R.mx)) (by omega)
      have o178 := o174.past r173 (grown_set w2 (w.heap.size + 1) 0 (.int .i64 R.mx))
      have t179 := t175.past (grown_set w2 (w.heap.size + 1) 0 (.int .i64 R.mx)) (by omega)
      have r180 : At (w2.setCell ⟨w.heap.size + 1, 0, none⟩ (.int .i64 R.mx)) (w.heap.size + 1) 30 #[.int .i64 R.mx, .slice none 0 0, .slice none 0 0, .slice none 0 0] := by simpa using r173.set 0 (.int .i64 R.mx)
      clear hB171 x172 o174 t175 r173
      have hB181 := below_put hB176 (grown_set (w2.setCell ⟨w.heap.size + 1, 0, none⟩ (.int .i64 R.mx)) (w.heap.size + 1) 1 (.slice Br1 R.idle.length dr1)) (by omega) (by have := hB176.size; omega)
      have x182 := x177.past (grown_set (w2.setCell ⟨w.heap.size + 1, 0, none⟩ (.int .i64 R.mx)) (w.heap.size + 1) 1 (.slice Br1 R.idle.length dr1)) (by omega)
      have o183 := o178.past r180 (grown_set (w2.setCell ⟨w.heap.size + 1, 0, none⟩ (.int .i64 R.mx)) (w.heap.size + 1) 1 (.slice Br1 R.idle.length dr1))
      have t184 := t179.past (grown_set (w2.setCell ⟨w.heap.size + 1, 0, none⟩ (.int .i64 R.mx)) (w.heap.size + 1) 1 (.slice Br1 R.idle.length dr1)) (by omega)
      have r185 : At ((w2.setCell ⟨w.heap.size + 1, 0, none⟩ (.int .i64 R.mx)).setCell ⟨w.heap.size + 1, 1, none⟩ (.slice Br1 R.idle.length dr1)) (w.heap.size + 1) 30 #[.int .i64 R.mx, .slice Br1 R.idle.length dr1, .slice none 0 0, .slice none 0 0] := by simpa using r180.set 1 (.slice Br1 R.idle.length dr1)
      clear hB176 x177 o178 t179 r180
      have hB186 := below_put hB181 (grown_set ((w2.setCell ⟨w.heap.size + 1, 0, none⟩ (.int .i64 R.mx)).setCell ⟨w.heap.size + 1, 1, none⟩ (.slice Br1 R.idle.length dr1)) (w.heap.size + 1) 2 (.slice Br2 R.held.length dr2)) (by omega) (by have := hB181.size; omega)
      have x187 := x182.past (grown_set ((w2.setCell ⟨w.heap.size + 1, 0, none⟩ (.int .i64 R.mx)).setCell ⟨w.heap.size + 1, 1, none⟩ (.slice Br1 R.idle.length dr1)) (w.heap.size + 1) 2 (.slice Br2 R.held.length dr2)) (by omega)
      have o188 := o183.past r185 (grown_set ((w2.setCell ⟨w.heap.size + 1, 0, none⟩ (.int .i64 R.mx)).setCell ⟨w.heap.size + 1, 1, none⟩ (.slice Br1 R.idle.length dr1)) (w.heap.size + 1) 2 (.slice Br2 R.held.length dr2))
      have t189 := t184.past (grown_set ((w2.setCell ⟨w.heap.size + 1, 0, none⟩ (.int .i64 R.mx)).setCell ⟨w.heap.size + 1, 1, none⟩ (.slice Br1 R.idle.length dr1)) (w.heap.size + 1) 2 (.slice Br2 R.held.length dr2)) (by omega)
      have r190 : At (((w2.setCell ⟨w.heap.size + 1, 0, none⟩ (.int .i64 R.mx)).setCell ⟨w.heap.size + 1, 1, none⟩ (.slice Br1 R.idle.length dr1)).setCell ⟨w.heap.size + 1, 2, none⟩ (.slice Br2 R.held.length dr2)) (w.heap.size + 1) 30 #[.int .i64 R.mx, .slice Br1 R.idle.length dr1, .slice Br2 R.held.length dr2, .slice none 0 0] := by simpa using r185.set 2 (.slice Br2 R.held.length dr2)
      clear hB181 x182 o183 t184 r185
      have hB191 := below_put hB186 (grown_set (((w2.setCell ⟨w.heap.size + 1, 0, none⟩ (.int .i64 R.mx)).setCell ⟨w.heap.size + 1, 1, none⟩ (.slice Br1 R.idle.length dr1)).setCell ⟨w.heap.size + 1, 2, none⟩ (.slice Br2 R.held.length dr2)) (w.heap.size + 1) 3 (.slice Br3 R.wait.length dr3)) (by omega) (by have := hB186.size; omega)
      have x192 := x187.past (grown_set (((w2.setCell ⟨w.heap.size + 1, 0, none⟩ (.int .i64 R.mx)).setCell ⟨w.heap.size + 1, 1, none⟩ (.slice Br1 R.idle.length dr1)).setCell ⟨w.heap.size + 1, 2, none⟩ (.slice Br2 R.held.length dr2)) (w.heap.size + 1) 3 (.slice Br3 R.wait.length dr3)) (by omega)
      have o193 := o188.past r190 (grown_set (((w2.setCell ⟨w.heap.size + 1, 0, none⟩ (.int .i64 R.mx)).setCell ⟨w.heap.size + 1, 1, none⟩ (.slice Br1 R.idle.length dr1)).setCell ⟨w.heap.size + 1, 2, none⟩ (.slice Br2 R.held.length dr2)) (w.heap.size + 1) 3 (.slice Br3 R.wait.length dr3))
      have t194 := t189.past (grown_set (((w2.setCell ⟨w.heap.size + 1, 0, none⟩ (.int .i64 R.mx)).setCell ⟨w.heap.size + 1, 1, none⟩ (.slice Br1 R.idle.length dr1)).setCell ⟨w.heap.size + 1, 2, none⟩ (.slice Br2 R.held.length dr2)) (w.heap.size + 1) 3 (.slice Br3 R.wait.length dr3)) (by omega)
      have r195 : At ((((w2.setCell ⟨w.heap.size + 1, 0, none⟩ (.int .i64 R.mx)).setCell ⟨w.heap.size + 1, 1, none⟩ (.slice Br1 R.idle.length dr1)).setCell ⟨w.heap.size + 1, 2, none⟩ (.slice Br2 R.held.length dr2)).setCell ⟨w.heap.size + 1, 3, none⟩ (.slice Br3 R.wait.length dr3)) (w.heap.size + 1) 30 #[.int .i64 R.mx, .slice Br1 R.idle.length dr1, .slice Br2 R.held.length dr2, .slice Br3 R.wait.length dr3] := by simpa using r190.set 3 (.slice Br3 R.wait.length dr3)
      clear hB186 x187 o188 t189 r190
      have hB196 := hB191.drew
      have x197 := x192.drew
      have r198 := r195.drew
      have o199 := o193.drew
      have t200 := t194.drew
      clear hB191 x192 r195 o193 t194
      go_wp2
      refine bodyPost_ret (v := .tuple #[.agg #[.int .i64 R.mx, .slice Br1 R.idle.length dr1, .slice Br2 R.held.length dr2, .slice Br3 R.wait.length dr3], .string (ByteArray.mk #[116, 111, 32] ++ ByteArray.mk D.toArray)]) (by simp [results, Try.results91, go_sem, r198.cell]) rfl ?_
      rw [ER.out]
      exact ⟨_, _, _, _, _, _, by unfold tx; rw [← ByteArray.mk_append_mk]; rfl, PolF.of_own (o199) (fun b hb => Nat.lt_of_lt_of_le (hF b hb) (by omega)), hB196⟩

set_option maxHeartbeats 8000000 in
set_option maxRecDepth 16384 in
theorem runClose_any (p : Pl) (A1 A2 A3 : Option Addr) (c1 c2 c3 : Nat) (o : Int) (F : Nat → Prop) (w : World) (hP : PolF w F A1 A2 A3 c1 c2 c3 p) (hF : ∀ b, F b → b < w.heap.size) (hok : Ok p) :
    Calls Try.prog 92 #[.agg #[.int .i64 p.mx, .slice A1 p.idle.length c1, .slice A2 p.held.length c2, .slice A3 p.wait.length c3], .int .i64 o] w (StepAns F (rCls p o) w) := by
  have h := hP.sees
  obtain ⟨k1, k2, k3⟩ := hP.2
  obtain ⟨L1, L2, L3⟩ := ok_2 hok
  obtain ⟨R, hR⟩ : ∃ R, R = clsR p o := ⟨_, rfl⟩
  have HR := hid hR.symm
  rcases hb : clsB p o with _ | _
  · skip
    have ER : Hid (rCls p o = (p, tNo)) := hid (by unfold rCls; rw [hb]; rfl)
    have HN := hid (cls_no hb).1
    clear hb hR hok
    have hB201 := Below.refl w.heap.size w
    have hB202 := hB201.alloc hB201.size (.cells #[.int .i64 p.mx, .slice A1 p.idle.length c1, .slice A2 p.held.length c2, .slice A3 p.wait.length c3] 30)
    clear hB201
    have x203 : At (w.alloc (.cells #[.int .i64 p.mx, .slice A1 p.idle.length c1, .slice A2 p.held.length c2, .slice A3 p.wait.length c3] 30)) (w.heap.size) 30 #[.int .i64 p.mx, .slice A1 p.idle.length c1, .slice A2 p.held.length c2, .slice A3 p.wait.length c3] := At.newAt _ _ (by first | rfl | (simp; done) | (simp; omega))
    have hB204 := hB202.alloc hB202.size (.cells #[.int .i64 0, .slice none 0 0, .slice none 0 0, .slice none 0 0] 30)
    have x205 := x203.alloc (.cells #[.int .i64 0, .slice none 0 0, .slice none 0 0, .slice none 0 0] 30)
    clear hB202 x203
    have r206 : At ((w.alloc (.cells #[.int .i64 p.mx, .slice A1 p.idle.length c1, .slice A2 p.held.length c2, .slice A3 p.wait.length c3] 30)).alloc (.cells #[.int .i64 0, .slice none 0 0, .slice none 0 0, .slice none 0 0] 30)) (w.heap.size + 1) 30 #[.int .i64 0, .slice none 0 0, .slice none 0 0, .slice none 0 0] := At.newAt _ _ (by first | rfl | (simp; done) | (simp; omega))
    go_enter Try.func92, Try.ntmps92
    obtain ⟨p0, p1, p2, p3, pl, pf⟩ := fourS x205
    obtain ⟨q0, q1, q2, q3, ql, qf⟩ := fourS r206
    go_wp2_with fail
    with_reducible refine (iCloseIdle_any p A1 A2 A3 c1 c2 c3 o _ (h.on hB204) k1 L1.out L2.out L3.out).mono ?_
    rintro e w1 ⟨Br1, Br2, Br3, dr1, dr2, dr3, he, ho, hb1⟩
    rw [HR.out, HN.out] at he
    rw [HR.out] at ho
    subst he
    have sz1 : w.heap.size + 2 ≤ w1.heap.size := Nat.le_trans (by first | exact Nat.le_refl _ | (simp; done) | (simp; omega)) (hb1.size)
    have hB207 := hB204.trans (hb1.mono hB204.size)
    have x208 := x205.below hb1 x205.lt
    have r209 := r206.below hb1 r206.lt
    clear hB204 x205 r206
    clear p0 p1 p2 p3 pl pf q0 q1 q2 q3 ql qf
    have o210 := ho.mono (show w.heap.size + 2 ≤ _ by first | omega | (simp; done) | (simp; omega))
    clear ho
    obtain ⟨p0, p1, p2, p3, pl, pf⟩ := fourS x208
    obtain ⟨q0, q1, q2, q3, ql, qf⟩ := fourS r209
    have ne_pq : ¬ w.heap.size = w.heap.size + 1 := by omega
    have ne_qp : ¬ w.heap.size + 1 = w.heap.size := by omega
    have hB211 := below_put hB207 (grown_set w1 (w.heap.size + 1) 0 (.int .i64 p.mx)) (by omega) (by have := hB207.size; omega)
    have x212 := x208.past (grown_set w1 (w.heap.size + 1) 0 (.int .i64 p.mx)) (by omega)
    have o213 := o210.past r209 (grown_set w1 (w.heap.size + 1) 0 (.int .i64 p.mx))
    have r214 : At (w1.setCell ⟨w.heap.size + 1, 0, none⟩ (.int .i64 p.mx)) (w.heap.size + 1) 30 #[.int .i64 p.mx, .slice none 0 0, .slice none 0 0, .slice none 0 0] := by simpa using r209.set 0 (.int .i64 p.mx)
    clear hB207 x208 o210 r209
    have hB215 := below_put hB211 (grown_set (w1.setCell ⟨w.heap.size + 1, 0, none⟩ (.int .i64 p.mx)) (w.heap.size + 1) 1 (.slice A1 p.idle.length c1)) (by omega) (by have := hB211.size; omega)
    have x216 := x212.past (grown_set (w1.setCell ⟨w.heap.size + 1, 0, none⟩ (.int .i64 p.mx)) (w.heap.size + 1) 1 (.slice A1 p.idle.length c1)) (by omega)
    have o217 := o213.past r214 (grown_set (w1.setCell ⟨w.heap.size + 1, 0, none⟩ (.int .i64 p.mx)) (w.heap.size + 1) 1 (.slice A1 p.idle.length c1))
    have r218 : At ((w1.setCell ⟨w.heap.size + 1, 0, none⟩ (.int .i64 p.mx)).setCell ⟨w.heap.size + 1, 1, none⟩ (.slice A1 p.idle.length c1)) (w.heap.size + 1) 30 #[.int .i64 p.mx, .slice A1 p.idle.length c1, .slice none 0 0, .slice none 0 0] := by simpa using r214.set 1 (.slice A1 p.idle.length c1)
    clear hB211 x212 o213 r214
    have hB219 := below_put hB215 (grown_set ((w1.setCell ⟨w.heap.size + 1, 0, none⟩ (.int .i64 p.mx)).setCell ⟨w.heap.size + 1, 1, none⟩ (.slice A1 p.idle.length c1)) (w.heap.size + 1) 2 (.slice A2 p.held.length c2)) (by omega) (by have := hB215.size; omega)
    have x220 := x216.past (grown_set ((w1.setCell ⟨w.heap.size + 1, 0, none⟩ (.int .i64 p.mx)).setCell ⟨w.heap.size + 1, 1, none⟩ (.slice A1 p.idle.length c1)) (w.heap.size + 1) 2 (.slice A2 p.held.length c2)) (by omega)
    have o221 := o217.past r218 (grown_set ((w1.setCell ⟨w.heap.size + 1, 0, none⟩ (.int .i64 p.mx)).setCell ⟨w.heap.size + 1, 1, none⟩ (.slice A1 p.idle.length c1)) (w.heap.size + 1) 2 (.slice A2 p.held.length c2))
    have r222 : At (((w1.setCell ⟨w.heap.size + 1, 0, none⟩ (.int .i64 p.mx)).setCell ⟨w.heap.size + 1, 1, none⟩ (.slice A1 p.idle.length c1)).setCell ⟨w.heap.size + 1, 2, none⟩ (.slice A2 p.held.length c2)) (w.heap.size + 1) 30 #[.int .i64 p.mx, .slice A1 p.idle.length c1, .slice A2 p.held.length c2, .slice none 0 0] := by simpa using r218.set 2 (.slice A2 p.held.length c2)
    clear hB215 x216 o217 r218
    have hB223 := below_put hB219 (grown_set (((w1.setCell ⟨w.heap.size + 1, 0, none⟩ (.int .i64 p.mx)).setCell ⟨w.heap.size + 1, 1, none⟩ (.slice A1 p.idle.length c1)).setCell ⟨w.heap.size + 1, 2, none⟩ (.slice A2 p.held.length c2)) (w.heap.size + 1) 3 (.slice A3 p.wait.length c3)) (by omega) (by have := hB219.size; omega)
    have x224 := x220.past (grown_set (((w1.setCell ⟨w.heap.size + 1, 0, none⟩ (.int .i64 p.mx)).setCell ⟨w.heap.size + 1, 1, none⟩ (.slice A1 p.idle.length c1)).setCell ⟨w.heap.size + 1, 2, none⟩ (.slice A2 p.held.length c2)) (w.heap.size + 1) 3 (.slice A3 p.wait.length c3)) (by omega)
    have o225 := o221.past r222 (grown_set (((w1.setCell ⟨w.heap.size + 1, 0, none⟩ (.int .i64 p.mx)).setCell ⟨w.heap.size + 1, 1, none⟩ (.slice A1 p.idle.length c1)).setCell ⟨w.heap.size + 1, 2, none⟩ (.slice A2 p.held.length c2)) (w.heap.size + 1) 3 (.slice A3 p.wait.length c3))
    have r226 : At ((((w1.setCell ⟨w.heap.size + 1, 0, none⟩ (.int .i64 p.mx)).setCell ⟨w.heap.size + 1, 1, none⟩ (.slice A1 p.idle.length c1)).setCell ⟨w.heap.size + 1, 2, none⟩ (.slice A2 p.held.length c2)).setCell ⟨w.heap.size + 1, 3, none⟩ (.slice A3 p.wait.length c3)) (w.heap.size + 1) 30 #[.int .i64 p.mx, .slice A1 p.idle.length c1, .slice A2 p.held.length c2, .slice A3 p.wait.length c3] := by simpa using r222.set 3 (.slice A3 p.wait.length c3)
    clear hB219 x220 o221 r222
    have hB227 := hB223.alloc hB223.size (.cells #[.int .i64 R.mx, .slice Br1 R.idle.length dr1, .slice Br2 R.held.length dr2, .slice Br3 R.wait.length dr3] 30)
    have x228 := x224.alloc (.cells #[.int .i64 R.mx, .slice Br1 R.idle.length dr1, .slice Br2 R.held.length dr2, .slice Br3 R.wait.length dr3] 30)
    have r229 := r226.alloc (.cells #[.int .i64 R.mx, .slice Br1 R.idle.length dr1, .slice Br2 R.held.length dr2, .slice Br3 R.wait.length dr3] 30)
    have o230 := o225.alloc (.cells #[.int .i64 R.mx, .slice Br1 R.idle.length dr1, .slice Br2 R.held.length dr2, .slice Br3 R.wait.length dr3] 30)
    clear hB223 x224 r226 o225
    go_wp2
    refine bodyPost_ret (v := .tuple #[.agg #[.int .i64 p.mx, .slice A1 p.idle.length c1, .slice A2 p.held.length c2, .slice A3 p.wait.length c3], .string (ByteArray.mk #[110, 111])]) (by simp [results, Try.results92, go_sem, r229.cell]) rfl ?_
    rw [ER.out]
    exact ⟨_, _, _, _, _, _, rfl, hP.below hB227, hB227⟩
  obtain ⟨hn0, hn9⟩ := cls_range hb
  · skip
    obtain ⟨m, hm, hm9, hml⟩ := text_at (clsN p o) hn0 hn9
    have ER : Hid (rCls p o = (R, dec m)) := hid (by unfold rCls; rw [if_pos hb, hR, hm, Int.toNat_natCast])
    have HN := hid hm
    have hmn : ((m : Int) == -1) = false := by simp only [beq_eq_false_iff_ne, ne_eq]; omega
    clear hb hR hok hn0 hn9 hm
    obtain ⟨D, hD⟩ : ∃ D, D = dec m := ⟨_, rfl⟩
    rw [← hD] at ER hml
    have HD := hid hD.symm
    clear hD
    have hB231 := Below.refl w.heap.size w
    have hB232 := hB231.alloc hB231.size (.cells #[.int .i64 p.mx, .slice A1 p.idle.length c1, .slice A2 p.held.length c2, .slice A3 p.wait.length c3] 30)
    clear hB231
    have x233 : At (w.alloc (.cells #[.int .i64 p.mx, .slice A1 p.idle.length c1, .slice A2 p.held.length c2, .slice A3 p.wait.length c3] 30)) (w.heap.size) 30 #[.int .i64 p.mx, .slice A1 p.idle.length c1, .slice A2 p.held.length c2, .slice A3 p.wait.length c3] := At.newAt _ _ (by first | rfl | (simp; done) | (simp; omega))
    have hB234 := hB232.alloc hB232.size (.cells #[.int .i64 0, .slice none 0 0, .slice none 0 0, .slice none 0 0] 30)
    have x235 := x233.alloc (.cells #[.int .i64 0, .slice none 0 0, .slice none 0 0, .slice none 0 0] 30)
    clear hB232 x233
    have r236 : At ((w.alloc (.cells #[.int .i64 p.mx, .slice A1 p.idle.length c1, .slice A2 p.held.length c2, .slice A3 p.wait.length c3] 30)).alloc (.cells #[.int .i64 0, .slice none 0 0, .slice none 0 0, .slice none 0 0] 30)) (w.heap.size + 1) 30 #[.int .i64 0, .slice none 0 0, .slice none 0 0, .slice none 0 0] := At.newAt _ _ (by first | rfl | (simp; done) | (simp; omega))
    go_enter Try.func92, Try.ntmps92
    obtain ⟨p0, p1, p2, p3, pl, pf⟩ := fourS x235
    obtain ⟨q0, q1, q2, q3, ql, qf⟩ := fourS r236
    go_wp2_with fail
    with_reducible refine (iCloseIdle_any p A1 A2 A3 c1 c2 c3 o _ (h.on hB234) k1 L1.out L2.out L3.out).mono ?_
    rintro e w1 ⟨Br1, Br2, Br3, dr1, dr2, dr3, he, ho, hb1⟩
    rw [HR.out, HN.out] at he
    rw [HR.out] at ho
    subst he
    have sz1 : w.heap.size + 2 ≤ w1.heap.size := Nat.le_trans (by first | exact Nat.le_refl _ | (simp; done) | (simp; omega)) (hb1.size)
    have hB237 := hB234.trans (hb1.mono hB234.size)
    have x238 := x235.below hb1 x235.lt
    have r239 := r236.below hb1 r236.lt
    clear hB234 x235 r236
    clear p0 p1 p2 p3 pl pf q0 q1 q2 q3 ql qf
    have o240 := ho.mono (show w.heap.size + 2 ≤ _ by first | omega | (simp; done) | (simp; omega))
    clear ho
    obtain ⟨p0, p1, p2, p3, pl, pf⟩ := fourS x238
    obtain ⟨q0, q1, q2, q3, ql, qf⟩ := fourS r239
    have hB241 := hB237.alloc hB237.size (.cells #[.int .i64 R.mx, .slice Br1 R.idle.length dr1, .slice Br2 R.held.length dr2, .slice Br3 R.wait.length dr3] 30)
    have x242 := x238.alloc (.cells #[.int .i64 R.mx, .slice Br1 R.idle.length dr1, .slice Br2 R.held.length dr2, .slice Br3 R.wait.length dr3] 30)
    have r243 := r239.alloc (.cells #[.int .i64 R.mx, .slice Br1 R.idle.length dr1, .slice Br2 R.held.length dr2, .slice Br3 R.wait.length dr3] 30)
    have o244 := o240.alloc (.cells #[.int .i64 R.mx, .slice Br1 R.idle.length dr1, .slice Br2 R.held.length dr2, .slice Br3 R.wait.length dr3] 30)
    clear hB237 x238 r239 o240
    have t245 : At (w1.alloc (.cells #[.int .i64 R.mx, .slice Br1 R.idle.length dr1, .slice Br2 R.held.length dr2, .slice Br3 R.wait.length dr3] 30)) (w1.heap.size) 30 #[.int .i64 R.mx, .slice Br1 R.idle.length dr1, .slice Br2 R.held.length dr2, .slice Br3 R.wait.length dr3] := At.newAt _ _ (by first | rfl | (simp; done) | (simp; omega))
    obtain ⟨p0, p1, p2, p3, pl, pf⟩ := fourS x242
    obtain ⟨q0, q1, q2, q3, ql, qf⟩ := fourS r243
    obtain ⟨t0, t1, t2, t3, tl, tf⟩ := fourS t245
    go_wp2_with fail
    obtain ⟨w2, hw2⟩ : ∃ w2, w2 = (w1.alloc (.cells #[.int .i64 R.mx, .slice Br1 R.idle.length dr1, .slice Br2 R.held.length dr2, .slice Br3 R.wait.length dr3] 30)) := ⟨_, rfl⟩
    rw [← hw2] at hB241 x242 r243 o244 t245 ⊢
    have sz2 : w1.heap.size + 1 ≤ w2.heap.size := by rw [hw2]; first | exact Nat.le_refl _ | (simp; done) | (simp; omega)
    clear hw2
    clear p0 p1 p2 p3 pl pf q0 q1 q2 q3 ql qf t0 t1 t2 t3 tl tf
    obtain ⟨y0, y1, y2, y3, _, _⟩ := fourS t245
    obtain ⟨n0, n1, n2, n3, nl, nf⟩ := fourS r243
    obtain ⟨p0, p1, p2, p3, pl, pf⟩ := fourS x242
    obtain ⟨q0, q1, q2, q3, ql, qf⟩ := fourS r243
    obtain ⟨t0, t1, t2, t3, tl, tf⟩ := fourS t245
    have ne_pq : ¬ w.heap.size = w.heap.size + 1 := by omega
    have ne_qp : ¬ w.heap.size + 1 = w.heap.size := by omega
    have ne_qt : ¬ w.heap.size + 1 = w1.heap.size := by omega
    have ne_tq : ¬ w1.heap.size = w.heap.size + 1 := by omega
    go_region_held3 (fun w' => w'.cell? ⟨w1.heap.size, 0, none⟩ = some (.int .i64 R.mx) ∧ w'.cell? ⟨w1.heap.size, 1, none⟩ = some (.slice Br1 R.idle.length dr1) ∧ w'.cell? ⟨w1.heap.size, 2, none⟩ = some (.slice Br2 R.held.length dr2) ∧ w'.cell? ⟨w1.heap.size, 3, none⟩ = some (.slice Br3 R.wait.length dr3))
      (first | with_reducible exact ⟨y0, y1, y2, y3⟩ | go_keep)
      (first
        | (go_at_call 38; (with_reducible refine (numberText_any m _ hm9).mono ?_); rintro e w' ⟨he, rfl⟩; rw [HD.out] at he; subst he; unfold tx)
        | fail)
    all_goals
      have hB246 := below_put hB241 (grown_set w2 (w.heap.size + 1) 0 (.int .i64 R.mx)) (by omega) (by have := hB241.size; omega)
      have x247 := x242.past (grown_set w2 (w.heap.size + 1) 0 (.int .i64 R.mx)) (by omega)
      have o248 := o244.past r243 (grown_set w2 (w.heap.size + 1) 0 (.int .i64 R.mx))
      have t249 := t245.past (grown_set w2 (w.heap.size + 1) 0 (.int .i64 R.mx)) (by omega)
      have r250 : At (w2.setCell ⟨w.heap.size + 1, 0, none⟩ (.int .i64 R.mx)) (w.heap.size + 1) 30 #[.int .i64 R.mx, .slice none 0 0, .slice none 0 0, .slice none 0 0] := by simpa using r243.set 0 (.int .i64 R.mx)
      clear hB241 x242 o244 t245 r243
      have hB251 := below_put hB246 (grown_set (w2.setCell ⟨w.heap.size + 1, 0, none⟩ (.int .i64 R.mx)) (w.heap.size + 1) 1 (.slice Br1 R.idle.length dr1)) (by omega) (by have := hB246.size; omega)
      have x252 := x247.past (grown_set (w2.setCell ⟨w.heap.size + 1, 0, none⟩ (.int .i64 R.mx)) (w.heap.size + 1) 1 (.slice Br1 R.idle.length dr1)) (by omega)
      have o253 := o248.past r250 (grown_set (w2.setCell ⟨w.heap.size + 1, 0, none⟩ (.int .i64 R.mx)) (w.heap.size + 1) 1 (.slice Br1 R.idle.length dr1))
      have t254 := t249.past (grown_set (w2.setCell ⟨w.heap.size + 1, 0, none⟩ (.int .i64 R.mx)) (w.heap.size + 1) 1 (.slice Br1 R.idle.length dr1)) (by omega)
      have r255 : At ((w2.setCell ⟨w.heap.size + 1, 0, none⟩ (.int .i64 R.mx)).setCell ⟨w.heap.size + 1, 1, none⟩ (.slice Br1 R.idle.length dr1)) (w.heap.size + 1) 30 #[.int .i64 R.mx, .slice Br1 R.idle.length dr1, .slice none 0 0, .slice none 0 0] := by simpa using r250.set 1 (.slice Br1 R.idle.length dr1)
      clear hB246 x247 o248 t249 r250
      have hB256 := below_put hB251 (grown_set ((w2.setCell ⟨w.heap.size + 1, 0, none⟩ (.int .i64 R.mx)).setCell ⟨w.heap.size + 1, 1, none⟩ (.slice Br1 R.idle.length dr1)) (w.heap.size + 1) 2 (.slice Br2 R.held.length dr2)) (by omega) (by have := hB251.size; omega)
      have x257 := x252.past (grown_set ((w2.setCell ⟨w.heap.size + 1, 0, none⟩ (.int .i64 R.mx)).setCell ⟨w.heap.size + 1, 1, none⟩ (.slice Br1 R.idle.length dr1)) (w.heap.size + 1) 2 (.slice Br2 R.held.length dr2)) (by omega)
      have o258 := o253.past r255 (grown_set ((w2.setCell ⟨w.heap.size + 1, 0, none⟩ (.int .i64 R.mx)).setCell ⟨w.heap.size + 1, 1, none⟩ (.slice Br1 R.idle.length dr1)) (w.heap.size + 1) 2 (.slice Br2 R.held.length dr2))
      have t259 := t254.past (grown_set ((w2.setCell ⟨w.heap.size + 1, 0, none⟩ (.int .i64 R.mx)).setCell ⟨w.heap.size + 1, 1, none⟩ (.slice Br1 R.idle.length dr1)) (w.heap.size + 1) 2 (.slice Br2 R.held.length dr2)) (by omega)
      have r260 : At (((w2.setCell ⟨w.heap.size + 1, 0, none⟩ (.int .i64 R.mx)).setCell ⟨w.heap.size + 1, 1, none⟩ (.slice Br1 R.idle.length dr1)).setCell ⟨w.heap.size + 1, 2, none⟩ (.slice Br2 R.held.length dr2)) (w.heap.size + 1) 30 #[.int .i64 R.mx, .slice Br1 R.idle.length dr1, .slice Br2 R.held.length dr2, .slice none 0 0] := by simpa using r255.set 2 (.slice Br2 R.held.length dr2)
      clear hB251 x252 o253 t254 r255
      have hB261 := below_put hB256 (grown_set (((w2.setCell ⟨w.heap.size + 1, 0, none⟩ (.int .i64 R.mx)).setCell ⟨w.heap.size + 1, 1, none⟩ (.slice Br1 R.idle.length dr1)).setCell ⟨w.heap.size + 1, 2, none⟩ (.slice Br2 R.held.length dr2)) (w.heap.size + 1) 3 (.slice Br3 R.wait.length dr3)) (by omega) (by have := hB256.size; omega)
      have x262 := x257.past (grown_set (((w2.setCell ⟨w.heap.size + 1, 0, none⟩ (.int .i64 R.mx)).setCell ⟨w.heap.size + 1, 1, none⟩ (.slice Br1 R.idle.length dr1)).setCell ⟨w.heap.size + 1, 2, none⟩ (.slice Br2 R.held.length dr2)) (w.heap.size + 1) 3 (.slice Br3 R.wait.length dr3)) (by omega)
      have o263 := o258.past r260 (grown_set (((w2.setCell ⟨w.heap.size + 1, 0, none⟩ (.int .i64 R.mx)).setCell ⟨w.heap.size + 1, 1, none⟩ (.slice Br1 R.idle.length dr1)).setCell ⟨w.heap.size + 1, 2, none⟩ (.slice Br2 R.held.length dr2)) (w.heap.size + 1) 3 (.slice Br3 R.wait.length dr3))
      have t264 := t259.past (grown_set (((w2.setCell ⟨w.heap.size + 1, 0, none⟩ (.int .i64 R.mx)).setCell ⟨w.heap.size + 1, 1, none⟩ (.slice Br1 R.idle.length dr1)).setCell ⟨w.heap.size + 1, 2, none⟩ (.slice Br2 R.held.length dr2)) (w.heap.size + 1) 3 (.slice Br3 R.wait.length dr3)) (by omega)
      have r265 : At ((((w2.setCell ⟨w.heap.size + 1, 0, none⟩ (.int .i64 R.mx)).setCell ⟨w.heap.size + 1, 1, none⟩ (.slice Br1 R.idle.length dr1)).setCell ⟨w.heap.size + 1, 2, none⟩ (.slice Br2 R.held.length dr2)).setCell ⟨w.heap.size + 1, 3, none⟩ (.slice Br3 R.wait.length dr3)) (w.heap.size + 1) 30 #[.int .i64 R.mx, .slice Br1 R.idle.length dr1, .slice Br2 R.held.length dr2, .slice Br3 R.wait.length dr3] := by simpa using r260.set 3 (.slice Br3 R.wait.length dr3)
      clear hB256 x257 o258 t259 r260
      have hB266 := hB261.drew
      have x267 := x262.drew
      have r268 := r265.drew
      have o269 := o263.drew
      have t270 := t264.drew
      clear hB261 x262 r265 o263 t264
      go_wp2
      refine bodyPost_ret (v := .tuple #[.agg #[.int .i64 R.mx, .slice Br1 R.idle.length dr1, .slice Br2 R.held.length dr2, .slice Br3 R.wait.length dr3], .string (ByteArray.mk D.toArray)]) (by simp [results, Try.results92, go_sem, r268.cell]) rfl ?_
      rw [ER.out]
      exact ⟨_, _, _, _, _, _, rfl, PolF.of_own (o269) (fun b hb => Nat.lt_of_lt_of_le (hF b hb) (by omega)), hB266⟩

set_option maxHeartbeats 8000000 in
set_option maxRecDepth 16384 in
theorem runSize_any (p : Pl) (A1 A2 A3 : Option Addr) (c1 c2 c3 : Nat) (o : Int) (F : Nat → Prop) (w : World) (hP : PolF w F A1 A2 A3 c1 c2 c3 p) (hF : ∀ b, F b → b < w.heap.size) (hok : Ok p) :
    Calls Try.prog 93 #[.agg #[.int .i64 p.mx, .slice A1 p.idle.length c1, .slice A2 p.held.length c2, .slice A3 p.wait.length c3], .int .i64 o] w (StepAns F (rSiz p o) w) := by
  have h := hP.sees
  obtain ⟨k1, k2, k3⟩ := hP.2
  obtain ⟨L1, L2, L3⟩ := ok_2 hok
  have LE4 : (2097152 : Nat) ≤ 4194304 := by decide
  rcases hb : okB (sized p o) with _ | _
  · skip
    have ER : Hid (rSiz p o = (p, tNo)) := hid (by unfold rSiz; rw [hb]; rfl)
    have HK : Hid (okB ⟨o, p.idle, p.held, p.wait⟩ = false) := hid hb
    clear hb hok
    have hB271 := Below.refl w.heap.size w
    have hB272 := hB271.alloc hB271.size (.cells #[.int .i64 p.mx, .slice A1 p.idle.length c1, .slice A2 p.held.length c2, .slice A3 p.wait.length c3] 30)
    clear hB271
    have x273 : At (w.alloc (.cells #[.int .i64 p.mx, .slice A1 p.idle.length c1, .slice A2 p.held.length c2, .slice A3 p.wait.length c3] 30)) (w.heap.size) 30 #[.int .i64 p.mx, .slice A1 p.idle.length c1, .slice A2 p.held.length c2, .slice A3 p.wait.length c3] := At.newAt _ _ (by first | rfl | (simp; done) | (simp; omega))
    have hB274 := hB272.alloc hB272.size (.cells #[.int .i64 0, .slice none 0 0, .slice none 0 0, .slice none 0 0] 30)
    have x275 := x273.alloc (.cells #[.int .i64 0, .slice none 0 0, .slice none 0 0, .slice none 0 0] 30)
    clear hB272 x273
    have r276 : At ((w.alloc (.cells #[.int .i64 p.mx, .slice A1 p.idle.length c1, .slice A2 p.held.length c2, .slice A3 p.wait.length c3] 30)).alloc (.cells #[.int .i64 0, .slice none 0 0, .slice none 0 0, .slice none 0 0] 30)) (w.heap.size + 1) 30 #[.int .i64 0, .slice none 0 0, .slice none 0 0, .slice none 0 0] := At.newAt _ _ (by first | rfl | (simp; done) | (simp; omega))
    go_enter Try.func93, Try.ntmps93
    obtain ⟨p0, p1, p2, p3, pl, pf⟩ := fourS x275
    obtain ⟨q0, q1, q2, q3, ql, qf⟩ := fourS r276
    go_wp2_with fail
    with_reducible refine (icopyPool_any p A1 A2 A3 c1 c2 c3 _ (h.on hB274) (Nat.le_trans L1.out LE4) (Nat.le_trans L2.out LE4) (Nat.le_trans L3.out LE4)).mono ?_
    rintro e w1 ⟨Br1, Br2, Br3, dr1, dr2, dr3, rfl, ho, hb1⟩
    have sz1 : w.heap.size + 2 ≤ w1.heap.size := Nat.le_trans (by first | exact Nat.le_refl _ | (simp; done) | (simp; omega)) (hb1.size)
    have hB277 := hB274.trans (hb1.mono hB274.size)
    have x278 := x275.below hb1 x275.lt
    have r279 := r276.below hb1 r276.lt
    clear hB274 x275 r276
    clear p0 p1 p2 p3 pl pf q0 q1 q2 q3 ql qf
    have o280 := ho.mono (show w.heap.size + 2 ≤ _ by first | omega | (simp; done) | (simp; omega))
    clear ho
    obtain ⟨p0, p1, p2, p3, pl, pf⟩ := fourS x278
    obtain ⟨q0, q1, q2, q3, ql, qf⟩ := fourS r279
    have hB281 := hB277.alloc hB277.size (.cells #[.int .i64 o, .slice Br1 p.idle.length dr1, .slice Br2 p.held.length dr2, .slice Br3 p.wait.length dr3] 30)
    have x282 := x278.alloc (.cells #[.int .i64 o, .slice Br1 p.idle.length dr1, .slice Br2 p.held.length dr2, .slice Br3 p.wait.length dr3] 30)
    have r283 := r279.alloc (.cells #[.int .i64 o, .slice Br1 p.idle.length dr1, .slice Br2 p.held.length dr2, .slice Br3 p.wait.length dr3] 30)
    have o284 := o280.alloc (.cells #[.int .i64 o, .slice Br1 p.idle.length dr1, .slice Br2 p.held.length dr2, .slice Br3 p.wait.length dr3] 30)
    clear hB277 x278 r279 o280
    have t285 : At (w1.alloc (.cells #[.int .i64 o, .slice Br1 p.idle.length dr1, .slice Br2 p.held.length dr2, .slice Br3 p.wait.length dr3] 30)) (w1.heap.size) 30 #[.int .i64 o, .slice Br1 p.idle.length dr1, .slice Br2 p.held.length dr2, .slice Br3 p.wait.length dr3] := At.newAt _ _ (by first | rfl | (simp; done) | (simp; omega))
    have hsz : SeesP (w1.alloc (.cells #[.int .i64 o, .slice Br1 p.idle.length dr1, .slice Br2 p.held.length dr2, .slice Br3 p.wait.length dr3] 30)) ((w1.alloc (.cells #[.int .i64 o, .slice Br1 p.idle.length dr1, .slice Br2 p.held.length dr2, .slice Br3 p.wait.length dr3] 30))).heap.size Br1 Br2 Br3 ⟨o, p.idle, p.held, p.wait⟩ := o284.sees
    go_wp2_with fail
    with_reducible refine (iValidPool_any ⟨o, p.idle, p.held, p.wait⟩ Br1 Br2 Br3 dr1 dr2 dr3 _ hsz L1.out L2.out (Nat.le_trans L3.out LE4)).mono ?_
    rintro e w2 ⟨he, hb2⟩
    rw [HK.out] at he
    subst he
    have sz2 : w1.heap.size + 1 ≤ w2.heap.size := Nat.le_trans (by first | exact Nat.le_refl _ | (simp; done) | (simp; omega)) (hb2.size)
    have hB286 := hB281.trans (hb2.mono hB281.size)
    have x287 := x282.below hb2 x282.lt
    have r288 := r283.below hb2 r283.lt
    have o289 := o284.below hb2
    have t290 := t285.below hb2 t285.lt
    clear hB281 x282 r283 o284 t285
    clear p0 p1 p2 p3 pl pf q0 q1 q2 q3 ql qf
    obtain ⟨p0, p1, p2, p3, pl, pf⟩ := fourS x287
    obtain ⟨q0, q1, q2, q3, ql, qf⟩ := fourS r288
    obtain ⟨t0, t1, t2, t3, tl, tf⟩ := fourS t290
    have hB291 := below_put hB286 (grown_set w2 (w.heap.size + 1) 0 (.int .i64 p.mx)) (by omega) (by have := hB286.size; omega)
    have x292 := x287.past (grown_set w2 (w.heap.size + 1) 0 (.int .i64 p.mx)) (by omega)
    have o293 := o289.past r288 (grown_set w2 (w.heap.size + 1) 0 (.int .i64 p.mx))
    have t294 := t290.past (grown_set w2 (w.heap.size + 1) 0 (.int .i64 p.mx)) (by omega)
    have r295 : At (w2.setCell ⟨w.heap.size + 1, 0, none⟩ (.int .i64 p.mx)) (w.heap.size + 1) 30 #[.int .i64 p.mx, .slice none 0 0, .slice none 0 0, .slice none 0 0] := by simpa using r288.set 0 (.int .i64 p.mx)
    clear hB286 x287 o289 t290 r288
    have hB296 := below_put hB291 (grown_set (w2.setCell ⟨w.heap.size + 1, 0, none⟩ (.int .i64 p.mx)) (w.heap.size + 1) 1 (.slice A1 p.idle.length c1)) (by omega) (by have := hB291.size; omega)
    have x297 := x292.past (grown_set (w2.setCell ⟨w.heap.size + 1, 0, none⟩ (.int .i64 p.mx)) (w.heap.size + 1) 1 (.slice A1 p.idle.length c1)) (by omega)
    have o298 := o293.past r295 (grown_set (w2.setCell ⟨w.heap.size + 1, 0, none⟩ (.int .i64 p.mx)) (w.heap.size + 1) 1 (.slice A1 p.idle.length c1))
    have t299 := t294.past (grown_set (w2.setCell ⟨w.heap.size + 1, 0, none⟩ (.int .i64 p.mx)) (w.heap.size + 1) 1 (.slice A1 p.idle.length c1)) (by omega)
    have r300 : At ((w2.setCell ⟨w.heap.size + 1, 0, none⟩ (.int .i64 p.mx)).setCell ⟨w.heap.size + 1, 1, none⟩ (.slice A1 p.idle.length c1)) (w.heap.size + 1) 30 #[.int .i64 p.mx, .slice A1 p.idle.length c1, .slice none 0 0, .slice none 0 0] := by simpa using r295.set 1 (.slice A1 p.idle.length c1)
    clear hB291 x292 o293 t294 r295
    have hB301 := below_put hB296 (grown_set ((w2.setCell ⟨w.heap.size + 1, 0, none⟩ (.int .i64 p.mx)).setCell ⟨w.heap.size + 1, 1, none⟩ (.slice A1 p.idle.length c1)) (w.heap.size + 1) 2 (.slice A2 p.held.length c2)) (by omega) (by have := hB296.size; omega)
    have x302 := x297.past (grown_set ((w2.setCell ⟨w.heap.size + 1, 0, none⟩ (.int .i64 p.mx)).setCell ⟨w.heap.size + 1, 1, none⟩ (.slice A1 p.idle.length c1)) (w.heap.size + 1) 2 (.slice A2 p.held.length c2)) (by omega)
    have o303 := o298.past r300 (grown_set ((w2.setCell ⟨w.heap.size + 1, 0, none⟩ (.int .i64 p.mx)).setCell ⟨w.heap.size + 1, 1, none⟩ (.slice A1 p.idle.length c1)) (w.heap.size + 1) 2 (.slice A2 p.held.length c2))
    have t304 := t299.past (grown_set ((w2.setCell ⟨w.heap.size + 1, 0, none⟩ (.int .i64 p.mx)).setCell ⟨w.heap.size + 1, 1, none⟩ (.slice A1 p.idle.length c1)) (w.heap.size + 1) 2 (.slice A2 p.held.length c2)) (by omega)
    have r305 : At (((w2.setCell ⟨w.heap.size + 1, 0, none⟩ (.int .i64 p.mx)).setCell ⟨w.heap.size + 1, 1, none⟩ (.slice A1 p.idle.length c1)).setCell ⟨w.heap.size + 1, 2, none⟩ (.slice A2 p.held.length c2)) (w.heap.size + 1) 30 #[.int .i64 p.mx, .slice A1 p.idle.length c1, .slice A2 p.held.length c2, .slice none 0 0] := by simpa using r300.set 2 (.slice A2 p.held.length c2)
    clear hB296 x297 o298 t299 r300
    have hB306 := below_put hB301 (grown_set (((w2.setCell ⟨w.heap.size + 1, 0, none⟩ (.int .i64 p.mx)).setCell ⟨w.heap.size + 1, 1, none⟩ (.slice A1 p.idle.length c1)).setCell ⟨w.heap.size + 1, 2, none⟩ (.slice A2 p.held.length c2)) (w.heap.size + 1) 3 (.slice A3 p.wait.length c3)) (by omega) (by have := hB301.size; omega)
    have x307 := x302.past (grown_set (((w2.setCell ⟨w.heap.size + 1, 0, none⟩ (.int .i64 p.mx)).setCell ⟨w.heap.size + 1, 1, none⟩ (.slice A1 p.idle.length c1)).setCell ⟨w.heap.size + 1, 2, none⟩ (.slice A2 p.held.length c2)) (w.heap.size + 1) 3 (.slice A3 p.wait.length c3)) (by omega)
    have o308 := o303.past r305 (grown_set (((w2.setCell ⟨w.heap.size + 1, 0, none⟩ (.int .i64 p.mx)).setCell ⟨w.heap.size + 1, 1, none⟩ (.slice A1 p.idle.length c1)).setCell ⟨w.heap.size + 1, 2, none⟩ (.slice A2 p.held.length c2)) (w.heap.size + 1) 3 (.slice A3 p.wait.length c3))
    have t309 := t304.past (grown_set (((w2.setCell ⟨w.heap.size + 1, 0, none⟩ (.int .i64 p.mx)).setCell ⟨w.heap.size + 1, 1, none⟩ (.slice A1 p.idle.length c1)).setCell ⟨w.heap.size + 1, 2, none⟩ (.slice A2 p.held.length c2)) (w.heap.size + 1) 3 (.slice A3 p.wait.length c3)) (by omega)
    have r310 : At ((((w2.setCell ⟨w.heap.size + 1, 0, none⟩ (.int .i64 p.mx)).setCell ⟨w.heap.size + 1, 1, none⟩ (.slice A1 p.idle.length c1)).setCell ⟨w.heap.size + 1, 2, none⟩ (.slice A2 p.held.length c2)).setCell ⟨w.heap.size + 1, 3, none⟩ (.slice A3 p.wait.length c3)) (w.heap.size + 1) 30 #[.int .i64 p.mx, .slice A1 p.idle.length c1, .slice A2 p.held.length c2, .slice A3 p.wait.length c3] := by simpa using r305.set 3 (.slice A3 p.wait.length c3)
    clear hB301 x302 o303 t304 r305
    go_wp2
    refine bodyPost_ret (v := .tuple #[.agg #[.int .i64 p.mx, .slice A1 p.idle.length c1, .slice A2 p.held.length c2, .slice A3 p.wait.length c3], .string (ByteArray.mk #[110, 111])]) (by simp [results, Try.results93, go_sem, r310.cell]) rfl ?_
    rw [ER.out]
    exact ⟨_, _, _, _, _, _, rfl, hP.below hB306, hB306⟩
  · skip
    have ER : Hid (rSiz p o = (sized p o, tOk)) := hid (by unfold rSiz; rw [if_pos hb])
    have HK : Hid (okB ⟨o, p.idle, p.held, p.wait⟩ = true) := hid hb
    clear hb hok
    have hB311 := Below.refl w.heap.size w
    have hB312 := hB311.alloc hB311.size (.cells #[.int .i64 p.mx, .slice A1 p.idle.length c1, .slice A2 p.held.length c2, .slice A3 p.wait.length c3] 30)
    clear hB311
    have x313 : At (w.alloc (.cells #[.int .i64 p.mx, .slice A1 p.idle.length c1, .slice A2 p.held.length c2, .slice A3 p.wait.length c3] 30)) (w.heap.size) 30 #[.int .i64 p.mx, .slice A1 p.idle.length c1, .slice A2 p.held.length c2, .slice A3 p.wait.length c3] := At.newAt _ _ (by first | rfl | (simp; done) | (simp; omega))
    have hB314 := hB312.alloc hB312.size (.cells #[.int .i64 0, .slice none 0 0, .slice none 0 0, .slice none 0 0] 30)
    have x315 := x313.alloc (.cells #[.int .i64 0, .slice none 0 0, .slice none 0 0, .slice none 0 0] 30)
    clear hB312 x313
    have r316 : At ((w.alloc (.cells #[.int .i64 p.mx, .slice A1 p.idle.length c1, .slice A2 p.held.length c2, .slice A3 p.wait.length c3] 30)).alloc (.cells #[.int .i64 0, .slice none 0 0, .slice none 0 0, .slice none 0 0] 30)) (w.heap.size + 1) 30 #[.int .i64 0, .slice none 0 0, .slice none 0 0, .slice none 0 0] := At.newAt _ _ (by first | rfl | (simp; done) | (simp; omega))
    go_enter Try.func93, Try.ntmps93
    obtain ⟨p0, p1, p2, p3, pl, pf⟩ := fourS x315
    obtain ⟨q0, q1, q2, q3, ql, qf⟩ := fourS r316
    go_wp2_with fail
    with_reducible refine (icopyPool_any p A1 A2 A3 c1 c2 c3 _ (h.on hB314) (Nat.le_trans L1.out LE4) (Nat.le_trans L2.out LE4) (Nat.le_trans L3.out LE4)).mono ?_
    rintro e w1 ⟨Br1, Br2, Br3, dr1, dr2, dr3, rfl, ho, hb1⟩
    have sz1 : w.heap.size + 2 ≤ w1.heap.size := Nat.le_trans (by first | exact Nat.le_refl _ | (simp; done) | (simp; omega)) (hb1.size)
    have hB317 := hB314.trans (hb1.mono hB314.size)
    have x318 := x315.below hb1 x315.lt
    have r319 := r316.below hb1 r316.lt
    clear hB314 x315 r316
    clear p0 p1 p2 p3 pl pf q0 q1 q2 q3 ql qf
    have o320 := ho.mono (show w.heap.size + 2 ≤ _ by first | omega | (simp; done) | (simp; omega))
    clear ho
    obtain ⟨p0, p1, p2, p3, pl, pf⟩ := fourS x318
    obtain ⟨q0, q1, q2, q3, ql, qf⟩ := fourS r319
    have hB321 := hB317.alloc hB317.size (.cells #[.int .i64 o, .slice Br1 p.idle.length dr1, .slice Br2 p.held.length dr2, .slice Br3 p.wait.length dr3] 30)
    have x322 := x318.alloc (.cells #[.int .i64 o, .slice Br1 p.idle.length dr1, .slice Br2 p.held.length dr2, .slice Br3 p.wait.length dr3] 30)
    have r323 := r319.alloc (.cells #[.int .i64 o, .slice Br1 p.idle.length dr1, .slice Br2 p.held.length dr2, .slice Br3 p.wait.length dr3] 30)
    have o324 := o320.alloc (.cells #[.int .i64 o, .slice Br1 p.idle.length dr1, .slice Br2 p.held.length dr2, .slice Br3 p.wait.length dr3] 30)
    clear hB317 x318 r319 o320
    have t325 : At (w1.alloc (.cells #[.int .i64 o, .slice Br1 p.idle.length dr1, .slice Br2 p.held.length dr2, .slice Br3 p.wait.length dr3] 30)) (w1.heap.size) 30 #[.int .i64 o, .slice Br1 p.idle.length dr1, .slice Br2 p.held.length dr2, .slice Br3 p.wait.length dr3] := At.newAt _ _ (by first | rfl | (simp; done) | (simp; omega))
    have hsz : SeesP (w1.alloc (.cells #[.int .i64 o, .slice Br1 p.idle.length dr1, .slice Br2 p.held.length dr2, .slice Br3 p.wait.length dr3] 30)) ((w1.alloc (.cells #[.int .i64 o, .slice Br1 p.idle.length dr1, .slice Br2 p.held.length dr2, .slice Br3 p.wait.length dr3] 30))).heap.size Br1 Br2 Br3 ⟨o, p.idle, p.held, p.wait⟩ := o324.sees
    go_wp2_with fail
    with_reducible refine (iValidPool_any ⟨o, p.idle, p.held, p.wait⟩ Br1 Br2 Br3 dr1 dr2 dr3 _ hsz L1.out L2.out (Nat.le_trans L3.out LE4)).mono ?_
    rintro e w2 ⟨he, hb2⟩
    rw [HK.out] at he
    subst he
    have sz2 : w1.heap.size + 1 ≤ w2.heap.size := Nat.le_trans (by first | exact Nat.le_refl _ | (simp; done) | (simp; omega)) (hb2.size)
    have hB326 := hB321.trans (hb2.mono hB321.size)
    have x327 := x322.below hb2 x322.lt
    have r328 := r323.below hb2 r323.lt
    have o329 := o324.below hb2
    have t330 := t325.below hb2 t325.lt
    clear hB321 x322 r323 o324 t325
    clear p0 p1 p2 p3 pl pf q0 q1 q2 q3 ql qf
    obtain ⟨p0, p1, p2, p3, pl, pf⟩ := fourS x327
    obtain ⟨q0, q1, q2, q3, ql, qf⟩ := fourS r328
    obtain ⟨t0, t1, t2, t3, tl, tf⟩ := fourS t330
    have hB331 := below_put hB326 (grown_set w2 (w.heap.size + 1) 0 (.int .i64 o)) (by omega) (by have := hB326.size; omega)
    have x332 := x327.past (grown_set w2 (w.heap.size + 1) 0 (.int .i64 o)) (by omega)
    have o333 := o329.past r328 (grown_set w2 (w.heap.size + 1) 0 (.int .i64 o))
    have t334 := t330.past (grown_set w2 (w.heap.size + 1) 0 (.int .i64 o)) (by omega)
    have r335 : At (w2.setCell ⟨w.heap.size + 1, 0, none⟩ (.int .i64 o)) (w.heap.size + 1) 30 #[.int .i64 o, .slice none 0 0, .slice none 0 0, .slice none 0 0] := by simpa using r328.set 0 (.int .i64 o)
    clear hB326 x327 o329 t330 r328
    have hB336 := below_put hB331 (grown_set (w2.setCell ⟨w.heap.size + 1, 0, none⟩ (.int .i64 o)) (w.heap.size + 1) 1 (.slice Br1 p.idle.length dr1)) (by omega) (by have := hB331.size; omega)
    have x337 := x332.past (grown_set (w2.setCell ⟨w.heap.size + 1, 0, none⟩ (.int .i64 o)) (w.heap.size + 1) 1 (.slice Br1 p.idle.length dr1)) (by omega)
    have o338 := o333.past r335 (grown_set (w2.setCell ⟨w.heap.size + 1, 0, none⟩ (.int .i64 o)) (w.heap.size + 1) 1 (.slice Br1 p.idle.length dr1))
    have t339 := t334.past (grown_set (w2.setCell ⟨w.heap.size + 1, 0, none⟩ (.int .i64 o)) (w.heap.size + 1) 1 (.slice Br1 p.idle.length dr1)) (by omega)
    have r340 : At ((w2.setCell ⟨w.heap.size + 1, 0, none⟩ (.int .i64 o)).setCell ⟨w.heap.size + 1, 1, none⟩ (.slice Br1 p.idle.length dr1)) (w.heap.size + 1) 30 #[.int .i64 o, .slice Br1 p.idle.length dr1, .slice none 0 0, .slice none 0 0] := by simpa using r335.set 1 (.slice Br1 p.idle.length dr1)
    clear hB331 x332 o333 t334 r335
    have hB341 := below_put hB336 (grown_set ((w2.setCell ⟨w.heap.size + 1, 0, none⟩ (.int .i64 o)).setCell ⟨w.heap.size + 1, 1, none⟩ (.slice Br1 p.idle.length dr1)) (w.heap.size + 1) 2 (.slice Br2 p.held.length dr2)) (by omega) (by have := hB336.size; omega)
    have x342 := x337.past (grown_set ((w2.setCell ⟨w.heap.size + 1, 0, none⟩ (.int .i64 o)).setCell ⟨w.heap.size + 1, 1, none⟩ (.slice Br1 p.idle.length dr1)) (w.heap.size + 1) 2 (.slice Br2 p.held.length dr2)) (by omega)
    have o343 := o338.past r340 (grown_set ((w2.setCell ⟨w.heap.size + 1, 0, none⟩ (.int .i64 o)).setCell ⟨w.heap.size + 1, 1, none⟩ (.slice Br1 p.idle.length dr1)) (w.heap.size + 1) 2 (.slice Br2 p.held.length dr2))
    have t344 := t339.past (grown_set ((w2.setCell ⟨w.heap.size + 1, 0, none⟩ (.int .i64 o)).setCell ⟨w.heap.size + 1, 1, none⟩ (.slice Br1 p.idle.length dr1)) (w.heap.size + 1) 2 (.slice Br2 p.held.length dr2)) (by omega)
    have r345 : At (((w2.setCell ⟨w.heap.size + 1, 0, none⟩ (.int .i64 o)).setCell ⟨w.heap.size + 1, 1, none⟩ (.slice Br1 p.idle.length dr1)).setCell ⟨w.heap.size + 1, 2, none⟩ (.slice Br2 p.held.length dr2)) (w.heap.size + 1) 30 #[.int .i64 o, .slice Br1 p.idle.length dr1, .slice Br2 p.held.length dr2, .slice none 0 0] := by simpa using r340.set 2 (.slice Br2 p.held.length dr2)
    clear hB336 x337 o338 t339 r340
    have hB346 := below_put hB341 (grown_set (((w2.setCell ⟨w.heap.size + 1, 0, none⟩ (.int .i64 o)).setCell ⟨w.heap.size + 1, 1, none⟩ (.slice Br1 p.idle.length dr1)).setCell ⟨w.heap.size + 1, 2, none⟩ (.slice Br2 p.held.length dr2)) (w.heap.size + 1) 3 (.slice Br3 p.wait.length dr3)) (by omega) (by have := hB341.size; omega)
    have x347 := x342.past (grown_set (((w2.setCell ⟨w.heap.size + 1, 0, none⟩ (.int .i64 o)).setCell ⟨w.heap.size + 1, 1, none⟩ (.slice Br1 p.idle.length dr1)).setCell ⟨w.heap.size + 1, 2, none⟩ (.slice Br2 p.held.length dr2)) (w.heap.size + 1) 3 (.slice Br3 p.wait.length dr3)) (by omega)
    have o348 := o343.past r345 (grown_set (((w2.setCell ⟨w.heap.size + 1, 0, none⟩ (.int .i64 o)).setCell ⟨w.heap.size + 1, 1, none⟩ (.slice Br1 p.idle.length dr1)).setCell ⟨w.heap.size + 1, 2, none⟩ (.slice Br2 p.held.length dr2)) (w.heap.size + 1) 3 (.slice Br3 p.wait.length dr3))
    have t349 := t344.past (grown_set (((w2.setCell ⟨w.heap.size + 1, 0, none⟩ (.int .i64 o)).setCell ⟨w.heap.size + 1, 1, none⟩ (.slice Br1 p.idle.length dr1)).setCell ⟨w.heap.size + 1, 2, none⟩ (.slice Br2 p.held.length dr2)) (w.heap.size + 1) 3 (.slice Br3 p.wait.length dr3)) (by omega)
    have r350 : At ((((w2.setCell ⟨w.heap.size + 1, 0, none⟩ (.int .i64 o)).setCell ⟨w.heap.size + 1, 1, none⟩ (.slice Br1 p.idle.length dr1)).setCell ⟨w.heap.size + 1, 2, none⟩ (.slice Br2 p.held.length dr2)).setCell ⟨w.heap.size + 1, 3, none⟩ (.slice Br3 p.wait.length dr3)) (w.heap.size + 1) 30 #[.int .i64 o, .slice Br1 p.idle.length dr1, .slice Br2 p.held.length dr2, .slice Br3 p.wait.length dr3] := by simpa using r345.set 3 (.slice Br3 p.wait.length dr3)
    clear hB341 x342 o343 t344 r345
    go_wp2
    refine bodyPost_ret (v := .tuple #[.agg #[.int .i64 o, .slice Br1 p.idle.length dr1, .slice Br2 p.held.length dr2, .slice Br3 p.wait.length dr3], .string (ByteArray.mk #[111, 107])]) (by simp [results, Try.results93, go_sem, r350.cell]) rfl ?_
    rw [ER.out]
    exact ⟨_, _, _, _, _, _, rfl, (PolF.of_own (o348) (fun b hb => Nat.lt_of_lt_of_le (hF b hb) (by omega))).sized o, hB346⟩

end Go.Proofs.Ytehdbllpiokbnaa

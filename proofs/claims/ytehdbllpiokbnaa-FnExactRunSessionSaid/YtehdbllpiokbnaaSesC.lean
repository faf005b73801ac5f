/-
  What the program's functions answer that execute lines of a session. Condition: the pool is valid and its lists lie in memory.
-/
import Derived.Test.YtehdbllpiokbnaaSesA
import Derived.Test.YtehdbllpiokbnaaTa
import Derived.Deep.RegionHeld3

namespace Go.Proofs.Ytehdbllpiokbnaa
open Go.RowKit Txt Pol Ses

theorem PolF.imp {w : World} {F F' : Nat → Prop} {A1 A2 A3 : Option Addr} {c1 c2 c3 : Nat} {p : Pl} (h : PolF w F A1 A2 A3 c1 c2 c3 p) (hF : ∀ b, b < w.heap.size → F' b → F b) : PolF w F' A1 A2 A3 c1 c2 c3 p := ⟨⟨h.1.1.imp hF, h.1.2.1.imp hF, h.1.2.2.imp hF⟩, h.2⟩
/-- Those of a kind, and one block more. -/
def FR (F : Nat → Prop) (r : Nat) (b : Nat) : Prop := F b ∨ b = r
theorem PolF.toR {w : World} {F : Nat → Prop} {r : Nat} {A1 A2 A3 : Option Addr} {c1 c2 c3 : Nat} {p : Pl} (h : PolF w F A1 A2 A3 c1 c2 c3 p) (hr : w.heap.size ≤ r) : PolF w (FR F r) A1 A2 A3 c1 c2 c3 p := h.imp fun b hb e => by
  rcases e with e | e
  · exact e
  · omega
theorem PolF.ofR {w : World} {F : Nat → Prop} {r : Nat} {A1 A2 A3 : Option Addr} {c1 c2 c3 : Nat} {p : Pl} (h : PolF w (FR F r) A1 A2 A3 c1 c2 c3 p) : PolF w F A1 A2 A3 c1 c2 c3 p := h.imp fun _ _ e => .inl e
theorem name_ne {N M : List UInt8} (h : N ≠ M) : (N == M) = false := by simpa using h
theorem name_eq {N M : List UInt8} (h : N = M) : (N == M) = true := by simpa using h
set_option maxHeartbeats 8000000 in
set_option maxRecDepth 16384 in
theorem runCommand_any (p : Pl) (A1 A2 A3 : Option Addr) (c1 c2 c3 : Nat) (N : List UInt8) (o : Int) (F : Nat → Prop) (w : World) (hP : PolF w F A1 A2 A3 c1 c2 c3 p) (hF : ∀ b, F b → b < w.heap.size) (hok : Ok p) :
    Calls Try.prog 82 #[.agg #[.int .i64 p.mx, .slice A1 p.idle.length c1, .slice A2 p.held.length c2, .slice A3 p.wait.length c3], tx N, .int .i64 o] w (StepAns F (rCmd p N o) w) := by
  have h := hP.sees
  obtain ⟨k1, k2, k3⟩ := hP.2
  obtain ⟨L1, L2, L3⟩ := ok_2 hok
  have hPR := hP.toR (show w.heap.size ≤ w.heap.size + 1 by omega)
  unfold tx
  by_cases h0 : N = nAcq
  · skip
    have ERc : rCmd p N o = rAcq p o := by unfold rCmd; rw [if_pos h0]
    have b0 : (N == [97, 99, 113, 117, 105, 114, 101]) = true := name_eq h0
    clear h0
    obtain ⟨⟨Rp, Rt⟩, hR⟩ : ∃ R, R = rAcq p o := ⟨_, rfl⟩
    rw [← hR] at ERc
    have ER := hid ERc
    skip
    clear ERc
    have hB1 := Below.refl w.heap.size w
    have hB2 := hB1.alloc hB1.size (.cells #[.int .i64 p.mx, .slice A1 p.idle.length c1, .slice A2 p.held.length c2, .slice A3 p.wait.length c3] 30)
    clear hB1
    have x3 : At (w.alloc (.cells #[.int .i64 p.mx, .slice A1 p.idle.length c1, .slice A2 p.held.length c2, .slice A3 p.wait.length c3] 30)) (w.heap.size) 30 #[.int .i64 p.mx, .slice A1 p.idle.length c1, .slice A2 p.held.length c2, .slice A3 p.wait.length c3] := At.newAt _ _ (by first | rfl | (simp; done) | (simp; omega))
    have hB4 := hB2.alloc hB2.size (.cells #[.int .i64 0, .slice none 0 0, .slice none 0 0, .slice none 0 0] 30)
    have x5 := x3.alloc (.cells #[.int .i64 0, .slice none 0 0, .slice none 0 0, .slice none 0 0] 30)
    clear hB2 x3
    have r6 : At ((w.alloc (.cells #[.int .i64 p.mx, .slice A1 p.idle.length c1, .slice A2 p.held.length c2, .slice A3 p.wait.length c3] 30)).alloc (.cells #[.int .i64 0, .slice none 0 0, .slice none 0 0, .slice none 0 0] 30)) (w.heap.size + 1) 30 #[.int .i64 0, .slice none 0 0, .slice none 0 0, .slice none 0 0] := At.newAt _ _ (by first | rfl | (simp; done) | (simp; omega))
    go_enter Try.func82, Try.ntmps82
    have hFR : ∀ b, FR F (w.heap.size + 1) b → b < (((w.alloc (.cells #[.int .i64 p.mx, .slice A1 p.idle.length c1, .slice A2 p.held.length c2, .slice A3 p.wait.length c3] 30)).alloc (.cells #[.int .i64 0, .slice none 0 0, .slice none 0 0, .slice none 0 0] 30))).heap.size := fun b e => by
      rcases e with e | e
      · have := hF b e; simp; omega
      · simp; omega
    have cA := runAcquire_any p A1 A2 A3 c1 c2 c3 o (FR F (w.heap.size + 1)) _ (hPR.below hB4) hFR hok
    rw [← hR] at cA
    clear hR
    obtain ⟨p0, p1, p2, p3, pl, pf⟩ := fourS x5
    obtain ⟨q0, q1, q2, q3, ql, qf⟩ := fourS r6
    go_wp2_with fail
    refine (cA).mono ?_
    rintro e w1 ⟨Br1, Br2, Br3, dr1, dr2, dr3, he, hpf, hb1⟩
    replace he : e = .returned (.tuple #[.agg #[.int .i64 Rp.mx, .slice Br1 Rp.idle.length dr1, .slice Br2 Rp.held.length dr2, .slice Br3 Rp.wait.length dr3], tx Rt]) := he
    subst he
    have sz1 : w.heap.size + 2 ≤ w1.heap.size := Nat.le_trans (by first | exact Nat.le_refl _ | (simp; done) | (simp; omega)) (hb1.size)
    have hB7 := hB4.trans (hb1.mono hB4.size)
    have x8 := x5.below hb1 x5.lt
    have r9 := r6.below hb1 r6.lt
    clear hB4 x5 r6
    clear p0 p1 p2 p3 pl pf q0 q1 q2 q3 ql qf
    unfold tx
    obtain ⟨p0, p1, p2, p3, pl, pf⟩ := fourS x8
    obtain ⟨q0, q1, q2, q3, ql, qf⟩ := fourS r9
    have ne_pq : ¬ w.heap.size = w.heap.size + 1 := by omega
    have ne_qp : ¬ w.heap.size + 1 = w.heap.size := by omega
    have hp4 := put4_at (.int .i64 Rp.mx) (.slice Br1 Rp.idle.length dr1) (.slice Br2 Rp.held.length dr2) (.slice Br3 Rp.wait.length dr3) r9 rfl
    have hB10 := below_put hB7 (grown_set w1 (w.heap.size + 1) 0 (.int .i64 Rp.mx)) (by omega) (by have := hB7.size; omega)
    have x11 := x8.past (grown_set w1 (w.heap.size + 1) 0 (.int .i64 Rp.mx)) (by omega)
    have r12 : At (w1.setCell ⟨w.heap.size + 1, 0, none⟩ (.int .i64 Rp.mx)) (w.heap.size + 1) 30 #[.int .i64 Rp.mx, .slice none 0 0, .slice none 0 0, .slice none 0 0] := by simpa using r9.set 0 (.int .i64 Rp.mx)
    clear hB7 x8 r9
    have hB13 := below_put hB10 (grown_set (w1.setCell ⟨w.heap.size + 1, 0, none⟩ (.int .i64 Rp.mx)) (w.heap.size + 1) 1 (.slice Br1 Rp.idle.length dr1)) (by omega) (by have := hB10.size; omega)
    have x14 := x11.past (grown_set (w1.setCell ⟨w.heap.size + 1, 0, none⟩ (.int .i64 Rp.mx)) (w.heap.size + 1) 1 (.slice Br1 Rp.idle.length dr1)) (by omega)
    have r15 : At ((w1.setCell ⟨w.heap.size + 1, 0, none⟩ (.int .i64 Rp.mx)).setCell ⟨w.heap.size + 1, 1, none⟩ (.slice Br1 Rp.idle.length dr1)) (w.heap.size + 1) 30 #[.int .i64 Rp.mx, .slice Br1 Rp.idle.length dr1, .slice none 0 0, .slice none 0 0] := by simpa using r12.set 1 (.slice Br1 Rp.idle.length dr1)
    clear hB10 x11 r12
    have hB16 := below_put hB13 (grown_set ((w1.setCell ⟨w.heap.size + 1, 0, none⟩ (.int .i64 Rp.mx)).setCell ⟨w.heap.size + 1, 1, none⟩ (.slice Br1 Rp.idle.length dr1)) (w.heap.size + 1) 2 (.slice Br2 Rp.held.length dr2)) (by omega) (by have := hB13.size; omega)
    have x17 := x14.past (grown_set ((w1.setCell ⟨w.heap.size + 1, 0, none⟩ (.int .i64 Rp.mx)).setCell ⟨w.heap.size + 1, 1, none⟩ (.slice Br1 Rp.idle.length dr1)) (w.heap.size + 1) 2 (.slice Br2 Rp.held.length dr2)) (by omega)
    have r18 : At (((w1.setCell ⟨w.heap.size + 1, 0, none⟩ (.int .i64 Rp.mx)).setCell ⟨w.heap.size + 1, 1, none⟩ (.slice Br1 Rp.idle.length dr1)).setCell ⟨w.heap.size + 1, 2, none⟩ (.slice Br2 Rp.held.length dr2)) (w.heap.size + 1) 30 #[.int .i64 Rp.mx, .slice Br1 Rp.idle.length dr1, .slice Br2 Rp.held.length dr2, .slice none 0 0] := by simpa using r15.set 2 (.slice Br2 Rp.held.length dr2)
    clear hB13 x14 r15
    have hB19 := below_put hB16 (grown_set (((w1.setCell ⟨w.heap.size + 1, 0, none⟩ (.int .i64 Rp.mx)).setCell ⟨w.heap.size + 1, 1, none⟩ (.slice Br1 Rp.idle.length dr1)).setCell ⟨w.heap.size + 1, 2, none⟩ (.slice Br2 Rp.held.length dr2)) (w.heap.size + 1) 3 (.slice Br3 Rp.wait.length dr3)) (by omega) (by have := hB16.size; omega)
    have x20 := x17.past (grown_set (((w1.setCell ⟨w.heap.size + 1, 0, none⟩ (.int .i64 Rp.mx)).setCell ⟨w.heap.size + 1, 1, none⟩ (.slice Br1 Rp.idle.length dr1)).setCell ⟨w.heap.size + 1, 2, none⟩ (.slice Br2 Rp.held.length dr2)) (w.heap.size + 1) 3 (.slice Br3 Rp.wait.length dr3)) (by omega)
    have r21 : At ((((w1.setCell ⟨w.heap.size + 1, 0, none⟩ (.int .i64 Rp.mx)).setCell ⟨w.heap.size + 1, 1, none⟩ (.slice Br1 Rp.idle.length dr1)).setCell ⟨w.heap.size + 1, 2, none⟩ (.slice Br2 Rp.held.length dr2)).setCell ⟨w.heap.size + 1, 3, none⟩ (.slice Br3 Rp.wait.length dr3)) (w.heap.size + 1) 30 #[.int .i64 Rp.mx, .slice Br1 Rp.idle.length dr1, .slice Br2 Rp.held.length dr2, .slice Br3 Rp.wait.length dr3] := by simpa using r18.set 3 (.slice Br3 Rp.wait.length dr3)
    clear hB16 x17 r18
    have hpf2 := (hpf.grown hp4.2 (fun b e => by injection e with e; subst e; exact .inr rfl)).ofR
    go_wp2
    refine bodyPost_ret (v := .tuple #[.agg #[.int .i64 Rp.mx, .slice Br1 Rp.idle.length dr1, .slice Br2 Rp.held.length dr2, .slice Br3 Rp.wait.length dr3], .string (ByteArray.mk Rt.toArray)]) (by simp [results, Try.results82, go_sem, r21.cell]) rfl ?_
    rw [ER.out]
    exact ⟨Br1, Br2, Br3, dr1, dr2, dr3, rfl, hpf2, hB19⟩
  by_cases h1 : N = nRel
  · skip
    have ERc : rCmd p N o = rRel p o := by unfold rCmd; rw [if_neg h0, if_pos h1]
    have b0 : (N == [97, 99, 113, 117, 105, 114, 101]) = false := name_ne h0
    have b1 : (N == [114, 101, 108, 101, 97, 115, 101]) = true := name_eq h1
    clear h0 h1
    obtain ⟨⟨Rp, Rt⟩, hR⟩ : ∃ R, R = rRel p o := ⟨_, rfl⟩
    rw [← hR] at ERc
    have ER := hid ERc
    skip
    clear ERc
    have hB22 := Below.refl w.heap.size w
    have hB23 := hB22.alloc hB22.size (.cells #[.int .i64 p.mx, .slice A1 p.idle.length c1, .slice A2 p.held.length c2, .slice A3 p.wait.length c3] 30)
    clear hB22
    have x24 : At (w.alloc (.cells #[.int .i64 p.mx, .slice A1 p.idle.length c1, .slice A2 p.held.length c2, .slice A3 p.wait.length c3] 30)) (w.heap.size) 30 #[.int .i64 p.mx, .slice A1 p.idle.length c1, .slice A2 p.held.length c2, .slice A3 p.wait.length c3] := At.newAt _ _ (by first | rfl | (simp; done) | (simp; omega))
    have hB25 := hB23.alloc hB23.size (.cells #[.int .i64 0, .slice none 0 0, .slice none 0 0, .slice none 0 0] 30)
    have x26 := x24.alloc (.cells #[.int .i64 0, .slice none 0 0, .slice none 0 0, .slice none 0 0] 30)
    clear hB23 x24
    have r27 : At ((w.alloc (.cells #[.int .i64 p.mx, .slice A1 p.idle.length c1, .slice A2 p.held.length c2, .slice A3 p.wait.length c3] 30)).alloc (.cells #[.int .i64 0, .slice none 0 0, .slice none 0 0, .slice none 0 0] 30)) (w.heap.size + 1) 30 #[.int .i64 0, .slice none 0 0, .slice none 0 0, .slice none 0 0] := At.newAt _ _ (by first | rfl | (simp; done) | (simp; omega))
    go_enter Try.func82, Try.ntmps82
    have hFR : ∀ b, FR F (w.heap.size + 1) b → b < (((w.alloc (.cells #[.int .i64 p.mx, .slice A1 p.idle.length c1, .slice A2 p.held.length c2, .slice A3 p.wait.length c3] 30)).alloc (.cells #[.int .i64 0, .slice none 0 0, .slice none 0 0, .slice none 0 0] 30))).heap.size := fun b e => by
      rcases e with e | e
      · have := hF b e; simp; omega
      · simp; omega
    have cA := runRelease_any p A1 A2 A3 c1 c2 c3 o (FR F (w.heap.size + 1)) _ (hPR.below hB25) hFR hok
    rw [← hR] at cA
    clear hR
    obtain ⟨p0, p1, p2, p3, pl, pf⟩ := fourS x26
    obtain ⟨q0, q1, q2, q3, ql, qf⟩ := fourS r27
    go_wp2_with fail
    refine (cA).mono ?_
    rintro e w1 ⟨Br1, Br2, Br3, dr1, dr2, dr3, he, hpf, hb1⟩
    replace he : e = .returned (.tuple #[.agg #[.int .i64 Rp.mx, .slice Br1 Rp.idle.length dr1, .slice Br2 Rp.held.length dr2, .slice Br3 Rp.wait.length dr3], tx Rt]) := he
    subst he
    have sz1 : w.heap.size + 2 ≤ w1.heap.size := Nat.le_trans (by first | exact Nat.le_refl _ | (simp; done) | (simp; omega)) (hb1.size)
    have hB28 := hB25.trans (hb1.mono hB25.size)
    have x29 := x26.below hb1 x26.lt
    have r30 := r27.below hb1 r27.lt
    clear hB25 x26 r27
    clear p0 p1 p2 p3 pl pf q0 q1 q2 q3 ql qf
    unfold tx
    obtain ⟨p0, p1, p2, p3, pl, pf⟩ := fourS x29
    obtain ⟨q0, q1, q2, q3, ql, qf⟩ := fourS r30
    have ne_pq : ¬ w.heap.size = w.heap.size + 1 := by omega
    have ne_qp : ¬ w.heap.size + 1 = w.heap.size := by omega
    have hp4 := put4_at (.int .i64 Rp.mx) (.slice Br1 Rp.idle.length dr1) (.slice Br2 Rp.held.length dr2) (.slice Br3 Rp.wait.length dr3) r30 rfl
    have hB31 := below_put hB28 (grown_set w1 (w.heap.size + 1) 0 (.int .i64 Rp.mx)) (by omega) (by have := hB28.size; omega)
    have x32 := x29.past (grown_set w1 (w.heap.size + 1) 0 (.int .i64 Rp.mx)) (by omega)
    have r33 : At (w1.setCell ⟨w.heap.size + 1, 0, none⟩ (.int .i64 Rp.mx)) (w.heap.size + 1) 30 #[.int .i64 Rp.mx, .slice none 0 0, .slice none 0 0, .slice none 0 0] := by simpa using r30.set 0 (.int .i64 Rp.mx)
    clear hB28 x29 r30
    have hB34 := below_put hB31 (grown_set (w1.setCell ⟨w.heap.size + 1, 0, none⟩ (.int .i64 Rp.mx)) (w.heap.size + 1) 1 (.slice Br1 Rp.idle.length dr1)) (by omega) (by have := hB31.size; omega)
    have x35 := x32.past (grown_set (w1.setCell ⟨w.heap.size + 1, 0, none⟩ (.int .i64 Rp.mx)) (w.heap.size + 1) 1 (.slice Br1 Rp.idle.length dr1)) (by omega)
    have r36 : At ((w1.setCell ⟨w.heap.size + 1, 0, none⟩ (.int .i64 Rp.mx)).setCell ⟨w.heap.size + 1, 1, none⟩ (.slice Br1 Rp.idle.length dr1)) (w.heap.size + 1) 30 #[.int .i64 Rp.mx, .slice Br1 Rp.idle.length dr1, .slice none 0 0, .slice none 0 0] := by simpa using r33.set 1 (.slice Br1 Rp.idle.length dr1)
    clear hB31 x32 r33
    have hB37 := below_put hB34 (grown_set ((w1.setCell ⟨w.heap.size + 1, 0, none⟩ (.int .i64 Rp.mx)).setCell ⟨w.heap.size + 1, 1, none⟩ (.slice Br1 Rp.idle.length dr1)) (w.heap.size + 1) 2 (.slice Br2 Rp.held.length dr2)) (by omega) (by have := hB34.size; omega)
    have x38 := x35.past (grown_set ((w1.setCell ⟨w.heap.size + 1, 0, none⟩ (.int .i64 Rp.mx)).setCell ⟨w.heap.size + 1, 1, none⟩ (.slice Br1 Rp.idle.length dr1)) (w.heap.size + 1) 2 (.slice Br2 Rp.held.length dr2)) (by omega)
    have r39 : At (((w1.setCell ⟨w.heap.size + 1, 0, none⟩ (.int .i64 Rp.mx)).setCell ⟨w.heap.size + 1, 1, none⟩ (.slice Br1 Rp.idle.length dr1)).setCell ⟨w.heap.size + 1, 2, none⟩ (.slice Br2 Rp.held.length dr2)) (w.heap.size + 1) 30 #[.int .i64 Rp.mx, .slice Br1 Rp.idle.length dr1, .slice Br2 Rp.held.length dr2, .slice none 0 0] := by simpa using r36.set 2 (.slice Br2 Rp.held.length dr2)
    clear hB34 x35 r36
    have hB40 := below_put hB37 (grown_set (((w1.setCell ⟨w.heap.size + 1, 0, none⟩ (.int .i64 Rp.mx)).setCell ⟨w.heap.size + 1, 1, none⟩ (.slice Br1 Rp.idle.length dr1)).setCell ⟨w.heap.size + 1, 2, none⟩ (.slice Br2 Rp.held.length dr2)) (w.heap.size + 1) 3 (.slice Br3 Rp.wait.length dr3)) (by omega) (by have := hB37.size; omega)
    have x41 := x38.past (grown_set (((w1.setCell ⟨w.heap.size + 1, 0, none⟩ (.int .i64 Rp.mx)).setCell ⟨w.heap.size + 1, 1, none⟩ (.slice Br1 Rp.idle.length dr1)).setCell ⟨w.heap.size + 1, 2, none⟩ (.slice Br2 Rp.held.length dr2)) (w.heap.size + 1) 3 (.slice Br3 Rp.wait.length dr3)) (by omega)
    have r42 : At ((((w1.setCell ⟨w.heap.size + 1, 0, none⟩ (.int .i64 Rp.mx)).setCell ⟨w.heap.size + 1, 1, none⟩ (.slice Br1 Rp.idle.length dr1)).setCell ⟨w.heap.size + 1, 2, none⟩ (.slice Br2 Rp.held.length dr2)).setCell ⟨w.heap.size + 1, 3, none⟩ (.slice Br3 Rp.wait.length dr3)) (w.heap.size + 1) 30 #[.int .i64 Rp.mx, .slice Br1 Rp.idle.length dr1, .slice Br2 Rp.held.length dr2, .slice Br3 Rp.wait.length dr3] := by simpa using r39.set 3 (.slice Br3 Rp.wait.length dr3)
    clear hB37 x38 r39
    have hpf2 := (hpf.grown hp4.2 (fun b e => by injection e with e; subst e; exact .inr rfl)).ofR
    go_wp2
    refine bodyPost_ret (v := .tuple #[.agg #[.int .i64 Rp.mx, .slice Br1 Rp.idle.length dr1, .slice Br2 Rp.held.length dr2, .slice Br3 Rp.wait.length dr3], .string (ByteArray.mk Rt.toArray)]) (by simp [results, Try.results82, go_sem, r42.cell]) rfl ?_
    rw [ER.out]
    exact ⟨Br1, Br2, Br3, dr1, dr2, dr3, rfl, hpf2, hB40⟩
  by_cases h2 : N = nCls
  · skip
    have ERc : rCmd p N o = rCls p o := by unfold rCmd; rw [if_neg h0, if_neg h1, if_pos h2]
    have b0 : (N == [97, 99, 113, 117, 105, 114, 101]) = false := name_ne h0
    have b1 : (N == [114, 101, 108, 101, 97, 115, 101]) = false := name_ne h1
    have b2 : (N == [99, 108, 111, 115, 101]) = true := name_eq h2
    clear h0 h1 h2
    obtain ⟨⟨Rp, Rt⟩, hR⟩ : ∃ R, R = rCls p o := ⟨_, rfl⟩
    rw [← hR] at ERc
    have ER := hid ERc
    skip
    clear ERc
    have hB43 := Below.refl w.heap.size w
    have hB44 := hB43.alloc hB43.size (.cells #[.int .i64 p.mx, .slice A1 p.idle.length c1, .slice A2 p.held.length c2, .slice A3 p.wait.length c3] 30)
    clear hB43
    have x45 : At (w.alloc (.cells #[.int .i64 p.mx, .slice A1 p.idle.length c1, .slice A2 p.held.length c2, .slice A3 p.wait.length c3] 30)) (w.heap.size) 30 #[.int .i64 p.mx, .slice A1 p.idle.length c1, .slice A2 p.held.length c2, .slice A3 p.wait.length c3] := At.newAt _ _ (by first | rfl | (simp; done) | (simp; omega))
    have hB46 := hB44.alloc hB44.size (.cells #[.int .i64 0, .slice none 0 0, .slice none 0 0, .slice none 0 0] 30)
    have x47 := x45.alloc (.cells #[.int .i64 0, .slice none 0 0, .slice none 0 0, .slice none 0 0] 30)
    clear hB44 x45
    have r48 : At ((w.alloc (.cells #[.int .i64 p.mx, .slice A1 p.idle.length c1, .slice A2 p.held.length c2, .slice A3 p.wait.length c3] 30)).alloc (.cells #[.int .i64 0, .slice none 0 0, .slice none 0 0, .slice none 0 0] 30)) (w.heap.size + 1) 30 #[.int .i64 0, .slice none 0 0, .slice none 0 0, .slice none 0 0] := At.newAt _ _ (by first | rfl | (simp; done) | (simp; omega))
    go_enter Try.func82, Try.ntmps82
    have hFR : ∀ b, FR F (w.heap.size + 1) b → b < (((w.alloc (.cells #[.int .i64 p.mx, .slice A1 p.idle.length c1, .slice A2 p.held.length c2, .slice A3 p.wait.length c3] 30)).alloc (.cells #[.int .i64 0, .slice none 0 0, .slice none 0 0, .slice none 0 0] 30))).heap.size := fun b e => by
      rcases e with e | e
      · have := hF b e; simp; omega
      · simp; omega
    have cA := runClose_any p A1 A2 A3 c1 c2 c3 o (FR F (w.heap.size + 1)) _ (hPR.below hB46) hFR hok
    rw [← hR] at cA
    clear hR
    obtain ⟨p0, p1, p2, p3, pl, pf⟩ := fourS x47
    obtain ⟨q0, q1, q2, q3, ql, qf⟩ := fourS r48
    go_wp2_with fail
    refine (cA).mono ?_
    rintro e w1 ⟨Br1, Br2, Br3, dr1, dr2, dr3, he, hpf, hb1⟩
    replace he : e = .returned (.tuple #[.agg #[.int .i64 Rp.mx, .slice Br1 Rp.idle.length dr1, .slice Br2 Rp.held.length dr2, .slice Br3 Rp.wait.length dr3], tx Rt]) := he
    subst he
    have sz1 : w.heap.size + 2 ≤ w1.heap.size := Nat.le_trans (by first | exact Nat.le_refl _ | (simp; done) | (simp; omega)) (hb1.size)
    have hB49 := hB46.trans (hb1.mono hB46.size)
    have x50 := x47.below hb1 x47.lt
    have r51 := r48.below hb1 r48.lt
    clear hB46 x47 r48
    clear p0 p1 p2 p3 pl pf q0 q1 q2 q3 ql qf
    unfold tx
    obtain ⟨p0, p1, p2, p3, pl, pf⟩ := fourS x50
    obtain ⟨q0, q1, q2, q3, ql, qf⟩ := fourS r51
    have ne_pq : ¬ w.heap.size = w.heap.size + 1 := by omega
    have ne_qp : ¬ w.heap.size + 1 = w.heap.size := by omega
    have hp4 := put4_at (.int .i64 Rp.mx) (.slice Br1 Rp.idle.length dr1) (.slice Br2 Rp.held.length dr2) (.slice Br3 Rp.wait.length dr3) r51 rfl
    have hB52 := below_put hB49 (grown_set w1 (w.heap.size + 1) 0 (.int .i64 Rp.mx)) (by omega) (by have := hB49.size; omega)
    have x53 := x50.past (grown_set w1 (w.heap.size + 1) 0 (.int .i64 Rp.mx)) (by omega)
    have r54 : At (w1.setCell ⟨w.heap.size + 1, 0, none⟩ (.int .i64 Rp.mx)) (w.heap.size + 1) 30 #[.int .i64 Rp.mx, .slice none 0 0, .slice none 0 0, .slice none 0 0] := by simpa using r51.set 0 (.int .i64 Rp.mx)
    clear hB49 x50 r51
    have hB55 := below_put hB52 (grown_set (w1.setCell ⟨w.heap.size + 1, 0, none⟩ (.int .i64 Rp.mx)) (w.heap.size + 1) 1 (.slice Br1 Rp.idle.length dr1)) (by omega) (by have := hB52.size; omega)
    have x56 := x53.past (grown_set (w1.setCell ⟨w.heap.size + 1, 0, none⟩ (.int .i64 Rp.mx)) (w.heap.size + 1) 1 (.slice Br1 Rp.idle.length dr1)) (by omega)
    have r57 : At ((w1.setCell ⟨w.heap.size + 1, 0, none⟩ (.int .i64 Rp.mx)).setCell ⟨w.heap.size + 1, 1, none⟩ (.slice Br1 Rp.idle.length dr1)) (w.heap.size + 1) 30 #[.int .i64 Rp.mx, .slice Br1 Rp.idle.length dr1, .slice none 0 0, .slice none 0 0] := by simpa using r54.set 1 (.slice Br1 Rp.idle.length dr1)
    clear hB52 x53 r54
    have hB58 := below_put hB55 (grown_set ((w1.setCell ⟨w.heap.size + 1, 0, none⟩ (.int .i64 Rp.mx)).setCell ⟨w.heap.size + 1, 1, none⟩ (.slice Br1 Rp.idle.length dr1)) (w.heap.size + 1) 2 (.slice Br2 Rp.held.length dr2)) (by omega) (by have := hB55.size; omega)
    have x59 := x56.past (grown_set ((w1.setCell ⟨w.heap.size + 1, 0, none⟩ (.int .i64 Rp.mx)).setCell ⟨w.heap.size + 1, 1, none⟩ (.slice Br1 Rp.idle.length dr1)) (w.heap.size + 1) 2 (.slice Br2 Rp.held.length dr2)) (by omega)
    have r60 : At (((w1.setCell ⟨w.heap.size + 1, 0, none⟩ (.int .i64 Rp.mx)).setCell ⟨w.heap.size + 1, 1, none⟩ (.slice Br1 Rp.idle.length dr1)).setCell ⟨w.heap.size + 1, 2, none⟩ (.slice Br2 Rp.held.length dr2)) (w.heap.size + 1) 30 #[.int .i64 Rp.mx, .slice Br1 Rp.idle.length dr1, .slice Br2 Rp.held.length dr2, .slice none 0 0] := by simpa using r57.set 2 (.slice Br2 Rp.held.length dr2)
    clear hB55 x56 r57
    have hB61 := below_put hB58 (grown_set (((w1.setCell ⟨w.heap.size + 1, 0, none⟩ (.int .i64 Rp.mx)).setCell ⟨w.heap.size + 1, 1, none⟩ (.slice Br1 Rp.idle.length dr1)).setCell ⟨w.heap.size + 1, 2, none⟩ (.slice Br2 Rp.held.length dr2)) (w.heap.size + 1) 3 (.slice Br3 Rp.wait.length dr3)) (by omega) (by have := hB58.size; omega)
    have x62 := x59.past (grown_set (((w1.setCell ⟨w.heap.size + 1, 0, none⟩ (.int .i64 Rp.mx)).setCell ⟨w.heap.size + 1, 1, none⟩ (.slice Br1 Rp.idle.length dr1)).setCell ⟨w.heap.size + 1, 2, none⟩ (.slice Br2 Rp.held.length dr2)) (w.heap.size + 1) 3 (.slice Br3 Rp.wait.length dr3)) (by omega)
    have r63 : At ((((w1.setCell ⟨w.heap.size + 1, 0, none⟩ (.int .i64 Rp.mx)).setCell ⟨w.heap.size + 1, 1, none⟩ (.slice Br1 Rp.idle.length dr1)).setCell ⟨w.heap.size + 1, 2, none⟩ (.slice Br2 Rp.held.length dr2)).setCell ⟨w.heap.size + 1, 3, none⟩ (.slice Br3 Rp.wait.length dr3)) (w.heap.size + 1) 30 #[.int .i64 Rp.mx, .slice Br1 Rp.idle.length dr1, .slice Br2 Rp.held.length dr2, .slice Br3 Rp.wait.length dr3] := by simpa using r60.set 3 (.slice Br3 Rp.wait.length dr3)
    clear hB58 x59 r60
    have hpf2 := (hpf.grown hp4.2 (fun b e => by injection e with e; subst e; exact .inr rfl)).ofR
    go_wp2
    refine bodyPost_ret (v := .tuple #[.agg #[.int .i64 Rp.mx, .slice Br1 Rp.idle.length dr1, .slice Br2 Rp.held.length dr2, .slice Br3 Rp.wait.length dr3], .string (ByteArray.mk Rt.toArray)]) (by simp [results, Try.results82, go_sem, r63.cell]) rfl ?_
    rw [ER.out]
    exact ⟨Br1, Br2, Br3, dr1, dr2, dr3, rfl, hpf2, hB61⟩
  by_cases h3 : N = nSiz
  · skip
    have ERc : rCmd p N o = rSiz p o := by unfold rCmd; rw [if_neg h0, if_neg h1, if_neg h2, if_pos h3]
    have b0 : (N == [97, 99, 113, 117, 105, 114, 101]) = false := name_ne h0
    have b1 : (N == [114, 101, 108, 101, 97, 115, 101]) = false := name_ne h1
    have b2 : (N == [99, 108, 111, 115, 101]) = false := name_ne h2
    have b3 : (N == [115, 105, 122, 101]) = true := name_eq h3
    clear h0 h1 h2 h3
    obtain ⟨⟨Rp, Rt⟩, hR⟩ : ∃ R, R = rSiz p o := ⟨_, rfl⟩
    rw [← hR] at ERc
    have ER := hid ERc
    skip
    clear ERc
    have hB64 := Below.refl w.heap.size w
    have hB65 := hB64.alloc hB64.size (.cells #[.int .i64 p.mx, .slice A1 p.idle.length c1, .slice A2 p.held.length c2, .slice A3 p.wait.length c3] 30)
    clear hB64
    have x66 : At (w.alloc (.cells #[.int .i64 p.mx, .slice A1 p.idle.length c1, .slice A2 p.held.length c2, .slice A3 p.wait.length c3] 30)) (w.heap.size) 30 #[.int .i64 p.mx, .slice A1 p.idle.length c1, .slice A2 p.held.length c2, .slice A3 p.wait.length c3] := At.newAt _ _ (by first | rfl | (simp; done) | (simp; omega))
    have hB67 := hB65.alloc hB65.size (.cells #[.int .i64 0, .slice none 0 0, .slice none 0 0, .slice none 0 0] 30)
    have x68 := x66.alloc (.cells #[.int .i64 0, .slice none 0 0, .slice none 0 0, .slice none 0 0] 30)
    clear hB65 x66
    have r69 : At ((w.alloc (.cells #[.int .i64 p.mx, .slice A1 p.idle.length c1, .slice A2 p.held.length c2, .slice A3 p.wait.length c3] 30)).alloc (.cells #[.int .i64 0, .slice none 0 0, .slice none 0 0, .slice none 0 0] 30)) (w.heap.size + 1) 30 #[.int .i64 0, .slice none 0 0, .slice none 0 0, .slice none 0 0] := At.newAt _ _ (by first | rfl | (simp; done) | (simp; omega))
    go_enter Try.func82, Try.ntmps82
    have hFR : ∀ b, FR F (w.heap.size + 1) b → b < (((w.alloc (.cells #[.int .i64 p.mx, .slice A1 p.idle.length c1, .slice A2 p.held.length c2, .slice A3 p.wait.length c3] 30)).alloc (.cells #[.int .i64 0, .slice none 0 0, .slice none 0 0, .slice none 0 0] 30))).heap.size := fun b e => by
      rcases e with e | e
      · have := hF b e; simp; omega
      · simp; omega
    have cA := runSize_any p A1 A2 A3 c1 c2 c3 o (FR F (w.heap.size + 1)) _ (hPR.below hB67) hFR hok
    rw [← hR] at cA
    clear hR
    obtain ⟨p0, p1, p2, p3, pl, pf⟩ := fourS x68
    obtain ⟨q0, q1, q2, q3, ql, qf⟩ := fourS r69
    go_wp2_with fail
    refine (cA).mono ?_
    rintro e w1 ⟨Br1, Br2, Br3, dr1, dr2, dr3, he, hpf, hb1⟩
    replace he : e = .returned (.tuple #[.agg #[.int .i64 Rp.mx, .slice Br1 Rp.idle.length dr1, .slice Br2 Rp.held.length dr2, .slice Br3 Rp.wait.length dr3], tx Rt]) := he
    subst he
    have sz1 : w.heap.size + 2 ≤ w1.heap.size := Nat.le_trans (by first | exact Nat.le_refl _ | (simp; done) | (simp; omega)) (hb1.size)
    have hB70 := hB67.trans (hb1.mono hB67.size)
    have x71 := x68.below hb1 x68.lt
    have r72 := r69.below hb1 r69.lt
    clear hB67 x68 r69
    clear p0 p1 p2 p3 pl pf q0 q1 q2 q3 ql qf
    unfold tx
    obtain ⟨p0, p1, p2, p3, pl, pf⟩ := fourS x71
    obtain ⟨q0, q1, q2, q3, ql, qf⟩ := fourS r72
    have ne_pq : ¬ w.heap.size = w.heap.size + 1 := by omega
    have ne_qp : ¬ w.heap.size + 1 = w.heap.size := by omega
    have hp4 := put4_at (.int .i64 Rp.mx) (.slice Br1 Rp.idle.length dr1) (.slice Br2 Rp.held.length dr2) (.slice Br3 Rp.wait.length dr3) r72 rfl
    have hB73 := below_put hB70 (grown_set w1 (w.heap.size + 1) 0 (.int .i64 Rp.mx)) (by omega) (by have := hB70.size; omega)
    have x74 := x71.past (grown_set w1 (w.heap.size + 1) 0 (.int .i64 Rp.mx)) (by omega)
    have r75 : At (w1.setCell ⟨w.heap.size + 1, 0, none⟩ (.int .i64 Rp.mx)) (w.heap.size + 1) 30 #[.int .i64 Rp.mx, .slice none 0 0, .slice none 0 0, .slice none 0 0] := by simpa using r72.set 0 (.int .i64 Rp.mx)
    clear hB70 x71 r72
    have hB76 := below_put hB73 (grown_set (w1.setCell ⟨w.heap.size + 1, 0, none⟩ (.int .i64 Rp.mx)) (w.heap.size + 1) 1 (.slice Br1 Rp.idle.length dr1)) (by omega) (by have := hB73.size; omega)
    have x77 := x74.past (grown_set (w1.setCell ⟨w.heap.size + 1, 0, none⟩ (.int .i64 Rp.mx)) (w.heap.size + 1) 1 (.slice Br1 Rp.idle.length dr1)) (by omega)
    have r78 : At ((w1.setCell ⟨w.heap.size + 1, 0, none⟩ (.int .i64 Rp.mx)).setCell ⟨w.heap.size + 1, 1, none⟩ (.slice Br1 Rp.idle.length dr1)) (w.heap.size + 1) 30 #[.int .i64 Rp.mx, .slice Br1 Rp.idle.length dr1, .slice none 0 0, .slice none 0 0] := by simpa using r75.set 1 (.slice Br1 Rp.idle.length dr1)
    clear hB73 x74 r75
    have hB79 := below_put hB76 (grown_set ((w1.setCell ⟨w.heap.size + 1, 0, none⟩ (.int .i64 Rp.mx)).setCell ⟨w.heap.size + 1, 1, none⟩ (.slice Br1 Rp.idle.length dr1)) (w.heap.size + 1) 2 (.slice Br2 Rp.held.length dr2)) (by omega) (by have := hB76.size; omega)
    have x80 := x77.past (grown_set ((w1.setCell ⟨w.heap.size + 1, 0, none⟩ (.int .i64 Rp.mx)).setCell ⟨w.heap.size + 1, 1, none⟩ (.slice Br1 Rp.idle.length dr1)) (w.heap.size + 1) 2 (.slice Br2 Rp.held.length dr2)) (by omega)
    have r81 : At (((w1.setCell ⟨w.heap.size + 1, 0, none⟩ (.int .i64 Rp.mx)).setCell ⟨w.heap.size + 1, 1, none⟩ (.slice Br1 Rp.idle.length dr1)).setCell ⟨w.heap.size + 1, 2, none⟩ (.slice Br2 Rp.held.length dr2)) (w.heap.size + 1) 30 #[.int .i64 Rp.mx, .slice Br1 Rp.idle.length dr1, .slice Br2 Rp.held.length dr2, .slice none 0 0] := by simpa using r78.set 2 (.slice Br2 Rp.held.length dr2)
    clear hB76 x77 r78
    have hB82 := below_put hB79 (grown_set (((w1.setCell ⟨w.heap.size + 1, 0, none⟩ (.int .i64 Rp.mx)).setCell ⟨w.heap.size + 1, 1, none⟩ (.slice Br1 Rp.idle.length dr1)).setCell ⟨w.heap.size + 1, 2, none⟩ (.slice Br2 Rp.held.length dr2)) (w.heap.size + 1) 3 (.slice Br3 Rp.wait.length dr3)) (by omega) (by have := hB79.size; omega)
    have x83 := x80.past (grown_set (((w1.setCell ⟨w.heap.size + 1, 0, none⟩ (.int .i64 Rp.mx)).setCell ⟨w.heap.size + 1, 1, none⟩ (.slice Br1 Rp.idle.length dr1)).setCell ⟨w.heap.size + 1, 2, none⟩ (.slice Br2 Rp.held.length dr2)) (w.heap.size + 1) 3 (.slice Br3 Rp.wait.length dr3)) (by omega)
    have r84 : At ((((w1.setCell ⟨w.heap.size + 1, 0, none⟩ (.int .i64 Rp.mx)).setCell ⟨w.heap.size + 1, 1, none⟩ (.slice Br1 Rp.idle.length dr1)).setCell ⟨w.heap.size + 1, 2, none⟩ (.slice Br2 Rp.held.length dr2)).setCell ⟨w.heap.size + 1, 3, none⟩ (.slice Br3 Rp.wait.length dr3)) (w.heap.size + 1) 30 #[.int .i64 Rp.mx, .slice Br1 Rp.idle.length dr1, .slice Br2 Rp.held.length dr2, .slice Br3 Rp.wait.length dr3] := by simpa using r81.set 3 (.slice Br3 Rp.wait.length dr3)
    clear hB79 x80 r81
    have hpf2 := (hpf.grown hp4.2 (fun b e => by injection e with e; subst e; exact .inr rfl)).ofR
    go_wp2
    refine bodyPost_ret (v := .tuple #[.agg #[.int .i64 Rp.mx, .slice Br1 Rp.idle.length dr1, .slice Br2 Rp.held.length dr2, .slice Br3 Rp.wait.length dr3], .string (ByteArray.mk Rt.toArray)]) (by simp [results, Try.results82, go_sem, r84.cell]) rfl ?_
    rw [ER.out]
    exact ⟨Br1, Br2, Br3, dr1, dr2, dr3, rfl, hpf2, hB82⟩
  by_cases h4 : N = nHel
  · skip
    have ERc : rCmd p N o = rHel p o := by unfold rCmd; rw [if_neg h0, if_neg h1, if_neg h2, if_neg h3, if_pos h4]
    have b0 : (N == [97, 99, 113, 117, 105, 114, 101]) = false := name_ne h0
    have b1 : (N == [114, 101, 108, 101, 97, 115, 101]) = false := name_ne h1
    have b2 : (N == [99, 108, 111, 115, 101]) = false := name_ne h2
    have b3 : (N == [115, 105, 122, 101]) = false := name_ne h3
    have b4 : (N == [104, 101, 108, 100]) = true := name_eq h4
    clear h0 h1 h2 h3 h4
    obtain ⟨X, hX⟩ : ∃ X, X = heldBy p o := ⟨_, rfl⟩
    have hXl := heldBy_len p o
    have hXr := held_range (n := o) hok
    rw [← hX] at hXl hXr
    have HX := hid hX.symm
    obtain ⟨V, hV⟩ : ∃ V, V = nums X := ⟨_, rfl⟩
    have HV := hid hV.symm
    have ER : Hid (rCmd p N o = (p, V)) := hid (by rw [ERc, hV, hX]; rfl)
    have HXR := hid hXr
    have hX4 : X.length ≤ 4194304 := by omega
    clear ERc hX hV hXr hok
    have hB85 := Below.refl w.heap.size w
    have hB86 := hB85.alloc hB85.size (.cells #[.int .i64 p.mx, .slice A1 p.idle.length c1, .slice A2 p.held.length c2, .slice A3 p.wait.length c3] 30)
    clear hB85
    have x87 : At (w.alloc (.cells #[.int .i64 p.mx, .slice A1 p.idle.length c1, .slice A2 p.held.length c2, .slice A3 p.wait.length c3] 30)) (w.heap.size) 30 #[.int .i64 p.mx, .slice A1 p.idle.length c1, .slice A2 p.held.length c2, .slice A3 p.wait.length c3] := At.newAt _ _ (by first | rfl | (simp; done) | (simp; omega))
    have hB88 := hB86.alloc hB86.size (.cells #[.int .i64 0, .slice none 0 0, .slice none 0 0, .slice none 0 0] 30)
    have x89 := x87.alloc (.cells #[.int .i64 0, .slice none 0 0, .slice none 0 0, .slice none 0 0] 30)
    clear hB86 x87
    have r90 : At ((w.alloc (.cells #[.int .i64 p.mx, .slice A1 p.idle.length c1, .slice A2 p.held.length c2, .slice A3 p.wait.length c3] 30)).alloc (.cells #[.int .i64 0, .slice none 0 0, .slice none 0 0, .slice none 0 0] 30)) (w.heap.size + 1) 30 #[.int .i64 0, .slice none 0 0, .slice none 0 0, .slice none 0 0] := At.newAt _ _ (by first | rfl | (simp; done) | (simp; omega))
    go_enter Try.func82, Try.ntmps82
    have hFR : ∀ b, FR F (w.heap.size + 1) b → b < (((w.alloc (.cells #[.int .i64 p.mx, .slice A1 p.idle.length c1, .slice A2 p.held.length c2, .slice A3 p.wait.length c3] 30)).alloc (.cells #[.int .i64 0, .slice none 0 0, .slice none 0 0, .slice none 0 0] 30))).heap.size := fun b e => by
      rcases e with e | e
      · have := hF b e; simp; omega
      · simp; omega
    obtain ⟨p0, p1, p2, p3, pl, pf⟩ := fourS x89
    obtain ⟨q0, q1, q2, q3, ql, qf⟩ := fourS r90
    go_wp2_with fail
    obtain ⟨w1, hw1⟩ : ∃ w1, w1 = ((w.alloc (.cells #[.int .i64 p.mx, .slice A1 p.idle.length c1, .slice A2 p.held.length c2, .slice A3 p.wait.length c3] 30)).alloc (.cells #[.int .i64 0, .slice none 0 0, .slice none 0 0, .slice none 0 0] 30)) := ⟨_, rfl⟩
    rw [← hw1] at hB88 x89 r90 hFR ⊢
    have sz1 : w.heap.size + 2 ≤ w1.heap.size := by rw [hw1]; first | exact Nat.le_refl _ | (simp; done) | (simp; omega)
    clear hw1
    clear p0 p1 p2 p3 pl pf q0 q1 q2 q3 ql qf
    obtain ⟨y0, y1, y2, y3, yl, yf⟩ := fourS x89
    obtain ⟨n0, n1, n2, n3, nl, nf⟩ := fourS r90
    have ne1 : ¬ w.heap.size = w.heap.size + 1 := by omega
    have ne2 : ¬ w.heap.size + 1 = w.heap.size := by omega
    have hBd := hB88.drew
    have hdd := (Below.refl w1.heap.size w1).drew
    go_region_held3 (fun w' => w'.cell? ⟨w.heap.size, 0, none⟩ = some (.int .i64 p.mx) ∧ w'.cell? ⟨w.heap.size, 1, none⟩ = some (.slice A1 p.idle.length c1) ∧ w'.cell? ⟨w.heap.size, 2, none⟩ = some (.slice A2 p.held.length c2) ∧ w'.cell? ⟨w.heap.size, 3, none⟩ = some (.slice A3 p.wait.length c3))
      (first | with_reducible exact ⟨y0, y1, y2, y3⟩ | with_reducible exact ⟨u0, u1, u2, u3⟩ | with_reducible exact ⟨v0, v1, v2, v3⟩ | go_keep)
      (first
        | (go_at_call 94; (with_reducible refine (iHeldBy_any p A1 A2 A3 c1 c2 c3 o w1.drew (h.on hBd) L1.out L2.out L3.out).mono ?_); rintro e wa ⟨v, rfl, ho, hba⟩; rw [HX.out] at ho; obtain ⟨Ax, cx, rfl, hsx⟩ := ho.form; have hWa := hdd.trans (hba.mono hdd.size); obtain ⟨u0, u1, u2, u3, ul, uf⟩ := fourS (x89.below hWa x89.lt))
        | (go_at_call 39; (with_reducible refine (numbersText_any Ax cx X wa hsx hX4 HXR.out).mono ?_); rintro e wb ⟨he, hbb⟩; rw [HV.out] at he; subst he; unfold tx; have hWb := hWa.trans (hbb.mono hWa.size); obtain ⟨v0, v1, v2, v3, vl, vf⟩ := fourS (x89.below hWb x89.lt); obtain ⟨m0, m1, m2, m3, ml, mf⟩ := fourS (r90.below hWb r90.lt))
        | fail)
    all_goals
      have sz9 : w1.heap.size ≤ wb.heap.size := hWb.size
      have hB91 := hB88.trans (hWb.mono hB88.size)
      have x92 := x89.below hWb x89.lt
      have r93 := r90.below hWb r90.lt
      clear hB88 x89 r90
      have hB94 := below_put hB91 (grown_set wb (w.heap.size + 1) 0 (.int .i64 p.mx)) (by omega) (by have := hB91.size; omega)
      have x95 := x92.past (grown_set wb (w.heap.size + 1) 0 (.int .i64 p.mx)) (by omega)
      have r96 : At (wb.setCell ⟨w.heap.size + 1, 0, none⟩ (.int .i64 p.mx)) (w.heap.size + 1) 30 #[.int .i64 p.mx, .slice none 0 0, .slice none 0 0, .slice none 0 0] := by simpa using r93.set 0 (.int .i64 p.mx)
      clear hB91 x92 r93
      have hB97 := below_put hB94 (grown_set (wb.setCell ⟨w.heap.size + 1, 0, none⟩ (.int .i64 p.mx)) (w.heap.size + 1) 1 (.slice A1 p.idle.length c1)) (by omega) (by have := hB94.size; omega)
      have x98 := x95.past (grown_set (wb.setCell ⟨w.heap.size + 1, 0, none⟩ (.int .i64 p.mx)) (w.heap.size + 1) 1 (.slice A1 p.idle.length c1)) (by omega)
      have r99 : At ((wb.setCell ⟨w.heap.size + 1, 0, none⟩ (.int .i64 p.mx)).setCell ⟨w.heap.size + 1, 1, none⟩ (.slice A1 p.idle.length c1)) (w.heap.size + 1) 30 #[.int .i64 p.mx, .slice A1 p.idle.length c1, .slice none 0 0, .slice none 0 0] := by simpa using r96.set 1 (.slice A1 p.idle.length c1)
      clear hB94 x95 r96
      have hB100 := below_put hB97 (grown_set ((wb.setCell ⟨w.heap.size + 1, 0, none⟩ (.int .i64 p.mx)).setCell ⟨w.heap.size + 1, 1, none⟩ (.slice A1 p.idle.length c1)) (w.heap.size + 1) 2 (.slice A2 p.held.length c2)) (by omega) (by have := hB97.size; omega)
      have x101 := x98.past (grown_set ((wb.setCell ⟨w.heap.size + 1, 0, none⟩ (.int .i64 p.mx)).setCell ⟨w.heap.size + 1, 1, none⟩ (.slice A1 p.idle.length c1)) (w.heap.size + 1) 2 (.slice A2 p.held.length c2)) (by omega)
      have r102 : At (((wb.setCell ⟨w.heap.size + 1, 0, none⟩ (.int .i64 p.mx)).setCell ⟨w.heap.size + 1, 1, none⟩ (.slice A1 p.idle.length c1)).setCell ⟨w.heap.size + 1, 2, none⟩ (.slice A2 p.held.length c2)) (w.heap.size + 1) 30 #[.int .i64 p.mx, .slice A1 p.idle.length c1, .slice A2 p.held.length c2, .slice none 0 0] := by simpa using r99.set 2 (.slice A2 p.held.length c2)
      clear hB97 x98 r99
      have hB103 := below_put hB100 (grown_set (((wb.setCell ⟨w.heap.size + 1, 0, none⟩ (.int .i64 p.mx)).setCell ⟨w.heap.size + 1, 1, none⟩ (.slice A1 p.idle.length c1)).setCell ⟨w.heap.size + 1, 2, none⟩ (.slice A2 p.held.length c2)) (w.heap.size + 1) 3 (.slice A3 p.wait.length c3)) (by omega) (by have := hB100.size; omega)
      have x104 := x101.past (grown_set (((wb.setCell ⟨w.heap.size + 1, 0, none⟩ (.int .i64 p.mx)).setCell ⟨w.heap.size + 1, 1, none⟩ (.slice A1 p.idle.length c1)).setCell ⟨w.heap.size + 1, 2, none⟩ (.slice A2 p.held.length c2)) (w.heap.size + 1) 3 (.slice A3 p.wait.length c3)) (by omega)
      have r105 : At ((((wb.setCell ⟨w.heap.size + 1, 0, none⟩ (.int .i64 p.mx)).setCell ⟨w.heap.size + 1, 1, none⟩ (.slice A1 p.idle.length c1)).setCell ⟨w.heap.size + 1, 2, none⟩ (.slice A2 p.held.length c2)).setCell ⟨w.heap.size + 1, 3, none⟩ (.slice A3 p.wait.length c3)) (w.heap.size + 1) 30 #[.int .i64 p.mx, .slice A1 p.idle.length c1, .slice A2 p.held.length c2, .slice A3 p.wait.length c3] := by simpa using r102.set 3 (.slice A3 p.wait.length c3)
      clear hB100 x101 r102
      go_wp2
      refine bodyPost_ret (v := .tuple #[.agg #[.int .i64 p.mx, .slice A1 p.idle.length c1, .slice A2 p.held.length c2, .slice A3 p.wait.length c3], .string (ByteArray.mk V.toArray)]) (by simp [results, Try.results82, go_sem, r105.cell]) rfl ?_
      rw [ER.out]
      exact ⟨_, _, _, _, _, _, rfl, hP.below hB103, hB103⟩
  · skip
    have ER : Hid (rCmd p N o = (p, tWhat)) := hid (by unfold rCmd; rw [if_neg h0, if_neg h1, if_neg h2, if_neg h3, if_neg h4])
    have b0 : (N == [97, 99, 113, 117, 105, 114, 101]) = false := name_ne h0
    have b1 : (N == [114, 101, 108, 101, 97, 115, 101]) = false := name_ne h1
    have b2 : (N == [99, 108, 111, 115, 101]) = false := name_ne h2
    have b3 : (N == [115, 105, 122, 101]) = false := name_ne h3
    have b4 : (N == [104, 101, 108, 100]) = false := name_ne h4
    clear h0 h1 h2 h3 h4 hok
    have hB106 := Below.refl w.heap.size w
    have hB107 := hB106.alloc hB106.size (.cells #[.int .i64 p.mx, .slice A1 p.idle.length c1, .slice A2 p.held.length c2, .slice A3 p.wait.length c3] 30)
    clear hB106
    have x108 : At (w.alloc (.cells #[.int .i64 p.mx, .slice A1 p.idle.length c1, .slice A2 p.held.length c2, .slice A3 p.wait.length c3] 30)) (w.heap.size) 30 #[.int .i64 p.mx, .slice A1 p.idle.length c1, .slice A2 p.held.length c2, .slice A3 p.wait.length c3] := At.newAt _ _ (by first | rfl | (simp; done) | (simp; omega))
    have hB109 := hB107.alloc hB107.size (.cells #[.int .i64 p.mx, .slice A1 p.idle.length c1, .slice A2 p.held.length c2, .slice A3 p.wait.length c3] 30)
    have x110 := x108.alloc (.cells #[.int .i64 p.mx, .slice A1 p.idle.length c1, .slice A2 p.held.length c2, .slice A3 p.wait.length c3] 30)
    clear hB107 x108
    have r111 : At ((w.alloc (.cells #[.int .i64 p.mx, .slice A1 p.idle.length c1, .slice A2 p.held.length c2, .slice A3 p.wait.length c3] 30)).alloc (.cells #[.int .i64 p.mx, .slice A1 p.idle.length c1, .slice A2 p.held.length c2, .slice A3 p.wait.length c3] 30)) (w.heap.size + 1) 30 #[.int .i64 p.mx, .slice A1 p.idle.length c1, .slice A2 p.held.length c2, .slice A3 p.wait.length c3] := At.newAt _ _ (by first | rfl | (simp; done) | (simp; omega))
    go_enter Try.func82, Try.ntmps82
    go_wp2
    refine bodyPost_ret (v := .tuple #[.agg #[.int .i64 p.mx, .slice A1 p.idle.length c1, .slice A2 p.held.length c2, .slice A3 p.wait.length c3], .string (ByteArray.mk #[119, 104, 97, 116])]) (by simp [results, Try.results82, go_sem, r111.cell]) rfl ?_
    rw [ER.out]
    exact ⟨_, _, _, _, _, _, rfl, hP.below hB109, hB109⟩

set_option maxHeartbeats 8000000 in
set_option maxRecDepth 16384 in
theorem runLine_any (p : Pl) (A1 A2 A3 : Option Addr) (c1 c2 c3 : Nat) (l : List UInt8) (F : Nat → Prop) (w : World) (hP : PolF w F A1 A2 A3 c1 c2 c3 p) (hF : ∀ b, F b → b < w.heap.size) (hok : Ok p) (hl : l.length ≤ 4194304) :
    Calls Try.prog 64 #[.agg #[.int .i64 p.mx, .slice A1 p.idle.length c1, .slice A2 p.held.length c2, .slice A3 p.wait.length c3], tx l] w (StepAns F (rLin p l) w) := by
  have h := hP.sees
  obtain ⟨k1, k2, k3⟩ := hP.2
  obtain ⟨L1, L2, L3⟩ := ok_2 hok
  have hPR := hP.toR (show w.heap.size ≤ w.heap.size + 1 by omega)
  by_cases h2 : (spl 32 l).length = 2
  · skip
    obtain ⟨a, b, e⟩ := two_of h2
    have HT := hid (show splT l 32 2 = [a, b] by rw [splT_is (n := 2) (by decide) (Nat.le_refl _) h2, e])
    have la : a.length ≤ 4194304 := Nat.le_trans (spl_lens (c := 32) (s := l) (by rw [e]; simp)) hl
    have lb : b.length ≤ 4194304 := Nat.le_trans (spl_lens (c := 32) (s := l) (by rw [e]; simp)) hl
    obtain ⟨m, hm⟩ : ∃ m, m = num b := ⟨_, rfl⟩
    obtain ⟨⟨Rp, Rt⟩, hR⟩ : ∃ R, R = rCmd p a m := ⟨_, rfl⟩
    have ER := hid ((rLin_two (p := p) e).trans (by rw [← hm, ← hR]))
    have HM := hid hm.symm
    clear e h2 hm
    have hB112 := Below.refl w.heap.size w
    have hB113 := hB112.alloc hB112.size (.cells #[.int .i64 p.mx, .slice A1 p.idle.length c1, .slice A2 p.held.length c2, .slice A3 p.wait.length c3] 30)
    clear hB112
    have x114 : At (w.alloc (.cells #[.int .i64 p.mx, .slice A1 p.idle.length c1, .slice A2 p.held.length c2, .slice A3 p.wait.length c3] 30)) (w.heap.size) 30 #[.int .i64 p.mx, .slice A1 p.idle.length c1, .slice A2 p.held.length c2, .slice A3 p.wait.length c3] := At.newAt _ _ (by first | rfl | (simp; done) | (simp; omega))
    have hB115 := hB113.alloc hB113.size (.cells #[.int .i64 0, .slice none 0 0, .slice none 0 0, .slice none 0 0] 30)
    have x116 := x114.alloc (.cells #[.int .i64 0, .slice none 0 0, .slice none 0 0, .slice none 0 0] 30)
    clear hB113 x114
    have r117 : At ((w.alloc (.cells #[.int .i64 p.mx, .slice A1 p.idle.length c1, .slice A2 p.held.length c2, .slice A3 p.wait.length c3] 30)).alloc (.cells #[.int .i64 0, .slice none 0 0, .slice none 0 0, .slice none 0 0] 30)) (w.heap.size + 1) 30 #[.int .i64 0, .slice none 0 0, .slice none 0 0, .slice none 0 0] := At.newAt _ _ (by first | rfl | (simp; done) | (simp; omega))
    go_enter Try.func64, Try.ntmps64
    have hFR : ∀ b, FR F (w.heap.size + 1) b → b < (((w.alloc (.cells #[.int .i64 p.mx, .slice A1 p.idle.length c1, .slice A2 p.held.length c2, .slice A3 p.wait.length c3] 30)).alloc (.cells #[.int .i64 0, .slice none 0 0, .slice none 0 0, .slice none 0 0] 30))).heap.size := fun b e => by
      rcases e with e | e
      · have := hF b e; simp; omega
      · simp; omega
    have hF1 := hFR
    obtain ⟨p0, p1, p2, p3, pl, pf⟩ := fourS x116
    obtain ⟨q0, q1, q2, q3, ql, qf⟩ := fourS r117
    go_wp2_with fail
    with_reducible refine (splitText_z l 32 32 2 2 _ rfl rfl hl (by decide)).mono ?_
    rintro e w1 ⟨v, rfl, hw, hb1⟩
    rw [HT.out] at hw
    obtain ⟨Aw, cw, rfl, _, _, _⟩ := OwnS.form hw
    have sz1 : w.heap.size + 2 ≤ w1.heap.size := Nat.le_trans (by first | exact Nat.le_refl _ | (simp; done) | (simp; omega)) (hb1.size)
    have hB118 := hB115.trans (hb1.mono hB115.size)
    have x119 := x116.below hb1 x116.lt
    have r120 := r117.below hb1 r117.lt
    clear hB115 x116 r117
    clear p0 p1 p2 p3 pl pf q0 q1 q2 q3 ql qf
    rw [show ([a, b] : List (List UInt8)).length = 2 from rfl] at hw ⊢
    obtain ⟨kw, ow, rfl, hkw, q0w⟩ := hw.sees.word (k := 0) (by simp)
    obtain ⟨_, _, e9, _, q1w⟩ := hw.sees.word (k := 1) (by simp)
    injection e9 with e9
    injection e9 with e8 e9
    subst e8 e9
    rw [Nat.add_zero, show ([a, b] : List (List UInt8))[0] = a from rfl] at q0w
    rw [show ([a, b] : List (List UInt8))[1] = b from rfl] at q1w
    have c0 := fun w => parseNumber_any b w lb
    unfold tx at c0
    rw [HM.out] at c0
    have C0 := hid c0
    clear c0
    skip
    have hFd : ∀ b, FR F (w.heap.size + 1) b → b < w1.drew.heap.size := fun b e => Nat.lt_of_lt_of_le (hFR b e) hb1.size
    have hBd := hB118.drew
    have cA := runCommand_any p A1 A2 A3 c1 c2 c3 a m (FR F (w.heap.size + 1)) w1.drew (hPR.below hBd) hFd hok
    rw [← hR] at cA
    unfold tx at cA
    have CA := hid cA
    clear cA hR hFd hF1 hFR
    obtain ⟨y0, y1, y2, y3, yl, yf⟩ := fourS x119
    obtain ⟨n0, n1, n2, n3, nl, nf⟩ := fourS r120
    have ne1 : ¬ w.heap.size = w.heap.size + 1 := by omega
    have ne2 : ¬ w.heap.size + 1 = w.heap.size := by omega
    have hkl := (hw.lt kw rfl).1
    have ne3 : ¬ kw = w.heap.size + 1 := by simp at hkl; omega
    have ne4 : ¬ w.heap.size + 1 = kw := by simp at hkl; omega
    have hdd := (Below.refl w1.heap.size w1).drew
    clear hkl hw
    go_wp2_with fail
    go_region_held3 (fun w' => w'.cell? ⟨w.heap.size, 0, none⟩ = some (.int .i64 p.mx) ∧ w'.cell? ⟨w.heap.size, 1, none⟩ = some (.slice A1 p.idle.length c1) ∧ w'.cell? ⟨w.heap.size, 2, none⟩ = some (.slice A2 p.held.length c2) ∧ w'.cell? ⟨w.heap.size, 3, none⟩ = some (.slice A3 p.wait.length c3) ∧ w'.cell? ⟨kw, ow, none⟩ = some (.string (ByteArray.mk a.toArray)) ∧ w'.cell? ⟨kw, ow + 1, none⟩ = some (.string (ByteArray.mk b.toArray)))
      (first | with_reducible exact ⟨y0, y1, y2, y3, q0w, q1w⟩ | with_reducible exact ⟨u0, u1, u2, u3, s0w, s1w⟩ | go_keep)
      (first
        | (go_at_call 50; (with_reducible refine (C0.out _).mono ?_); rintro e w' ⟨rfl, rfl⟩)
        | (go_at_call 82; refine CA.out.mono ?_; rintro e wa ⟨Br1, Br2, Br3, dr1, dr2, dr3, he, hpf, hba⟩; replace he : e = .returned (.tuple #[.agg #[.int .i64 Rp.mx, .slice Br1 Rp.idle.length dr1, .slice Br2 Rp.held.length dr2, .slice Br3 Rp.wait.length dr3], tx Rt]) := he; subst he; unfold tx; have hWa := hdd.trans (hba.mono hdd.size); obtain ⟨u0, u1, u2, u3, ul, uf⟩ := fourS (x119.below hWa x119.lt); obtain ⟨m0, m1, m2, m3, ml, mf⟩ := fourS (r120.below hWa r120.lt); have s0w := ((below_cell hWa).1 kw ow hkw).trans q0w; have s1w := ((below_cell hWa).1 kw (ow + 1) hkw).trans q1w)
        | fail)
    all_goals
      have hB121 := hB118.trans (hWa.mono hB118.size)
      have x122 := x119.below hWa x119.lt
      have r123 := r120.below hWa r120.lt
      have sz9 : w1.heap.size ≤ wa.heap.size := hWa.size
      clear hB118 x119 r120
      obtain ⟨p0, p1, p2, p3, pl, pf⟩ := fourS x122
      obtain ⟨q0, q1, q2, q3, ql, qf⟩ := fourS r123
      have ne_pq : ¬ w.heap.size = w.heap.size + 1 := by omega
      have ne_qp : ¬ w.heap.size + 1 = w.heap.size := by omega
      have hp4 := put4_at (.int .i64 Rp.mx) (.slice Br1 Rp.idle.length dr1) (.slice Br2 Rp.held.length dr2) (.slice Br3 Rp.wait.length dr3) r123 rfl
      have hB124 := below_put hB121 (grown_set wa (w.heap.size + 1) 0 (.int .i64 Rp.mx)) (by omega) (by have := hB121.size; omega)
      have x125 := x122.past (grown_set wa (w.heap.size + 1) 0 (.int .i64 Rp.mx)) (by omega)
      have r126 : At (wa.setCell ⟨w.heap.size + 1, 0, none⟩ (.int .i64 Rp.mx)) (w.heap.size + 1) 30 #[.int .i64 Rp.mx, .slice none 0 0, .slice none 0 0, .slice none 0 0] := by simpa using r123.set 0 (.int .i64 Rp.mx)
      clear hB121 x122 r123
      have hB127 := below_put hB124 (grown_set (wa.setCell ⟨w.heap.size + 1, 0, none⟩ (.int .i64 Rp.mx)) (w.heap.size + 1) 1 (.slice Br1 Rp.idle.length dr1)) (by omega) (by have := hB124.size; omega)
      have x128 := x125.past (grown_set (wa.setCell ⟨w.heap.size + 1, 0, none⟩ (.int .i64 Rp.mx)) (w.heap.size + 1) 1 (.slice Br1 Rp.idle.length dr1)) (by omega)
      have r129 : At ((wa.setCell ⟨w.heap.size + 1, 0, none⟩ (.int .i64 Rp.mx)).setCell ⟨w.heap.size + 1, 1, none⟩ (.slice Br1 Rp.idle.length dr1)) (w.heap.size + 1) 30 #[.int .i64 Rp.mx, .slice Br1 Rp.idle.length dr1, .slice none 0 0, .slice none 0 0] := by simpa using r126.set 1 (.slice Br1 Rp.idle.length dr1)
      clear hB124 x125 r126
      have hB130 := below_put hB127 (grown_set ((wa.setCell ⟨w.heap.size + 1, 0, none⟩ (.int .i64 Rp.mx)).setCell ⟨w.heap.size + 1, 1, none⟩ (.slice Br1 Rp.idle.length dr1)) (w.heap.size + 1) 2 (.slice Br2 Rp.held.length dr2)) (by omega) (by have := hB127.size; omega)
      have x131 := x128.past (grown_set ((wa.setCell ⟨w.heap.size + 1, 0, none⟩ (.int .i64 Rp.mx)).setCell ⟨w.heap.size + 1, 1, none⟩ (.slice Br1 Rp.idle.length dr1)) (w.heap.size + 1) 2 (.slice Br2 Rp.held.length dr2)) (by omega)
      have r132 : At (((wa.setCell ⟨w.heap.size + 1, 0, none⟩ (.int .i64 Rp.mx)).setCell ⟨w.heap.size + 1, 1, none⟩ (.slice Br1 Rp.idle.length dr1)).setCell ⟨w.heap.size + 1, 2, none⟩ (.slice Br2 Rp.held.length dr2)) (w.heap.size + 1) 30 #[.int .i64 Rp.mx, .slice Br1 Rp.idle.length dr1, .slice Br2 Rp.held.length dr2, .slice none 0 0] := by simpa using r129.set 2 (.slice Br2 Rp.held.length dr2)
      clear hB127 x128 r129
      have hB133 := below_put hB130 (grown_set (((wa.setCell ⟨w.heap.size + 1, 0, none⟩ (.int .i64 Rp.mx)).setCell ⟨w.heap.size + 1, 1, none⟩ (.slice Br1 Rp.idle.length dr1)).setCell ⟨w.heap.size + 1, 2, none⟩ (.slice Br2 Rp.held.length dr2)) (w.heap.size + 1) 3 (.slice Br3 Rp.wait.length dr3)) (by omega) (by have := hB130.size; omega)
      have x134 := x131.past (grown_set (((wa.setCell ⟨w.heap.size + 1, 0, none⟩ (.int .i64 Rp.mx)).setCell ⟨w.heap.size + 1, 1, none⟩ (.slice Br1 Rp.idle.length dr1)).setCell ⟨w.heap.size + 1, 2, none⟩ (.slice Br2 Rp.held.length dr2)) (w.heap.size + 1) 3 (.slice Br3 Rp.wait.length dr3)) (by omega)
      have r135 : At ((((wa.setCell ⟨w.heap.size + 1, 0, none⟩ (.int .i64 Rp.mx)).setCell ⟨w.heap.size + 1, 1, none⟩ (.slice Br1 Rp.idle.length dr1)).setCell ⟨w.heap.size + 1, 2, none⟩ (.slice Br2 Rp.held.length dr2)).setCell ⟨w.heap.size + 1, 3, none⟩ (.slice Br3 Rp.wait.length dr3)) (w.heap.size + 1) 30 #[.int .i64 Rp.mx, .slice Br1 Rp.idle.length dr1, .slice Br2 Rp.held.length dr2, .slice Br3 Rp.wait.length dr3] := by simpa using r132.set 3 (.slice Br3 Rp.wait.length dr3)
      clear hB130 x131 r132
      have hpf2 := (hpf.grown hp4.2 (fun b e => by injection e with e; subst e; exact .inr rfl)).ofR
      go_wp2
      refine bodyPost_ret (v := .tuple #[.agg #[.int .i64 Rp.mx, .slice Br1 Rp.idle.length dr1, .slice Br2 Rp.held.length dr2, .slice Br3 Rp.wait.length dr3], .string (ByteArray.mk Rt.toArray)]) (by simp [results, Try.results64, go_sem, r135.cell]) rfl ?_
      rw [ER.out]
      exact ⟨Br1, Br2, Br3, dr1, dr2, dr3, rfl, hpf2, hB133⟩
  by_cases hpl : l = nPoo
  · skip
    subst hpl
    have HT := hid (show splT nPoo 32 2 = [nPoo] by rw [(splT_yes (by decide) (by rw [spl_pool]; decide)).1, spl_pool])
    have hokB := okB_iff.2 hok
    have HV := hid (show fmtP p = poT p from fmtP_yes hokB)
    obtain ⟨V, hV⟩ : ∃ V, V = poT p := ⟨_, rfl⟩
    rw [← hV] at HV
    have ER : Hid (rLin p nPoo = (p, V)) := hid (by rw [rLin_pool, hV])
    clear hV h2 hokB
    have hB136 := Below.refl w.heap.size w
    have hB137 := hB136.alloc hB136.size (.cells #[.int .i64 p.mx, .slice A1 p.idle.length c1, .slice A2 p.held.length c2, .slice A3 p.wait.length c3] 30)
    clear hB136
    have x138 : At (w.alloc (.cells #[.int .i64 p.mx, .slice A1 p.idle.length c1, .slice A2 p.held.length c2, .slice A3 p.wait.length c3] 30)) (w.heap.size) 30 #[.int .i64 p.mx, .slice A1 p.idle.length c1, .slice A2 p.held.length c2, .slice A3 p.wait.length c3] := At.newAt _ _ (by first | rfl | (simp; done) | (simp; omega))
    have hB139 := hB137.alloc hB137.size (.cells #[.int .i64 0, .slice none 0 0, .slice none 0 0, .slice none 0 0] 30)
    have x140 := x138.alloc (.cells #[.int .i64 0, .slice none 0 0, .slice none 0 0, .slice none 0 0] 30)
    clear hB137 x138
    have r141 : At ((w.alloc (.cells #[.int .i64 p.mx, .slice A1 p.idle.length c1, .slice A2 p.held.length c2, .slice A3 p.wait.length c3] 30)).alloc (.cells #[.int .i64 0, .slice none 0 0, .slice none 0 0, .slice none 0 0] 30)) (w.heap.size + 1) 30 #[.int .i64 0, .slice none 0 0, .slice none 0 0, .slice none 0 0] := At.newAt _ _ (by first | rfl | (simp; done) | (simp; omega))
    go_enter Try.func64, Try.ntmps64
    have hFR : ∀ b, FR F (w.heap.size + 1) b → b < (((w.alloc (.cells #[.int .i64 p.mx, .slice A1 p.idle.length c1, .slice A2 p.held.length c2, .slice A3 p.wait.length c3] 30)).alloc (.cells #[.int .i64 0, .slice none 0 0, .slice none 0 0, .slice none 0 0] 30))).heap.size := fun b e => by
      rcases e with e | e
      · have := hF b e; simp; omega
      · simp; omega
    obtain ⟨p0, p1, p2, p3, pl, pf⟩ := fourS x140
    obtain ⟨q0, q1, q2, q3, ql, qf⟩ := fourS r141
    go_wp2_with fail
    with_reducible refine (splitText_z nPoo 32 32 2 2 _ rfl rfl hl (by decide)).mono ?_
    rintro e w1 ⟨v, rfl, hw, hb1⟩
    rw [HT.out] at hw
    obtain ⟨Aw, cw, rfl, _, _, _⟩ := OwnS.form hw
    have sz1 : w.heap.size + 2 ≤ w1.heap.size := Nat.le_trans (by first | exact Nat.le_refl _ | (simp; done) | (simp; omega)) (hb1.size)
    have hB142 := hB139.trans (hb1.mono hB139.size)
    have x143 := x140.below hb1 x140.lt
    have r144 := r141.below hb1 r141.lt
    clear hB139 x140 r141
    clear p0 p1 p2 p3 pl pf q0 q1 q2 q3 ql qf
    rw [show ([nPoo] : List (List UInt8)).length = 1 from rfl] at hw ⊢
    obtain ⟨kw, ow, rfl, hkw, q0w⟩ := hw.sees.word (k := 0) (by simp)
    rw [Nat.add_zero, show ([nPoo] : List (List UInt8))[0] = nPoo from rfl] at q0w
    have b5 : (nPoo == [112, 111, 111, 108]) = true := by decide
    skip
    have hBd := hB142.drew
    obtain ⟨y0, y1, y2, y3, yl, yf⟩ := fourS x143
    obtain ⟨n0, n1, n2, n3, nl, nf⟩ := fourS r144
    have ne1 : ¬ w.heap.size = w.heap.size + 1 := by omega
    have ne2 : ¬ w.heap.size + 1 = w.heap.size := by omega
    have hdd := (Below.refl w1.heap.size w1).drew
    clear hw hFR
    go_wp2_with fail
    go_region_held3 (fun w' => w'.cell? ⟨w.heap.size, 0, none⟩ = some (.int .i64 p.mx) ∧ w'.cell? ⟨w.heap.size, 1, none⟩ = some (.slice A1 p.idle.length c1) ∧ w'.cell? ⟨w.heap.size, 2, none⟩ = some (.slice A2 p.held.length c2) ∧ w'.cell? ⟨w.heap.size, 3, none⟩ = some (.slice A3 p.wait.length c3))
      (first | with_reducible exact ⟨y0, y1, y2, y3⟩ | with_reducible exact ⟨u0, u1, u2, u3⟩ | go_keep)
      (first
        | (go_at_call 11; (with_reducible refine (iFormatPool_any p A1 A2 A3 c1 c2 c3 w1.drew (h.on hBd) L1.out L2.out L3.out).mono ?_); rintro e wa ⟨he, hba⟩; rw [HV.out] at he; subst he; unfold tx; have hWa := hdd.trans (hba.mono hdd.size); obtain ⟨u0, u1, u2, u3, ul, uf⟩ := fourS (x143.below hWa x143.lt); obtain ⟨m0, m1, m2, m3, ml, mf⟩ := fourS (r144.below hWa r144.lt))
        | fail)
    all_goals
      have hB145 := hB142.trans (hWa.mono hB142.size)
      have x146 := x143.below hWa x143.lt
      have r147 := r144.below hWa r144.lt
      have sz9 : w1.heap.size ≤ wa.heap.size := hWa.size
      clear hB142 x143 r144
      have hB148 := below_put hB145 (grown_set wa (w.heap.size + 1) 0 (.int .i64 p.mx)) (by omega) (by have := hB145.size; omega)
      have x149 := x146.past (grown_set wa (w.heap.size + 1) 0 (.int .i64 p.mx)) (by omega)
      have r150 : At (wa.setCell ⟨w.heap.size + 1, 0, none⟩ (.int .i64 p.mx)) (w.heap.size + 1) 30 #[.int .i64 p.mx, .slice none 0 0, .slice none 0 0, .slice none 0 0] := by simpa using r147.set 0 (.int .i64 p.mx)
      clear hB145 x146 r147
      have hB151 := below_put hB148 (grown_set (wa.setCell ⟨w.heap.size + 1, 0, none⟩ (.int .i64 p.mx)) (w.heap.size + 1) 1 (.slice A1 p.idle.length c1)) (by omega) (by have := hB148.size; omega)
      have x152 := x149.past (grown_set (wa.setCell ⟨w.heap.size + 1, 0, none⟩ (.int .i64 p.mx)) (w.heap.size + 1) 1 (.slice A1 p.idle.length c1)) (by omega)
      have r153 : At ((wa.setCell ⟨w.heap.size + 1, 0, none⟩ (.int .i64 p.mx)).setCell ⟨w.heap.size + 1, 1, none⟩ (.slice A1 p.idle.length c1)) (w.heap.size + 1) 30 #[.int .i64 p.mx, .slice A1 p.idle.length c1, .slice none 0 0, .slice none 0 0] := by simpa using r150.set 1 (.slice A1 p.idle.length c1)
      clear hB148 x149 r150
      have hB154 := below_put hB151 (grown_set ((wa.setCell ⟨w.heap.size + 1, 0, none⟩ (.int .i64 p.mx)).setCell ⟨w.heap.size + 1, 1, none⟩ (.slice A1 p.idle.length c1)) (w.heap.size + 1) 2 (.slice A2 p.held.length c2)) (by omega) (by have := hB151.size; omega)
      have x155 := x152.past (grown_set ((wa.setCell ⟨w.heap.size + 1, 0, none⟩ (.int .i64 p.mx)).setCell ⟨w.heap.size + 1, 1, none⟩ (.slice A1 p.idle.length c1)) (w.heap.size + 1) 2 (.slice A2 p.held.length c2)) (by omega)
      have r156 : At (((wa.setCell ⟨w.heap.size + 1, 0, none⟩ (.int .i64 p.mx)).setCell ⟨w.heap.size + 1, 1, none⟩ (.slice A1 p.idle.length c1)).setCell ⟨w.heap.size + 1, 2, none⟩ (.slice A2 p.held.length c2)) (w.heap.size + 1) 30 #[.int .i64 p.mx, .slice A1 p.idle.length c1, .slice A2 p.held.length c2, .slice none 0 0] := by simpa using r153.set 2 (.slice A2 p.held.length c2)
      clear hB151 x152 r153
      have hB157 := below_put hB154 (grown_set (((wa.setCell ⟨w.heap.size + 1, 0, none⟩ (.int .i64 p.mx)).setCell ⟨w.heap.size + 1, 1, none⟩ (.slice A1 p.idle.length c1)).setCell ⟨w.heap.size + 1, 2, none⟩ (.slice A2 p.held.length c2)) (w.heap.size + 1) 3 (.slice A3 p.wait.length c3)) (by omega) (by have := hB154.size; omega)
      have x158 := x155.past (grown_set (((wa.setCell ⟨w.heap.size + 1, 0, none⟩ (.int .i64 p.mx)).setCell ⟨w.heap.size + 1, 1, none⟩ (.slice A1 p.idle.length c1)).setCell ⟨w.heap.size + 1, 2, none⟩ (.slice A2 p.held.length c2)) (w.heap.size + 1) 3 (.slice A3 p.wait.length c3)) (by omega)
      have r159 : At ((((wa.setCell ⟨w.heap.size + 1, 0, none⟩ (.int .i64 p.mx)).setCell ⟨w.heap.size + 1, 1, none⟩ (.slice A1 p.idle.length c1)).setCell ⟨w.heap.size + 1, 2, none⟩ (.slice A2 p.held.length c2)).setCell ⟨w.heap.size + 1, 3, none⟩ (.slice A3 p.wait.length c3)) (w.heap.size + 1) 30 #[.int .i64 p.mx, .slice A1 p.idle.length c1, .slice A2 p.held.length c2, .slice A3 p.wait.length c3] := by simpa using r156.set 3 (.slice A3 p.wait.length c3)
      clear hB154 x155 r156
      go_wp2
      refine bodyPost_ret (v := .tuple #[.agg #[.int .i64 p.mx, .slice A1 p.idle.length c1, .slice A2 p.held.length c2, .slice A3 p.wait.length c3], .string (ByteArray.mk V.toArray)]) (by simp [results, Try.results64, go_sem, r159.cell]) rfl ?_
      rw [ER.out]
      exact ⟨_, _, _, _, _, _, rfl, hP.below hB157, hB157⟩
  · skip
    have ER := hid (rLin_what (p := p) h2 hpl)
    have hb5 : (l == [112, 111, 111, 108]) = false := name_ne hpl
    have hT : splT l 32 2 = [l] ∨ splT l 32 2 = [] := by
      by_cases h0 : l = []
      · subst h0; exact .inr (splT_nil _ _)
      · by_cases h1 : (spl 32 l).length ≤ 2
        · left
          rw [(splT_yes h0 h1).1]
          have hp := spl_pos 32 l
          obtain ⟨y, hy⟩ : ∃ y, spl 32 l = [y] := by
            match hs : spl 32 l, h2, h1, hp with
            | [y], _, _, _ => exact ⟨y, rfl⟩
            | [_, _], h2, _, _ => exact absurd rfl h2
          rw [hy, spl_single hy]
        · exact .inr (splT_no h0 h1).1
    clear h2 hpl hok
    rcases hT with hT | hT
    · skip
      have HT := hid hT
      clear hT
      have hB160 := Below.refl w.heap.size w
      have hB161 := hB160.alloc hB160.size (.cells #[.int .i64 p.mx, .slice A1 p.idle.length c1, .slice A2 p.held.length c2, .slice A3 p.wait.length c3] 30)
      clear hB160
      have x162 : At (w.alloc (.cells #[.int .i64 p.mx, .slice A1 p.idle.length c1, .slice A2 p.held.length c2, .slice A3 p.wait.length c3] 30)) (w.heap.size) 30 #[.int .i64 p.mx, .slice A1 p.idle.length c1, .slice A2 p.held.length c2, .slice A3 p.wait.length c3] := At.newAt _ _ (by first | rfl | (simp; done) | (simp; omega))
      have hB163 := hB161.alloc hB161.size (.cells #[.int .i64 0, .slice none 0 0, .slice none 0 0, .slice none 0 0] 30)
      have x164 := x162.alloc (.cells #[.int .i64 0, .slice none 0 0, .slice none 0 0, .slice none 0 0] 30)
      clear hB161 x162
      have r165 : At ((w.alloc (.cells #[.int .i64 p.mx, .slice A1 p.idle.length c1, .slice A2 p.held.length c2, .slice A3 p.wait.length c3] 30)).alloc (.cells #[.int .i64 0, .slice none 0 0, .slice none 0 0, .slice none 0 0] 30)) (w.heap.size + 1) 30 #[.int .i64 0, .slice none 0 0, .slice none 0 0, .slice none 0 0] := At.newAt _ _ (by first | rfl | (simp; done) | (simp; omega))
      go_enter Try.func64, Try.ntmps64
      have hFR : ∀ b, FR F (w.heap.size + 1) b → b < (((w.alloc (.cells #[.int .i64 p.mx, .slice A1 p.idle.length c1, .slice A2 p.held.length c2, .slice A3 p.wait.length c3] 30)).alloc (.cells #[.int .i64 0, .slice none 0 0, .slice none 0 0, .slice none 0 0] 30))).heap.size := fun b e => by
        rcases e with e | e
        · have := hF b e; simp; omega
        · simp; omega
      obtain ⟨p0, p1, p2, p3, pl, pf⟩ := fourS x164
      obtain ⟨q0, q1, q2, q3, ql, qf⟩ := fourS r165
      go_wp2_with fail
      with_reducible refine (splitText_z l 32 32 2 2 _ rfl rfl hl (by decide)).mono ?_
      rintro e w1 ⟨v, rfl, hw, hb1⟩
      rw [HT.out] at hw
      obtain ⟨Aw, cw, rfl, _, _, _⟩ := OwnS.form hw
      have sz1 : w.heap.size + 2 ≤ w1.heap.size := Nat.le_trans (by first | exact Nat.le_refl _ | (simp; done) | (simp; omega)) (hb1.size)
      have hB166 := hB163.trans (hb1.mono hB163.size)
      have x167 := x164.below hb1 x164.lt
      have r168 := r165.below hb1 r165.lt
      clear hB163 x164 r165
      clear p0 p1 p2 p3 pl pf q0 q1 q2 q3 ql qf
      rw [show ([l] : List (List UInt8)).length = 1 from rfl] at hw ⊢
      obtain ⟨kw, ow, rfl, hkw, q0w⟩ := hw.sees.word (k := 0) (by simp)
      rw [Nat.add_zero, show ([l] : List (List UInt8))[0] = l from rfl] at q0w
      clear hw hFR
      obtain ⟨p0, p1, p2, p3, pl, pf⟩ := fourS x167
      obtain ⟨q0, q1, q2, q3, ql, qf⟩ := fourS r168
      have hB169 := below_put hB166 (grown_set w1 (w.heap.size + 1) 0 (.int .i64 p.mx)) (by omega) (by have := hB166.size; omega)
      have x170 := x167.past (grown_set w1 (w.heap.size + 1) 0 (.int .i64 p.mx)) (by omega)
      have r171 : At (w1.setCell ⟨w.heap.size + 1, 0, none⟩ (.int .i64 p.mx)) (w.heap.size + 1) 30 #[.int .i64 p.mx, .slice none 0 0, .slice none 0 0, .slice none 0 0] := by simpa using r168.set 0 (.int .i64 p.mx)
      clear hB166 x167 r168
      have hB172 := below_put hB169 (grown_set (w1.setCell ⟨w.heap.size + 1, 0, none⟩ (.int .i64 p.mx)) (w.heap.size + 1) 1 (.slice A1 p.idle.length c1)) (by omega) (by have := hB169.size; omega)
      have x173 := x170.past (grown_set (w1.setCell ⟨w.heap.size + 1, 0, none⟩ (.int .i64 p.mx)) (w.heap.size + 1) 1 (.slice A1 p.idle.length c1)) (by omega)
      have r174 : At ((w1.setCell ⟨w.heap.size + 1, 0, none⟩ (.int .i64 p.mx)).setCell ⟨w.heap.size + 1, 1, none⟩ (.slice A1 p.idle.length c1)) (w.heap.size + 1) 30 #[.int .i64 p.mx, .slice A1 p.idle.length c1, .slice none 0 0, .slice none 0 0] := by simpa using r171.set 1 (.slice A1 p.idle.length c1)
      clear hB169 x170 r171
      have hB175 := below_put hB172 (grown_set ((w1.setCell ⟨w.heap.size + 1, 0, none⟩ (.int .i64 p.mx)).setCell ⟨w.heap.size + 1, 1, none⟩ (.slice A1 p.idle.length c1)) (w.heap.size + 1) 2 (.slice A2 p.held.length c2)) (by omega) (by have := hB172.size; omega)
      have x176 := x173.past (grown_set ((w1.setCell ⟨w.heap.size + 1, 0, none⟩ (.int .i64 p.mx)).setCell ⟨w.heap.size + 1, 1, none⟩ (.slice A1 p.idle.length c1)) (w.heap.size + 1) 2 (.slice A2 p.held.length c2)) (by omega)
      have r177 : At (((w1.setCell ⟨w.heap.size + 1, 0, none⟩ (.int .i64 p.mx)).setCell ⟨w.heap.size + 1, 1, none⟩ (.slice A1 p.idle.length c1)).setCell ⟨w.heap.size + 1, 2, none⟩ (.slice A2 p.held.length c2)) (w.heap.size + 1) 30 #[.int .i64 p.mx, .slice A1 p.idle.length c1, .slice A2 p.held.length c2, .slice none 0 0] := by simpa using r174.set 2 (.slice A2 p.held.length c2)
      clear hB172 x173 r174
      have hB178 := below_put hB175 (grown_set (((w1.setCell ⟨w.heap.size + 1, 0, none⟩ (.int .i64 p.mx)).setCell ⟨w.heap.size + 1, 1, none⟩ (.slice A1 p.idle.length c1)).setCell ⟨w.heap.size + 1, 2, none⟩ (.slice A2 p.held.length c2)) (w.heap.size + 1) 3 (.slice A3 p.wait.length c3)) (by omega) (by have := hB175.size; omega)
      have x179 := x176.past (grown_set (((w1.setCell ⟨w.heap.size + 1, 0, none⟩ (.int .i64 p.mx)).setCell ⟨w.heap.size + 1, 1, none⟩ (.slice A1 p.idle.length c1)).setCell ⟨w.heap.size + 1, 2, none⟩ (.slice A2 p.held.length c2)) (w.heap.size + 1) 3 (.slice A3 p.wait.length c3)) (by omega)
      have r180 : At ((((w1.setCell ⟨w.heap.size + 1, 0, none⟩ (.int .i64 p.mx)).setCell ⟨w.heap.size + 1, 1, none⟩ (.slice A1 p.idle.length c1)).setCell ⟨w.heap.size + 1, 2, none⟩ (.slice A2 p.held.length c2)).setCell ⟨w.heap.size + 1, 3, none⟩ (.slice A3 p.wait.length c3)) (w.heap.size + 1) 30 #[.int .i64 p.mx, .slice A1 p.idle.length c1, .slice A2 p.held.length c2, .slice A3 p.wait.length c3] := by simpa using r177.set 3 (.slice A3 p.wait.length c3)
      clear hB175 x176 r177
      go_wp2
      refine bodyPost_ret (v := .tuple #[.agg #[.int .i64 p.mx, .slice A1 p.idle.length c1, .slice A2 p.held.length c2, .slice A3 p.wait.length c3], .string (ByteArray.mk #[119, 104, 97, 116])]) (by simp [results, Try.results64, go_sem, r180.cell]) rfl ?_
      rw [ER.out]
      exact ⟨_, _, _, _, _, _, rfl, hP.below hB178, hB178⟩
    · skip
      have HT := hid hT
      clear hT
      have hB181 := Below.refl w.heap.size w
      have hB182 := hB181.alloc hB181.size (.cells #[.int .i64 p.mx, .slice A1 p.idle.length c1, .slice A2 p.held.length c2, .slice A3 p.wait.length c3] 30)
      clear hB181
      have x183 : At (w.alloc (.cells #[.int .i64 p.mx, .slice A1 p.idle.length c1, .slice A2 p.held.length c2, .slice A3 p.wait.length c3] 30)) (w.heap.size) 30 #[.int .i64 p.mx, .slice A1 p.idle.length c1, .slice A2 p.held.length c2, .slice A3 p.wait.length c3] := At.newAt _ _ (by first | rfl | (simp; done) | (simp; omega))
      have hB184 := hB182.alloc hB182.size (.cells #[.int .i64 0, .slice none 0 0, .slice none 0 0, .slice none 0 0] 30)
      have x185 := x183.alloc (.cells #[.int .i64 0, .slice none 0 0, .slice none 0 0, .slice none 0 0] 30)
      clear hB182 x183
      have r186 : At ((w.alloc (.cells #[.int .i64 p.mx, .slice A1 p.idle.length c1, .slice A2 p.held.length c2, .slice A3 p.wait.length c3] 30)).alloc (.cells #[.int .i64 0, .slice none 0 0, .slice none 0 0, .slice none 0 0] 30)) (w.heap.size + 1) 30 #[.int .i64 0, .slice none 0 0, .slice none 0 0, .slice none 0 0] := At.newAt _ _ (by first | rfl | (simp; done) | (simp; omega))
      go_enter Try.func64, Try.ntmps64
      have hFR : ∀ b, FR F (w.heap.size + 1) b → b < (((w.alloc (.cells #[.int .i64 p.mx, .slice A1 p.idle.length c1, .slice A2 p.held.length c2, .slice A3 p.wait.length c3] 30)).alloc (.cells #[.int .i64 0, .slice none 0 0, .slice none 0 0, .slice none 0 0] 30))).heap.size := fun b e => by
        rcases e with e | e
        · have := hF b e; simp; omega
        · simp; omega
      obtain ⟨p0, p1, p2, p3, pl, pf⟩ := fourS x185
      obtain ⟨q0, q1, q2, q3, ql, qf⟩ := fourS r186
      go_wp2_with fail
      with_reducible refine (splitText_z l 32 32 2 2 _ rfl rfl hl (by decide)).mono ?_
      rintro e w1 ⟨v, rfl, hw, hb1⟩
      rw [HT.out] at hw
      obtain ⟨Aw, cw, rfl, _, _, _⟩ := OwnS.form hw
      have sz1 : w.heap.size + 2 ≤ w1.heap.size := Nat.le_trans (by first | exact Nat.le_refl _ | (simp; done) | (simp; omega)) (hb1.size)
      have hB187 := hB184.trans (hb1.mono hB184.size)
      have x188 := x185.below hb1 x185.lt
      have r189 := r186.below hb1 r186.lt
      clear hB184 x185 r186
      clear p0 p1 p2 p3 pl pf q0 q1 q2 q3 ql qf
      rw [show ([] : List (List UInt8)).length = 0 from rfl] at hw ⊢
      clear hw hFR
      obtain ⟨p0, p1, p2, p3, pl, pf⟩ := fourS x188
      obtain ⟨q0, q1, q2, q3, ql, qf⟩ := fourS r189
      have hB190 := below_put hB187 (grown_set w1 (w.heap.size + 1) 0 (.int .i64 p.mx)) (by omega) (by have := hB187.size; omega)
      have x191 := x188.past (grown_set w1 (w.heap.size + 1) 0 (.int .i64 p.mx)) (by omega)
      have r192 : At (w1.setCell ⟨w.heap.size + 1, 0, none⟩ (.int .i64 p.mx)) (w.heap.size + 1) 30 #[.int .i64 p.mx, .slice none 0 0, .slice none 0 0, .slice none 0 0] := by simpa using r189.set 0 (.int .i64 p.mx)
      clear hB187 x188 r189
      have hB193 := below_put hB190 (grown_set (w1.setCell ⟨w.heap.size + 1, 0, none⟩ (.int .i64 p.mx)) (w.heap.size + 1) 1 (.slice A1 p.idle.length c1)) (by omega) (by have := hB190.size; omega)
      have x194 := x191.past (grown_set (w1.setCell ⟨w.heap.size + 1, 0, none⟩ (.int .i64 p.mx)) (w.heap.size + 1) 1 (.slice A1 p.idle.length c1)) (by omega)
      have r195 : At ((w1.setCell ⟨w.heap.size + 1, 0, none⟩ (.int .i64 p.mx)).setCell ⟨w.heap.size + 1, 1, none⟩ (.slice A1 p.idle.length c1)) (w.heap.size + 1) 30 #[.int .i64 p.mx, .slice A1 p.idle.length c1, .slice none 0 0, .slice none 0 0] := by simpa using r192.set 1 (.slice A1 p.idle.length c1)
      clear hB190 x191 r192
      have hB196 := below_put hB193 (grown_set ((w1.setCell ⟨w.heap.size + 1, 0, none⟩ (.int .i64 p.mx)).setCell ⟨w.heap.size + 1, 1, none⟩ (.slice A1 p.idle.length c1)) (w.heap.size + 1) 2 (.slice A2 p.held.length c2)) (by omega) (by have := hB193.size; omega)
      have x197 := x194.past (grown_set ((w1.setCell ⟨w.heap.size + 1, 0, none⟩ (.int .i64 p.mx)).setCell ⟨w.heap.size + 1, 1, none⟩ (.slice A1 p.idle.length c1)) (w.heap.size + 1) 2 (.slice A2 p.held.length c2)) (by omega)
      have r198 : At (((w1.setCell ⟨w.heap.size + 1, 0, none⟩ (.int .i64 p.mx)).setCell ⟨w.heap.size + 1, 1, none⟩ (.slice A1 p.idle.length c1)).setCell ⟨w.heap.size + 1, 2, none⟩ (.slice A2 p.held.length c2)) (w.heap.size + 1) 30 #[.int .i64 p.mx, .slice A1 p.idle.length c1, .slice A2 p.held.length c2, .slice none 0 0] := by simpa using r195.set 2 (.slice A2 p.held.length c2)
      clear hB193 x194 r195
      have hB199 := below_put hB196 (grown_set (((w1.setCell ⟨w.heap.size + 1, 0, none⟩ (.int .i64 p.mx)).setCell ⟨w.heap.size + 1, 1, none⟩ (.slice A1 p.idle.length c1)).setCell ⟨w.heap.size + 1, 2, none⟩ (.slice A2 p.held.length c2)) (w.heap.size + 1) 3 (.slice A3 p.wait.length c3)) (by omega) (by have := hB196.size; omega)
      have x200 := x197.past (grown_set (((w1.setCell ⟨w.heap.size + 1, 0, none⟩ (.int .i64 p.mx)).setCell ⟨w.heap.size + 1, 1, none⟩ (.slice A1 p.idle.length c1)).setCell ⟨w.heap.size + 1, 2, none⟩ (.slice A2 p.held.length c2)) (w.heap.size + 1) 3 (.slice A3 p.wait.length c3)) (by omega)
      have r201 : At ((((w1.setCell ⟨w.heap.size + 1, 0, none⟩ (.int .i64 p.mx)).setCell ⟨w.heap.size + 1, 1, none⟩ (.slice A1 p.idle.length c1)).setCell ⟨w.heap.size + 1, 2, none⟩ (.slice A2 p.held.length c2)).setCell ⟨w.heap.size + 1, 3, none⟩ (.slice A3 p.wait.length c3)) (w.heap.size + 1) 30 #[.int .i64 p.mx, .slice A1 p.idle.length c1, .slice A2 p.held.length c2, .slice A3 p.wait.length c3] := by simpa using r198.set 3 (.slice A3 p.wait.length c3)
      clear hB196 x197 r198
      go_wp2
      refine bodyPost_ret (v := .tuple #[.agg #[.int .i64 p.mx, .slice A1 p.idle.length c1, .slice A2 p.held.length c2, .slice A3 p.wait.length c3], .string (ByteArray.mk #[119, 104, 97, 116])]) (by simp [results, Try.results64, go_sem, r201.cell]) rfl ?_
      rw [ER.out]
      exact ⟨_, _, _, _, _, _, rfl, hP.below hB199, hB199⟩

end Go.Proofs.Ytehdbllpiokbnaa

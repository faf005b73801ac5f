/-
  Only the blocks from lo to hi have changed: what is kept of lists and pools of the call's own. No condition.
-/
import Derived.Test.YtehdbllpiokbnaaPlA
import Derived.Test.YtehdbllpiokbnaaMidW
import Derived.Test.YtehdbllpiokbnaaExG
import Derived.Test.YtehdbllpiokbnaaSsHoldG
namespace Go.Proofs.Ytehdbllpiokbnaa
open Go.RowKit Pol

theorem OwnP.mid {lo hi : Nat} {w w' : World} {base : Nat} {A1 A2 A3 : Option Addr} {c1 c2 c3 : Nat} {p : Pl} (h : OwnP w base A1 A2 A3 c1 c2 c3 p) (hm : Mid lo hi w w')
    (h1 : ∀ k, (Value.slice A1 p.idle.length c1).ownBlock = some k → k < lo ∨ hi ≤ k) (h2 : ∀ k, (Value.slice A2 p.held.length c2).ownBlock = some k → k < lo ∨ hi ≤ k) (h3 : ∀ k, (Value.slice A3 p.wait.length c3).ownBlock = some k → k < lo ∨ hi ≤ k) : OwnP w' base A1 A2 A3 c1 c2 c3 p :=
  ⟨row_mid h.1 hm h1, row_mid h.2.1 hm h2, row_mid h.2.2.1 hm h3, h.2.2.2⟩
/-- The three lists lie in blocks from base to the end of the memory. -/
theorem OwnP.lt1 {w : World} {base : Nat} {A1 A2 A3 : Option Addr} {c1 c2 c3 : Nat} {p : Pl} (h : OwnP w base A1 A2 A3 c1 c2 c3 p) : ∀ k, (Value.slice A1 p.idle.length c1).ownBlock = some k → base ≤ k ∧ k < w.heap.size := fun k hk => h.1.out.lt k hk
theorem OwnP.lt2 {w : World} {base : Nat} {A1 A2 A3 : Option Addr} {c1 c2 c3 : Nat} {p : Pl} (h : OwnP w base A1 A2 A3 c1 c2 c3 p) : ∀ k, (Value.slice A2 p.held.length c2).ownBlock = some k → base ≤ k ∧ k < w.heap.size := fun k hk => h.2.1.out.lt k hk
theorem OwnP.lt3 {w : World} {base : Nat} {A1 A2 A3 : Option Addr} {c1 c2 c3 : Nat} {p : Pl} (h : OwnP w base A1 A2 A3 c1 c2 c3 p) : ∀ k, (Value.slice A3 p.wait.length c3).ownBlock = some k → base ≤ k ∧ k < w.heap.size := fun k hk => h.2.2.1.out.lt k hk

/-- A pool whose lists have been marked. -/
def Pol.Pl.marked (p : Pl) : Pl := ⟨p.mx, marksG 1 p.idle.length, Ho.marksG (1 + p.idle.length) p.held.length, marksG (1 + p.idle.length + 2 * p.held.length) p.wait.length⟩
def Pol.Pl.count (p : Pl) : Int := 1 + p.idle.length + 2 * p.held.length + p.wait.length

set_option maxHeartbeats 1000000 in
theorem szPool_any (A1 A2 A3 : Option Addr) (n1 n2 n3 c1 c2 c3 : Nat) (m : Int) (w : World) (h1 : n1 ≤ maxLen) (h2 : n2 ≤ maxLen) (h3 : n3 ≤ maxLen) :
    Calls Try.prog 8 #[.agg #[.int .i64 m, .slice A1 n1 c1, .slice A2 n2 c2, .slice A3 n3 c3], .int .i64 1048576] w fun e w' => e = .returned (.int .i64 (if 1048576 < n1 + n2 + n3 then -1 else 1048576 - ((n1 + n2 + n3 : Nat) : Int))) ∧ Below w.heap.size w w' := by
  obtain ⟨V, hV⟩ : ∃ V : Int, V = (if 1048576 < n1 + n2 + n3 then -1 else 1048576 - ((n1 + n2 + n3 : Nat) : Int)) := ⟨_, rfl⟩
  rw [← hV]
  have HV := hid hV
  clear hV
  have H1 := hid h1
  have H2 := hid h2
  have H3 := hid h3
  clear h1 h2 h3
  have hb := (Below.refl w.heap.size w).alloc (Nat.le_refl _) (.cells #[.int .i64 m, .slice A1 n1 c1, .slice A2 n2 c2, .slice A3 n3 c3] 25)
  go_enter Try.func8, Try.ntmps8
  by_cases x1 : 1048576 < n1
  · have E : Hid ((if 1048576 < n1 then (-1 : Int) else ((1048576 : Nat) : Int) - n1) = -1) := hid (if_pos x1)
    go_wp2_with fail
    refine (szIntS_g A1 n1 c1 1048576 _ H1.out (by omega)).mono ?_
    rintro e w1 ⟨he, rfl⟩
    rw [E.out] at he
    subst he
    go_wp2
    go_ret
    exact ⟨ret_int (by rw [HV.out, if_pos (by omega)]), hb⟩
  · have E : Hid ((if 1048576 < n1 then (-1 : Int) else ((1048576 : Nat) : Int) - n1) = ((1048576 - n1 : Nat) : Int)) := hid ((if_neg x1).trans (by omega))
    have y1 : ¬ ((1048576 - n1 : Nat) : Int) < 0 := by omega
    obtain ⟨r1, hr1⟩ : ∃ r1, r1 = 1048576 - n1 := ⟨_, rfl⟩
    rw [← hr1] at E y1
    have HR1 := hid hr1
    clear hr1
    go_wp2_with fail
    refine (szIntS_g A1 n1 c1 1048576 _ H1.out (by omega)).mono ?_
    rintro e w1 ⟨he, rfl⟩
    rw [E.out] at he
    subst he
    by_cases x2 : r1 < n2
    · have E2 : Hid ((if r1 < n2 then (-1 : Int) else (r1 : Int) - n2) = -1) := hid (if_pos x2)
      go_wp2_with fail
      refine (szHoldS_g A2 n2 c2 r1 _ H2.out (by have := HR1.out; omega)).mono ?_
      rintro e w1 ⟨he, rfl⟩
      rw [E2.out] at he
      subst he
      go_wp2
      go_ret
      exact ⟨ret_int (by rw [HV.out, if_pos (by have := HR1.out; omega)]), hb⟩
    · have E2 : Hid ((if r1 < n2 then (-1 : Int) else (r1 : Int) - n2) = ((r1 - n2 : Nat) : Int)) := hid ((if_neg x2).trans (by omega))
      have y2 : ¬ ((r1 - n2 : Nat) : Int) < 0 := by omega
      obtain ⟨r2, hr2⟩ : ∃ r2, r2 = r1 - n2 := ⟨_, rfl⟩
      rw [← hr2] at E2 y2
      have HR2 := hid hr2
      clear hr2
      go_wp2_with fail
      refine (szHoldS_g A2 n2 c2 r1 _ H2.out (by have := HR1.out; omega)).mono ?_
      rintro e w1 ⟨he, rfl⟩
      rw [E2.out] at he
      subst he
      by_cases x3 : r2 < n3
      · have E3 : Hid ((if r2 < n3 then (-1 : Int) else (r2 : Int) - n3) = -1) := hid (if_pos x3)
        go_wp2_with fail
        refine (szIntS_g A3 n3 c3 r2 _ H3.out (by have := HR1.out; have := HR2.out; omega)).mono ?_
        rintro e w1 ⟨he, rfl⟩
        rw [E3.out] at he
        subst he
        go_wp2
        go_ret
        exact ⟨ret_int (by rw [HV.out, if_pos (by have := HR1.out; have := HR2.out; omega)]), hb⟩
      · have E3 : Hid ((if r2 < n3 then (-1 : Int) else (r2 : Int) - n3) = ((r2 - n3 : Nat) : Int)) := hid ((if_neg x3).trans (by omega))
        have y3 : ¬ ((r2 - n3 : Nat) : Int) < 0 := by omega
        have E4 := hid (show 1048576 - ((n1 + n2 + n3 : Nat) : Int) = ((r2 - n3 : Nat) : Int) by have := HR1.out; have := HR2.out; omega)
        go_wp2_with fail
        refine (szIntS_g A3 n3 c3 r2 _ H3.out (by have := HR1.out; have := HR2.out; omega)).mono ?_
        rintro e w1 ⟨he, rfl⟩
        rw [E3.out] at he
        subst he
        go_wp2
        go_ret
        exact ⟨ret_int (by rw [HV.out, if_neg (by have := HR1.out; have := HR2.out; omega)]; exact E4.out.symm), hb⟩

set_option maxHeartbeats 1000000 in
theorem markPool_any (base : Nat) (A1 A2 A3 : Option Addr) (c1 c2 c3 : Nat) (p : Pl) (w : World) (h : OwnP w base A1 A2 A3 c1 c2 c3 p) (h1 : p.idle.length ≤ 4194304) (h2 : p.held.length ≤ 4194304) (h3 : p.wait.length ≤ 4194304) {hi : Nat} (u1 : ∀ k, (Value.slice A1 p.idle.length c1).ownBlock = some k → k < hi) (u2 : ∀ k, (Value.slice A2 p.held.length c2).ownBlock = some k → k < hi) (u3 : ∀ k, (Value.slice A3 p.wait.length c3).ownBlock = some k → k < hi) :
    Calls Try.prog 15 #[.agg #[.int .i64 p.mx, .slice A1 p.idle.length c1, .slice A2 p.held.length c2, .slice A3 p.wait.length c3], .int .i64 1] w fun e w' => e = .returned (.int .i64 p.count) ∧ SeesP w' w'.heap.size A1 A2 A3 p.marked ∧ Mid base hi w w' ∧ OwnP w' base A1 A2 A3 c1 c2 c3 p.marked := by
  have H1 := hid h1
  have H2 := hid h2
  have H3 := hid h3
  clear h1 h2 h3
  have l1 := h.lt1
  have l2 := h.lt2
  have l3 := h.lt3
  obtain ⟨o1, o2, o3, f12, f13, f23⟩ := h
  have hb := (Below.refl w.heap.size w).alloc (Nat.le_refl _) (.cells #[.int .i64 p.mx, .slice A1 p.idle.length c1, .slice A2 p.held.length c2, .slice A3 p.wait.length c3] 30)
  have o1' := o1.below hb
  have o2' := o2.below hb
  have o3' := o3.below hb
  have m0 : Mid base hi w (w.alloc (.cells #[.int .i64 p.mx, .slice A1 p.idle.length c1, .slice A2 p.held.length c2, .slice A3 p.wait.length c3] 30)) := Mid.of_below hb (Nat.le_refl _)
  clear o1 o2 o3 hb
  have q0 := (At.new w 30 #[.int .i64 p.mx, .slice A1 p.idle.length c1, .slice A2 p.held.length c2, .slice A3 p.wait.length c3])
  have E1 := hid (show (((1 : Nat) : Int) + p.idle.length) = ((1 + p.idle.length : Nat) : Int) by omega)
  have E2 := hid (show (((1 + p.idle.length : Nat) : Int) + 2 * p.held.length) = ((1 + p.idle.length + 2 * p.held.length : Nat) : Int) by omega)
  have E3 := hid (show (((1 + p.idle.length + 2 * p.held.length : Nat) : Int) + p.wait.length) = p.count by unfold Pl.count; omega)
  obtain ⟨p0, p1, p2, p3, pl⟩ := (⟨q0.cell 0, q0.cell 1, q0.cell 2, q0.cell 3, q0.lt⟩ : _ ∧ _ ∧ _ ∧ _ ∧ _)
  go_enter Try.func15, Try.ntmps15
  go_wp2_with fail
  refine (markIntS_g 1 base A1 c1 p.idle _ o1' H1.out (by omega)).mono ?_
  rintro e w1 ⟨he, n1, g1⟩
  rw [E1.out] at he
  subst he
  have q1 := q0.grown g1 (fun e => by have := l1 _ e.symm; omega)
  have o2 := o2'.kept g1 (fun k hk e => f12 k e hk)
  have o3 := Own.kept' o3' g1 (fun k hk e => f13 k e hk)
  have m1 := m0.trans (Mid.grown g1 (fun k hk => ⟨(l1 k hk).1, u1 k hk⟩))
  clear p0 p1 p2 p3 pl q0 g1 o1' o2' o3' m0
  obtain ⟨p0, p1, p2, p3, pl⟩ := (⟨q1.cell 0, q1.cell 1, q1.cell 2, q1.cell 3, q1.lt⟩ : _ ∧ _ ∧ _ ∧ _ ∧ _)
  go_wp2_with fail
  refine (markHoldS_g (1 + p.idle.length) base A2 c2 p.held _ o2 H2.out (by have := H1.out; omega)).mono ?_
  rintro e w2 ⟨he, n2, g2⟩
  rw [E2.out] at he
  subst he
  have q2 := q1.grown g2 (fun e => by have := l2 _ e.symm; omega)
  have o1 : w2.ownsRow base 3 1 (.slice A1 p.idle.length c1) _ _ := row_kept n1 g2 (fun k hk e => f12 k hk e)
  have o3b := Own.kept' o3 g2 (fun k hk e => f23 k e hk)
  have m2 := m1.trans (Mid.grown g2 (fun k hk => ⟨(l2 k hk).1, u2 k hk⟩))
  clear p0 p1 p2 p3 pl q1 g2 n1 o2 o3 m1
  obtain ⟨p0, p1, p2, p3, pl⟩ := (⟨q2.cell 0, q2.cell 1, q2.cell 2, q2.cell 3, q2.lt⟩ : _ ∧ _ ∧ _ ∧ _ ∧ _)
  go_wp2_with fail
  refine (markIntS_g (1 + p.idle.length + 2 * p.held.length) base A3 c3 p.wait _ o3b H3.out (by have := H1.out; have := H2.out; omega)).mono ?_
  rintro e w3 ⟨he, n3, g3⟩
  rw [E3.out] at he
  subst he
  have o1b : Own w3 base (.slice A1 p.idle.length c1) (marksG 1 p.idle.length) := row_kept o1 g3 (fun k hk e => f13 k hk e)
  have o2b : OwnS 91 2 hcells w3 base (.slice A2 p.held.length c2) (Ho.marksG (1 + p.idle.length) p.held.length) := row_kept n2 g3 (fun k hk e => f23 k hk e)
  have m3 := m2.trans (Mid.grown g3 (fun k hk => ⟨(l3 k hk).1, u3 k hk⟩))
  have hO : OwnP w3 base A1 A2 A3 c1 c2 c3 p.marked := by
    unfold OwnP Pl.marked
    simp only [marksG_len, Ho.marksG_len]
    exact ⟨o1b, o2b, n3, f12, f13, f23⟩
  go_wp2
  go_ret
  exact ⟨rfl, hO.sees, m3, hO⟩

set_option maxHeartbeats 1000000 in
theorem heldPool_any (A1 A2 A3 : Option Addr) (c1 c2 c3 : Nat) (p : Pl) (w : World) (h : SeesP w w.heap.size A1 A2 A3 p.marked) (h1 : p.idle.length ≤ 4194304) (h2 : p.held.length ≤ 4194304) (h3 : p.wait.length ≤ 4194304) :
    Calls Try.prog 16 #[.agg #[.int .i64 p.mx, .slice A1 p.idle.length c1, .slice A2 p.held.length c2, .slice A3 p.wait.length c3], .int .i64 1] w fun e w' => e = .returned (.int .i64 p.count) ∧ Below w.heap.size w w' := by
  have H1 := hid h1
  have H2 := hid h2
  have H3 := hid h3
  clear h1 h2 h3
  have hb := (Below.refl w.heap.size w).alloc (Nat.le_refl _) (.cells #[.int .i64 p.mx, .slice A1 p.idle.length c1, .slice A2 p.held.length c2, .slice A3 p.wait.length c3] 30)
  have hs := h.on hb
  have E1 := hid (show (((1 : Nat) : Int) + p.idle.length) = ((1 + p.idle.length : Nat) : Int) by omega)
  have E2 := hid (show (((1 + p.idle.length : Nat) : Int) + 2 * p.held.length) = ((1 + p.idle.length + 2 * p.held.length : Nat) : Int) by omega)
  have E3 := hid (show (((1 + p.idle.length + 2 * p.held.length : Nat) : Int) + p.wait.length) = p.count by unfold Pl.count; omega)
  have y1 : ¬ ((1 + p.idle.length : Nat) : Int) < 0 := by omega
  have y2 : ¬ ((1 + p.idle.length + 2 * p.held.length : Nat) : Int) < 0 := by omega
  have y3 : ¬ p.count < 0 := by unfold Pl.count; omega
  go_enter Try.func16, Try.ntmps16
  go_wp2_with fail
  refine (heldIntS_g 1 A1 p.idle.length c1 _ hs.idle H1.out (by omega)).mono ?_
  rintro e w1 ⟨he, rfl⟩
  rw [E1.out] at he
  subst he
  go_wp2_with fail
  refine (heldHoldS_g (1 + p.idle.length) A2 p.held.length c2 _ hs.held H2.out (by have := H1.out; omega)).mono ?_
  rintro e w1 ⟨he, rfl⟩
  rw [E2.out] at he
  subst he
  go_wp2_with fail
  refine (heldIntS_g (1 + p.idle.length + 2 * p.held.length) A3 p.wait.length c3 _ hs.wait H3.out (by have := H1.out; have := H2.out; omega)).mono ?_
  rintro e w1 ⟨he, rfl⟩
  rw [E3.out] at he
  subst he
  go_wp2
  go_ret
  exact ⟨rfl, hb⟩

set_option maxHeartbeats 1000000 in
theorem eqPool_same (A1 A2 A3 B1 B2 B3 : Option Addr) (c1 c2 c3 d1 d2 d3 : Nat) (p : Pl) (w : World) (h : SeesP w w.heap.size A1 A2 A3 p) (h' : SeesP w w.heap.size B1 B2 B3 p) (h1 : p.idle.length ≤ 4194304) (h2 : p.held.length ≤ 4194304) (h3 : p.wait.length ≤ 4194304) :
    Calls Try.prog 12 #[.agg #[.int .i64 p.mx, .slice A1 p.idle.length c1, .slice A2 p.held.length c2, .slice A3 p.wait.length c3], .agg #[.int .i64 p.mx, .slice B1 p.idle.length d1, .slice B2 p.held.length d2, .slice B3 p.wait.length d3]] w fun e w' => e = .returned (.bool true) ∧ Below w.heap.size w w' := by
  have H1 := hid h1
  have H2 := hid h2
  have H3 := hid h3
  clear h1 h2 h3
  have E1 : Hid (eqB p.idle p.idle = true) := hid (eqB_iff.2 rfl)
  have E3 : Hid (eqB p.wait p.wait = true) := hid (eqB_iff.2 rfl)
  have hb0 := (Below.refl w.heap.size w).alloc (Nat.le_refl _) (.cells #[.int .i64 p.mx, .slice A1 p.idle.length c1, .slice A2 p.held.length c2, .slice A3 p.wait.length c3] 30)
  have hb := hb0.alloc hb0.size (.cells #[.int .i64 p.mx, .slice B1 p.idle.length d1, .slice B2 p.held.length d2, .slice B3 p.wait.length d3] 30)
  have x0 := (At.new w 30 #[.int .i64 p.mx, .slice A1 p.idle.length c1, .slice A2 p.held.length c2, .slice A3 p.wait.length c3]).alloc (.cells #[.int .i64 p.mx, .slice B1 p.idle.length d1, .slice B2 p.held.length d2, .slice B3 p.wait.length d3] 30)
  have z0 := At.new (w.alloc (.cells #[.int .i64 p.mx, .slice A1 p.idle.length c1, .slice A2 p.held.length c2, .slice A3 p.wait.length c3] 30)) 30 #[.int .i64 p.mx, .slice B1 p.idle.length d1, .slice B2 p.held.length d2, .slice B3 p.wait.length d3]
  have hs := h.on hb
  have hs' := h'.on hb
  clear hb0 h h'
  obtain ⟨p0, p1, p2, p3, pl⟩ := (⟨x0.cell 0, x0.cell 1, x0.cell 2, x0.cell 3, x0.lt⟩ : _ ∧ _ ∧ _ ∧ _ ∧ _)
  obtain ⟨q0, q1, q2, q3, ql⟩ := (⟨z0.cell 0, z0.cell 1, z0.cell 2, z0.cell 3, z0.lt⟩ : _ ∧ _ ∧ _ ∧ _ ∧ _)
  simp only [World.size_alloc] at q0 q1 q2 q3 ql
  go_enter Try.func12, Try.ntmps12
  go_wp2_with fail
  refine (eqIntS_any _ _ _ _ _ _ _ hs.idle hs'.idle (Nat.le_trans H1.out (by decide))).mono ?_
  rintro e w1 ⟨he, hb1⟩
  rw [E1.out] at he
  subst he
  have x1 := x0.below hb1 x0.lt
  have z1 := z0.below hb1 z0.lt
  have hs1 := hs.on hb1
  have hs1' := hs'.on hb1
  have hbw := hb.trans (hb1.mono hb.size)
  clear x0 z0 hs hs' hb hb1 p0 p1 p2 p3 pl q0 q1 q2 q3 ql
  obtain ⟨p0, p1, p2, p3, pl⟩ := (⟨x1.cell 0, x1.cell 1, x1.cell 2, x1.cell 3, x1.lt⟩ : _ ∧ _ ∧ _ ∧ _ ∧ _)
  obtain ⟨q0, q1, q2, q3, ql⟩ := (⟨z1.cell 0, z1.cell 1, z1.cell 2, z1.cell 3, z1.lt⟩ : _ ∧ _ ∧ _ ∧ _ ∧ _)
  simp only [World.size_alloc] at q0 q1 q2 q3 ql
  go_wp2_with fail
  refine (eqHoldS_same _ _ _ _ _ _ hs1.held hs1'.held H2.out).mono ?_
  rintro e w2 ⟨rfl, hb2⟩
  have x2 := x1.below hb2 x1.lt
  have z2 := z1.below hb2 z1.lt
  have hs2 := hs1.on hb2
  have hs2' := hs1'.on hb2
  have hbw2 := hbw.trans (hb2.mono hbw.size)
  clear x1 z1 hs1 hs1' hbw hb2 p0 p1 p2 p3 pl q0 q1 q2 q3 ql
  obtain ⟨p0, p1, p2, p3, pl⟩ := (⟨x2.cell 0, x2.cell 1, x2.cell 2, x2.cell 3, x2.lt⟩ : _ ∧ _ ∧ _ ∧ _ ∧ _)
  obtain ⟨q0, q1, q2, q3, ql⟩ := (⟨z2.cell 0, z2.cell 1, z2.cell 2, z2.cell 3, z2.lt⟩ : _ ∧ _ ∧ _ ∧ _ ∧ _)
  simp only [World.size_alloc] at q0 q1 q2 q3 ql
  go_wp2_with fail
  refine (eqIntS_any _ _ _ _ _ _ _ hs2.wait hs2'.wait (Nat.le_trans H3.out (by decide))).mono ?_
  rintro e w3 ⟨he, hb3⟩
  rw [E3.out] at he
  subst he
  go_wp2
  go_ret
  exact ⟨rfl, hbw2.trans (hb3.mono hbw2.size)⟩

end Go.Proofs.Ytehdbllpiokbnaa

/-
  What the laws' equalHolds and equalPool answer on equal ones; what has been drawn for a law on pools. Condition: the lists lie in memory.
-/
import Derived.Test.YtehdbllpiokbnabPlO
import Derived.Test.YtehdbllpiokbnabPlGenA

namespace Go.Proofs.Ytehdbllpiokbnab
open Go.RowKit Pol

set_option maxHeartbeats 2000000 in
theorem equalHolds_same {A B : Option Addr} {n c d : Nat} {l : List Ho} {w : World} (hl : l.length = n) (h : Sees w w.heap.size A (strip hcells l)) (h' : Sees w w.heap.size B (strip hcells l)) (hn : l.length ≤ 4194304) :
    Calls Try.prog 34 #[.slice A n c, .slice B n d] w fun e w' => e = .returned (.bool true) ∧ Below w.heap.size w w' := by
  have HL := hid hl
  clear hl
  have hn' : n ≤ 4194304 := by have := HL.out; omega
  have HN := hid hn'; clear hn hn'
  go_enter Try.func34, Try.ntmps34
  go_wp2
  go_loopw [5] (fun i wr => ∃ k : Nat, k ≤ n ∧ i = .int .i64 k ∧ Below w.heap.size w wr) (fun i _ => n - (intOf i).toNat)
  case atStart => exact ⟨0, Nat.zero_le _, rfl, Below.refl _ _⟩
  case round =>
    obtain ⟨k, hk, rfl, hb⟩ := hrel
    have hn := HN.out
    by_cases hlt : k < n
    · have hi : (k : Int) < (n : Int) := by omega
      have hkl : k < l.length := by have := HL.out; omega
      obtain ⟨b, o, rfl, hbl, e0, e1⟩ := (h.below hb).hold hkl
      obtain ⟨b', o', rfl, hbl', f0, f1⟩ := (h'.below hb).hold hkl
      obtain ⟨x, hx⟩ : ∃ x, x = l[k] := ⟨_, rfl⟩
      rw [← hx] at e0 e1 f0 f1
      clear hx hkl
      go_wp2
      go_quiet (fail)
      go_wp2
      go_roundw
      case rel => exact ⟨k + 1, by omega, by go_num, below_drewN hb _⟩
      case measure => simp [intOf]; omega
    · have hi : ¬ (k : Int) < (n : Int) := by omega
      go_wp2
      go_ret
      exact ⟨rfl, hb⟩

set_option maxHeartbeats 1000000 in
theorem equalPool_same (A1 A2 A3 B1 B2 B3 : Option Addr) (c1 c2 c3 d1 d2 d3 : Nat) (p : Pl) (w : World) (h : SeesP w w.heap.size A1 A2 A3 p) (h' : SeesP w w.heap.size B1 B2 B3 p) (h1 : p.idle.length ≤ 4194304) (h2 : p.held.length ≤ 4194304) (h3 : p.wait.length ≤ 4194304) :
    Calls Try.prog 12 #[.agg #[.int .i64 p.mx, .slice A1 p.idle.length c1, .slice A2 p.held.length c2, .slice A3 p.wait.length c3], .agg #[.int .i64 p.mx, .slice B1 p.idle.length d1, .slice B2 p.held.length d2, .slice B3 p.wait.length d3]] w fun e w' => e = .returned (.bool true) ∧ Below w.heap.size w w' := by
  have H1 := hid h1
  have H2 := hid h2
  have H3 := hid h3
  clear h1 h2 h3
  have E1 : Hid (eqB p.idle p.idle = true) := hid (eqB_iff.2 rfl)
  have E3 : Hid (eqB p.wait p.wait = true) := hid (eqB_iff.2 rfl)
  have hb0 := (Below.refl w.heap.size w).alloc (Nat.le_refl _) (.cells #[.int .i64 p.mx, .slice A1 p.idle.length c1, .slice A2 p.held.length c2, .slice A3 p.wait.length c3] 26)
  have hb := hb0.alloc hb0.size (.cells #[.int .i64 p.mx, .slice B1 p.idle.length d1, .slice B2 p.held.length d2, .slice B3 p.wait.length d3] 26)
  have x0 := (At.new w 26 #[.int .i64 p.mx, .slice A1 p.idle.length c1, .slice A2 p.held.length c2, .slice A3 p.wait.length c3]).alloc (.cells #[.int .i64 p.mx, .slice B1 p.idle.length d1, .slice B2 p.held.length d2, .slice B3 p.wait.length d3] 26)
  have z0 := At.new (w.alloc (.cells #[.int .i64 p.mx, .slice A1 p.idle.length c1, .slice A2 p.held.length c2, .slice A3 p.wait.length c3] 26)) 26 #[.int .i64 p.mx, .slice B1 p.idle.length d1, .slice B2 p.held.length d2, .slice B3 p.wait.length d3]
  have hs := h.on hb
  have hs' := h'.on hb
  clear hb0 h h'
  obtain ⟨p0, p1, p2, p3, pl⟩ := (⟨x0.cell 0, x0.cell 1, x0.cell 2, x0.cell 3, x0.lt⟩ : _ ∧ _ ∧ _ ∧ _ ∧ _)
  obtain ⟨q0, q1, q2, q3, ql⟩ := (⟨z0.cell 0, z0.cell 1, z0.cell 2, z0.cell 3, z0.lt⟩ : _ ∧ _ ∧ _ ∧ _ ∧ _)
  simp only [World.size_alloc] at q0 q1 q2 q3 ql
  go_enter Try.func12, Try.ntmps12
  go_wp2_with fail
  refine (equalInts_any _ _ _ _ _ _ _ hs.idle hs'.idle (Nat.le_trans H1.out (by decide))).mono ?_
  rintro e w1 ⟨he, hb1⟩
  rw [E1.out] at he
  subst he
  have x1 := x0.below hb1 x0.lt
  have z1 := z0.below hb1 z0.lt
  have hs1 := hs.on hb1
  have hs1' := hs'.on hb1
  have hbw := hb.trans (hb1.mono hb.size)
  clear x0 z0 hs hs' hb hb1 p0 p1 p2 p3 pl q0 q1 q2 q3 ql
  obtain ⟨p0, p1, p2, p3, pl⟩ := (⟨x1.cell 0, x1.cell 1, x1.cell 2, x1.cell 3, x1.lt⟩ : _ ∧ _ ∧ _ ∧ _ ∧ _)
  obtain ⟨q0, q1, q2, q3, ql⟩ := (⟨z1.cell 0, z1.cell 1, z1.cell 2, z1.cell 3, z1.lt⟩ : _ ∧ _ ∧ _ ∧ _ ∧ _)
  simp only [World.size_alloc] at q0 q1 q2 q3 ql
  go_wp2_with fail
  refine (equalHolds_same rfl hs1.held hs1'.held H2.out).mono ?_
  rintro e w2 ⟨rfl, hb2⟩
  have x2 := x1.below hb2 x1.lt
  have z2 := z1.below hb2 z1.lt
  have hs2 := hs1.on hb2
  have hs2' := hs1'.on hb2
  have hbw2 := hbw.trans (hb2.mono hbw.size)
  clear x1 z1 hs1 hs1' hbw hb2 p0 p1 p2 p3 pl q0 q1 q2 q3 ql
  obtain ⟨p0, p1, p2, p3, pl⟩ := (⟨x2.cell 0, x2.cell 1, x2.cell 2, x2.cell 3, x2.lt⟩ : _ ∧ _ ∧ _ ∧ _ ∧ _)
  obtain ⟨q0, q1, q2, q3, ql⟩ := (⟨z2.cell 0, z2.cell 1, z2.cell 2, z2.cell 3, z2.lt⟩ : _ ∧ _ ∧ _ ∧ _ ∧ _)
  simp only [World.size_alloc] at q0 q1 q2 q3 ql
  go_wp2_with fail
  refine (equalInts_any _ _ _ _ _ _ _ hs2.wait hs2'.wait (Nat.le_trans H3.out (by decide))).mono ?_
  rintro e w3 ⟨he, hb3⟩
  rw [E3.out] at he
  subst he
  go_wp2
  go_ret
  exact ⟨rfl, hbw2.trans (hb3.mono hbw2.size)⟩


/-- What has been drawn: a pool with lists of its own; nothing that was there has changed. -/
def DQ (w w' : World) (A1 A2 A3 : Option Addr) (c1 c2 c3 : Nat) (p : Pl) : Prop := OwnP w' w.heap.size A1 A2 A3 c1 c2 c3 p ∧ Below w.heap.size w w' ∧ p.idle.length ≤ 7 ∧ p.held.length ≤ 7 ∧ p.wait.length ≤ 13
def DrawP0 (w : World) (e : Ending) (w' : World) : Prop := ∃ (A1 A2 A3 : Option Addr) (c1 c2 c3 : Nat) (p : Pl), e = .returned (.agg #[.int .i64 p.mx, .slice A1 p.idle.length c1, .slice A2 p.held.length c2, .slice A3 p.wait.length c3]) ∧ DQ w w' A1 A2 A3 c1 c2 c3 p
def DrawP1 (w : World) (e : Ending) (w' : World) : Prop := ∃ (A1 A2 A3 : Option Addr) (c1 c2 c3 : Nat) (p : Pl) (o : Int), e = .returned (.tuple #[.agg #[.int .i64 p.mx, .slice A1 p.idle.length c1, .slice A2 p.held.length c2, .slice A3 p.wait.length c3], .int .i64 o]) ∧ DQ w w' A1 A2 A3 c1 c2 c3 p
end Go.Proofs.Ytehdbllpiokbnab

/-
  What the reader's pick answers. Condition: the reader stands at a place below 100000.
-/
import Derived.Test.YtehdbllpiokbnabOwnB
import Derived.Test.YtehdbllpiokbnabProg
import Derived.Outline
import Derived.Deep.QuietTactic
import Derived.BigQuiet

namespace Go.Proofs.Ytehdbllpiokbnab
open Go.RowKit

/-- Bytes as cells. -/
def byts (zs : List Int) : List Value := zs.map (Value.int .u8)
theorem byts_len (zs : List Int) : (byts zs).length = zs.length := by simp [byts]
theorem Sees.byte {w : World} {B : Nat} {A : Option Addr} {l : List Int} (h : Sees w B A (byts l)) {k : Nat} (hk : k < l.length) : ∃ b o, A = some ⟨b, o, none⟩ ∧ b < B ∧ w.cell? ⟨b, o + k, none⟩ = some (.int .u8 l[k]) := by
  obtain ⟨b, o, e, hb, hc⟩ := h (by intro e; have := byts_len l; rw [e] at this; simp at this; omega)
  exact ⟨b, o, e, hb, hc k _ (by simp [byts, hk])⟩

/-- Block g is a reader at place p, over the bytes zs. -/
def Rd (w : World) (g : Nat) (p : Nat) : Prop :=
  ∃ (A : Option Addr) (zs : List Int) (c : Nat), At w g 78 #[.slice A zs.length c, .int .i64 p] ∧ Sees w g A (byts zs) ∧ (∀ z ∈ zs, 0 ≤ z ∧ z ≤ 255) ∧ zs.length ≤ 2000 ∧ p ≤ 100000
theorem Rd.drew {w : World} {g p : Nat} (h : Rd w g p) : Rd w.drew g p := h
theorem Rd.drewN {w : World} {g p : Nat} (h : Rd w g p) (n : Nat) : Rd (w.drewN n) g p := h
theorem Rd.lt {w : World} {g p : Nat} (h : Rd w g p) : g < w.heap.size := by obtain ⟨_, _, _, h, _⟩ := h; exact h.lt
theorem Rd.below {w w' : World} {g p B : Nat} (h : Rd w g p) (hb : Below B w w') (hg : g < B) : Rd w' g p := by
  obtain ⟨A, zs, c, h1, h2, h3⟩ := h
  exact ⟨A, zs, c, h1.below hb hg, h2.on hb (by omega), h3⟩
theorem Rd.alloc {w : World} {g p : Nat} (h : Rd w g p) (o : Obj) : Rd (w.alloc o) g p := h.below ((Below.refl w.heap.size w).alloc (Nat.le_refl _) o) h.lt
theorem Rd.far {w : World} {g p : Nat} (h : Rd w g p) {a : Addr} (hp : g < a.block) (u : Value) : Rd (w.setCell a u) g p := h.below (B := g + 1) ((Below.refl (g + 1) w).setCell (by omega) u) (by omega)

theorem xor_nn (a b : Nat) (ha : a < 4611686018427387904) (hb : b < 4611686018427387904) : 0 ≤ bits .xor .i64 (a : Int) (b : Int) := by
  show 0 ≤ IntKind.i64.wrap ((BitVec.ofInt 64 (a : Int) ^^^ BitVec.ofInt 64 (b : Int)).toNat : Int)
  have e : ∀ n : Nat, n < 4611686018427387904 → (BitVec.ofInt 64 (n : Int)).toNat = n := fun n hn => by
    rw [BitVec.ofInt_natCast, BitVec.toNat_ofNat]; exact Nat.mod_eq_of_lt (by omega)
  have hx : a ^^^ b < 2 ^ 62 := Nat.xor_lt_two_pow (by omega) (by omega)
  rw [BitVec.toNat_xor, e a ha, e b hb, IntKind.wrap_i64]
  omega
theorem mix_nn (x : Int) (h0 : 0 ≤ x) (h1 : x < 1000000000) : 0 ≤ bits .xor .i64 x (x / 64) := by
  obtain ⟨n, rfl⟩ : ∃ n : Nat, x = n := ⟨x.toNat, by omega⟩
  have := xor_nn n (n / 64) (by omega) (by omega)
  simpa using this
theorem rem_in {x m : Int} (h0 : 0 ≤ x) (hm : 1 ≤ m) : 0 ≤ x.tmod m ∧ (1 ≤ m → x.tmod m < m) := by
  rw [Int.tmod_eq_emod_of_nonneg h0]
  exact ⟨Int.emod_nonneg _ (by omega), fun _ => Int.emod_lt_of_pos _ (by omega)⟩
theorem rem_in' {x m : Int} (_ : 0 ≤ x) (hm : 1 ≤ m) : 0 ≤ x % m ∧ (1 ≤ m → x % m < m) :=
  ⟨Int.emod_nonneg _ (by omega), fun _ => Int.emod_lt_of_pos _ (by omega)⟩
theorem Rd.step {w : World} {g p : Nat} (h : Rd w g p) (hp : p < 100000) : w.grownBy (w.setCell ⟨g, 1, none⟩ (.int .i64 (p + 1))) (some g) ∧ Rd (w.setCell ⟨g, 1, none⟩ (.int .i64 (p + 1))) g (p + 1) := by
  refine ⟨grown_set w g 1 _, ?_⟩
  obtain ⟨A, zs, c, h1, h2, h3, h4, _⟩ := h
  exact ⟨A, zs, c, by simpa using h1.set 1 (.int .i64 (p + 1)), h2.setCell (Nat.le_refl _) _, h3, h4, by omega⟩

/-- What pick answers: a number from 0 on, less than m; only the reader's block has changed, and it is one place further. -/
def PickAns (m : Int) (w : World) (g p : Nat) (e : Ending) (w' : World) : Prop :=
  ∃ x : Int, e = .returned (.int .i64 x) ∧ 0 ≤ x ∧ (1 ≤ m → x < m) ∧ w.grownBy w' (some g) ∧ Rd w' g (p + 1)

set_option maxHeartbeats 1000000 in
theorem pick_any (g p : Nat) (m : Int) (w : World) (h : Rd w g p) (hp : p < 100000) :
    Calls Try.prog 36 #[.pointer (some ⟨g, 0, none⟩), .int .i64 m] w (PickAns m w g p) := by
  have HS := hid (h.step hp)
  obtain ⟨A, zs, c, hat, hs, hz, hl, _⟩ := h
  have q0 : w.cell? ⟨g, 0, none⟩ = some (.slice A zs.length c) := hat.cell 0
  have q1 : w.cell? ⟨g, 1, none⟩ = some (.int .i64 p) := hat.cell 1
  have qf := hat.frozen
  by_cases hm : m < 1
  · go_enter Try.func36, Try.ntmps36
    go_wp2
    go_ret
    exact ⟨0, rfl, by omega, fun h => by omega, HS.out⟩
  · rcases Nat.eq_zero_or_pos zs.length with h0 | h0
    · have h0' : ((zs.length : Int) == 0) = true := by rw [beq_iff_eq]; omega
      have H0 := hid h0
      clear h0
      go_enter Try.func36, Try.ntmps36
      go_wp2
      go_ret
      exact ⟨0, rfl, by omega, fun h => by omega, HS.out⟩
    · have ne0 : ((zs.length : Int) == 0) = false := by rw [beq_eq_false_iff_ne]; omega
      by_cases hlt : p < zs.length
      · have hs' : Sees (w.setCell ⟨g, 1, none⟩ (.int .i64 (p + 1))) g A (byts zs) := hs.setCell (Nat.le_refl _) _
        obtain ⟨b, o, rfl, _, hc⟩ := hs'.byte hlt
        have hz1 := hz _ (List.getElem_mem hlt)
        obtain ⟨z1, z2⟩ := hz1
        go_enter Try.func36, Try.ntmps36
        go_wp2
        go_ret
        first
          | exact ⟨_, rfl, (rem_in z1 (by omega)).1, (rem_in z1 (by omega)).2, HS.out⟩
          | exact ⟨_, rfl, (rem_in' z1 (by omega)).1, (rem_in' z1 (by omega)).2, HS.out⟩
      · obtain ⟨b, o, rfl, _, hc⟩ := hs.byte h0
        clear hc
        go_enter Try.func36, Try.ntmps36
        go_wp2
        have y0 : (w.setCell ⟨g, 1, none⟩ (.int .i64 (p + 1))).cell? ⟨g, 0, none⟩ = some (.slice (some ⟨b, o, none⟩) zs.length c) := (World.cell?_setCell_other _ _ _ _ (by simp)).trans q0
        have hs' : Sees (w.setCell ⟨g, 1, none⟩ (.int .i64 (p + 1))) g (some ⟨b, o, none⟩) (byts zs) := hs.setCell (Nat.le_refl _) _
        have m1 : p % zs.length < zs.length := Nat.mod_lt _ h0
        have m2 : (p * 7 + 3) % zs.length < zs.length := Nat.mod_lt _ h0
        obtain ⟨b1, o1, e1, _, y1⟩ := hs'.byte m1
        obtain ⟨b2, o2, e2, _, y2⟩ := hs'.byte m2
        obtain ⟨rfl, rfl⟩ : b = b1 ∧ o = o1 := by injection e1 with e1; injection e1 with x y; exact ⟨x, y⟩
        obtain ⟨rfl, rfl⟩ : b = b2 ∧ o = o2 := by injection e2 with e2; injection e2 with x y; exact ⟨x, y⟩
        clear e1 e2 hs'
        obtain ⟨W, hW⟩ : ∃ W, W = w.setCell ⟨g, 1, none⟩ (.int .i64 (p + 1)) := ⟨_, rfl⟩
        obtain ⟨u1, hu1⟩ : ∃ u, u = zs[p % zs.length] := ⟨_, rfl⟩
        obtain ⟨u2, hu2⟩ : ∃ u, u = zs[(p * 7 + 3) % zs.length] := ⟨_, rfl⟩
        have z1 := hz u1 (by rw [hu1]; exact List.getElem_mem m1)
        have z2 := hz u2 (by rw [hu2]; exact List.getElem_mem m2)
        rw [← hW] at y0 y1 y2 ⊢
        rw [← hu1] at y1
        rw [← hu2] at y2
        have HW := hid hW
        clear hu1 hu2 hW
        obtain ⟨z1a, z1b⟩ := z1
        obtain ⟨z2a, z2b⟩ := z2
        obtain ⟨r1, hr1⟩ : ∃ r, r = p % zs.length := ⟨_, rfl⟩
        obtain ⟨r2, hr2⟩ : ∃ r, r = (p * 7 + 3) % zs.length := ⟨_, rfl⟩
        obtain ⟨r3, hr3⟩ : ∃ r, r = p / zs.length := ⟨_, rfl⟩
        rw [← hr1] at y1 m1
        rw [← hr2] at y2 m2
        have hr3' : r3 ≤ p := by rw [hr3]; exact Nat.div_le_self _ _
        have t1 : (p : Int).tmod (zs.length : Int) = (r1 : Int) := by rw [hr1, Int.tmod_eq_emod_of_nonneg (by omega)]; simp
        have t2 : ((p : Int) * 7 + 3).tmod (zs.length : Int) = (r2 : Int) := by rw [hr2, Int.tmod_eq_emod_of_nonneg (by omega)]; simp
        have t3 : (p : Int).tdiv (zs.length : Int) = (r3 : Int) := by rw [hr3, Int.tdiv_eq_ediv_of_nonneg (by omega)]; simp
        clear hr1 hr2 hr3
        have i1 : (r1 : Int) < (zs.length : Int) := by omega
        have i2 : (r2 : Int) < (zs.length : Int) := by omega
        have i1' : (0 : Int) ≤ (r1 : Int) := by omega
        have i2' : (0 : Int) ≤ (r2 : Int) := by omega
        have w1 : IntKind.i64.wrap (u1 * 131) = u1 * 131 := by rw [IntKind.wrap_i64]; omega
        have w2 : IntKind.i64.wrap ((p : Int) * 7) = p * 7 := by rw [IntKind.wrap_i64]; omega
        have w3 : IntKind.i64.wrap ((p : Int) * 7 + 3) = p * 7 + 3 := by rw [IntKind.wrap_i64]; omega
        have w4 : IntKind.i64.wrap (u2 * 1117) = u2 * 1117 := by rw [IntKind.wrap_i64]; omega
        have w5 : IntKind.i64.wrap (u1 * 131 + u2 * 1117) = u1 * 131 + u2 * 1117 := by rw [IntKind.wrap_i64]; omega
        have w6 : IntKind.i64.wrap ((p : Int) * 29) = p * 29 := by rw [IntKind.wrap_i64]; omega
        have w7 : IntKind.i64.wrap (u1 * 131 + u2 * 1117 + p * 29) = u1 * 131 + u2 * 1117 + p * 29 := by rw [IntKind.wrap_i64]; omega
        have w8 : IntKind.i64.wrap ((r3 : Int) * 53) = r3 * 53 := by rw [IntKind.wrap_i64]; omega
        have w9 : IntKind.i64.wrap (u1 * 131 + u2 * 1117 + p * 29 + r3 * 53) = u1 * 131 + u2 * 1117 + p * 29 + r3 * 53 := by rw [IntKind.wrap_i64]; omega
        go_quiet (fail)
        go_wp2
        go_ret
        have hx := mix_nn (u1 * 131 + u2 * 1117 + p * 29 + r3 * 53) (by omega) (by omega)
        have hst := HS.out
        rw [← HW.out] at hst
        exact ⟨_, rfl, (rem_in hx (by omega)).1, (rem_in hx (by omega)).2, grown_drewN hst.1 _, hst.2.drewN _⟩
end Go.Proofs.Ytehdbllpiokbnab

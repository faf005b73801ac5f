/-
  The state of the model's generator of pools between two steps. No condition.
-/
import Derived.Test.YtehdbllpiokbnabPlO
import Derived.Test.YtehdbllpiokbnabPoolLawMath
import Derived.Test.YtehdbllpiokbnabReadB

namespace Go.Proofs.Ytehdbllpiokbnab
open Go.RowKit Pol

theorem OwnP.past' {w w' : World} {base : Nat} {A1 A2 A3 : Option Addr} {c1 c2 c3 : Nat} {p : Pl} (h : OwnP w base A1 A2 A3 c1 c2 c3 p) {g : Nat} (hg : w.grownBy w' (some g)) (hb : g < base) : OwnP w' base A1 A2 A3 c1 c2 c3 p := by
  obtain ⟨h1, h2, h3, h4⟩ := h
  exact ⟨row_kept h1 hg (fun k hk e => by have := (h1.out.lt k hk).1; injection e with e; omega), h2.kept hg (fun k hk e => by have := (h2.out.lt k hk).1; injection e with e; omega), row_kept h3 hg (fun k hk e => by have := (h3.out.lt k hk).1; injection e with e; omega), h4⟩
theorem set_grown {w0 w : World} {g B i : Nat} {u : Value} (h : w0.grownBy w (some g)) (hB : w0.heap.size ≤ B) : w0.grownBy (w.setCell ⟨B, i, none⟩ u) (some g) :=
  ⟨h.os, h.tape, h.output, by simpa [World.setCell] using h.size, fun k hk hn => (Below.heap_setCell w ⟨B, i, none⟩ u k (by simp; omega)).trans (h.block k hk hn)⟩

/-- Block L holds a pool; its lists are the generator's own, from block base on; block g is the reader, at place q; the result's block is as it was made; nothing else that was there has changed. -/
def GQ (w0 wr : World) (g base L q : Nat) (A1 A2 A3 : Option Addr) (c1 c2 c3 : Nat) (p : Pl) : Prop :=
  At wr L 26 #[.int .i64 p.mx, .slice A1 p.idle.length c1, .slice A2 p.held.length c2, .slice A3 p.wait.length c3] ∧ OwnP wr base A1 A2 A3 c1 c2 c3 p ∧ Rd wr g q ∧ At wr w0.heap.size 26 #[.int .i64 0, .slice none 0 0, .slice none 0 0, .slice none 0 0] ∧ w0.grownBy wr (some g) ∧ g < w0.heap.size ∧ w0.heap.size < base ∧ base ≤ L
section
variable {w0 wr w' : World} {g base L q q' : Nat} {A1 A2 A3 B1 B2 B3 : Option Addr} {c1 c2 c3 d1 d2 d3 : Nat} {p R : Pl}
theorem GQ.lt (h : GQ w0 wr g base L q A1 A2 A3 c1 c2 c3 p) : g < w0.heap.size ∧ w0.heap.size < base ∧ base ≤ L ∧ L < wr.heap.size := ⟨h.2.2.2.2.2.1, h.2.2.2.2.2.2.1, h.2.2.2.2.2.2.2, h.1.lt⟩
theorem GQ.own (h : GQ w0 wr g base L q A1 A2 A3 c1 c2 c3 p) : OwnP wr base A1 A2 A3 c1 c2 c3 p := h.2.1
theorem GQ.rd (h : GQ w0 wr g base L q A1 A2 A3 c1 c2 c3 p) : Rd wr g q := h.2.2.1
theorem GQ.below (h : GQ w0 wr g base L q A1 A2 A3 c1 c2 c3 p) (hb : Below wr.heap.size wr w') : GQ w0 w' g base L q A1 A2 A3 c1 c2 c3 p := by
  obtain ⟨h1, h2, h3, h4, h5, h6⟩ := h
  exact ⟨h1.below hb h1.lt, h2.below hb, h3.below hb h3.lt, h4.below hb h4.lt, grown_trans h5 (grown_of_below hb _), h6⟩
theorem GQ.alloc (h : GQ w0 wr g base L q A1 A2 A3 c1 c2 c3 p) (o : Obj) : GQ w0 (wr.alloc o) g base L q A1 A2 A3 c1 c2 c3 p := h.below ((Below.refl _ _).alloc (Nat.le_refl _) o)
theorem GQ.drew (h : GQ w0 wr g base L q A1 A2 A3 c1 c2 c3 p) : GQ w0 wr.drew g base L q A1 A2 A3 c1 c2 c3 p := h.below (Below.refl _ _).drew
theorem GQ.pick (h : GQ w0 wr g base L q A1 A2 A3 c1 c2 c3 p) (hg : wr.grownBy w' (some g)) (hr : Rd w' g q') : GQ w0 w' g base L q' A1 A2 A3 c1 c2 c3 p := by
  obtain ⟨h1, h2, h3, h4, h5, h6, h7, h8⟩ := h
  exact ⟨h1.past hg (by omega), h2.past' hg (by omega), hr, h4.past hg (by omega), grown_trans h5 hg, h6, h7, h8⟩
theorem GQ.cells (h : GQ w0 wr g base L q A1 A2 A3 c1 c2 c3 p) : wr.cell? ⟨L, 0, none⟩ = some (.int .i64 p.mx) ∧ wr.cell? ⟨L, 1, none⟩ = some (.slice A1 p.idle.length c1) ∧ wr.cell? ⟨L, 2, none⟩ = some (.slice A2 p.held.length c2) ∧ wr.cell? ⟨L, 3, none⟩ = some (.slice A3 p.wait.length c3) ∧ ∀ i, wr.frozen? ⟨L, i, none⟩ = false :=
  ⟨h.1.cell 0, h.1.cell 1, h.1.cell 2, h.1.cell 3, h.1.frozen⟩
theorem GQ.res (h : GQ w0 wr g base L q A1 A2 A3 c1 c2 c3 p) : (∀ i, wr.cell? ⟨w0.heap.size, i, none⟩ = (#[.int .i64 0, .slice none 0 0, .slice none 0 0, .slice none 0 0] : Array Value)[i]?) ∧ ∀ i, wr.frozen? ⟨w0.heap.size, i, none⟩ = false := ⟨h.2.2.2.1.cell, h.2.2.2.1.frozen⟩
/-- A whole pool is stored. -/
theorem GQ.put (h : GQ w0 wr g base L q A1 A2 A3 c1 c2 c3 p) (ho : OwnP wr base B1 B2 B3 d1 d2 d3 R) :
    GQ w0 ((((wr.setCell ⟨L, 0, none⟩ (.int .i64 R.mx)).setCell ⟨L, 1, none⟩ (.slice B1 R.idle.length d1)).setCell ⟨L, 2, none⟩ (.slice B2 R.held.length d2)).setCell ⟨L, 3, none⟩ (.slice B3 R.wait.length d3)) g base L q B1 B2 B3 d1 d2 d3 R := by
  obtain ⟨h1, h2, h3, h4, h5, h6, h7, h8⟩ := h
  obtain ⟨a, b⟩ := pool_put (.int .i64 R.mx) (.slice B1 R.idle.length d1) (.slice B2 R.held.length d2) (.slice B3 R.wait.length d3) h1 rfl
  refine ⟨a, ho.past h1 b, (((h3.far (by simp; omega) _).far (by simp; omega) _).far (by simp; omega) _).far (by simp; omega) _, h4.past b (by omega), ?_, h6, h7, h8⟩
  exact set_grown (set_grown (set_grown (set_grown h5 (by omega)) (by omega)) (by omega)) (by omega)
/-- A store into a pool that lies beside. -/
theorem GQ.side4 (h : GQ w0 wr g base L q A1 A2 A3 c1 c2 c3 p) {b : Nat} {cs : Array Value} (hx : At wr b 26 cs) (hc : cs.size = 4) (hb : L < b) (u0 u1 u2 u3 : Value) :
    GQ w0 ((((wr.setCell ⟨b, 0, none⟩ u0).setCell ⟨b, 1, none⟩ u1).setCell ⟨b, 2, none⟩ u2).setCell ⟨b, 3, none⟩ u3) g base L q A1 A2 A3 c1 c2 c3 p := by
  obtain ⟨h1, h2, h3, h4, h5, h6, h7, h8⟩ := h
  obtain ⟨_, k⟩ := pool_put u0 u1 u2 u3 hx hc
  refine ⟨h1.past k (by omega), h2.past hx k, (((h3.far (by simp; omega) _).far (by simp; omega) _).far (by simp; omega) _).far (by simp; omega) _, h4.past k (by omega), ?_, h6, h7, h8⟩
  exact set_grown (set_grown (set_grown (set_grown h5 (by omega)) (by omega)) (by omega)) (by omega)
theorem ownp_side4 (h : OwnP wr base B1 B2 B3 d1 d2 d3 R) {b : Nat} {cs : Array Value} (hx : At wr b 26 cs) (hc : cs.size = 4) (u0 u1 u2 u3 : Value) : OwnP ((((wr.setCell ⟨b, 0, none⟩ u0).setCell ⟨b, 1, none⟩ u1).setCell ⟨b, 2, none⟩ u2).setCell ⟨b, 3, none⟩ u3) base B1 B2 B3 d1 d2 d3 R :=
  h.past hx (pool_put u0 u1 u2 u3 hx hc).2
/-- The result's block is written. -/
theorem GQ.done (h : GQ w0 wr g base L q A1 A2 A3 c1 c2 c3 p) (u0 u1 u2 u3 : Value) : OwnP ((((wr.setCell ⟨w0.heap.size, 0, none⟩ u0).setCell ⟨w0.heap.size, 1, none⟩ u1).setCell ⟨w0.heap.size, 2, none⟩ u2).setCell ⟨w0.heap.size, 3, none⟩ u3) w0.heap.size A1 A2 A3 c1 c2 c3 p ∧
    w0.grownBy ((((wr.setCell ⟨w0.heap.size, 0, none⟩ u0).setCell ⟨w0.heap.size, 1, none⟩ u1).setCell ⟨w0.heap.size, 2, none⟩ u2).setCell ⟨w0.heap.size, 3, none⟩ u3) (some g) ∧ Rd ((((wr.setCell ⟨w0.heap.size, 0, none⟩ u0).setCell ⟨w0.heap.size, 1, none⟩ u1).setCell ⟨w0.heap.size, 2, none⟩ u2).setCell ⟨w0.heap.size, 3, none⟩ u3) g q ∧
    At ((((wr.setCell ⟨w0.heap.size, 0, none⟩ u0).setCell ⟨w0.heap.size, 1, none⟩ u1).setCell ⟨w0.heap.size, 2, none⟩ u2).setCell ⟨w0.heap.size, 3, none⟩ u3) w0.heap.size 26 #[u0, u1, u2, u3] := by
  obtain ⟨h1, h2, h3, h4, h5, h6, h7, h8⟩ := h
  obtain ⟨a, b⟩ := pool_put u0 u1 u2 u3 h4 rfl
  exact ⟨(h2.past h4 b).mono (by omega), set_grown (set_grown (set_grown (set_grown h5 (Nat.le_refl _)) (Nat.le_refl _)) (Nat.le_refl _)) (Nat.le_refl _), (((h3.far (by simp; omega) _).far (by simp; omega) _).far (by simp; omega) _).far (by simp; omega) _, a⟩
end
/-- What the generator answers: a pool with lists of its own; only the reader's block has changed. -/
def PoolAns (w : World) (g q n a b : Nat) (e : Ending) (w' : World) : Prop := ∃ (A1 A2 A3 : Option Addr) (c1 c2 c3 : Nat) (p : Pl) (q' : Nat), e = .returned (.agg #[.int .i64 p.mx, .slice A1 p.idle.length c1, .slice A2 p.held.length c2, .slice A3 p.wait.length c3]) ∧ OwnP w' w.heap.size A1 A2 A3 c1 c2 c3 p ∧ w.grownBy w' (some g) ∧ Rd w' g q' ∧ q' ≤ q + n ∧ p.idle.length ≤ a ∧ p.held.length ≤ a ∧ p.wait.length ≤ b
end Go.Proofs.Ytehdbllpiokbnab

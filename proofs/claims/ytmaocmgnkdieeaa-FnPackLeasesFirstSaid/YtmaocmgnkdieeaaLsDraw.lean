/-
  What the functions answer that draw the arguments of the laws on leases. Condition: the code is at most 2^20 bytes.
-/
import Derived.Test.YtmaocmgnkdieeaaLsGen
namespace Go.Proofs.Ytmaocmgnkdieeaa
open Go.RowKit Lse

/-- What has been drawn: a list of leases of its own, at most 13; nothing that was there has changed. -/
def DL (w w' : World) (A : Option Addr) (c : Nat) (l : List L) : Prop := OwnL w' w.heap.size (.slice A l.length c) l ∧ Below w.heap.size w w' ∧ l.length ≤ 13 ∧ l.length ≤ c
section
variable {w w' w'' : World} {A : Option Addr} {c : Nat} {l : List L}
theorem DL.below (h : DL w w' A c l) (hb : Below w'.heap.size w' w'') : DL w w'' A c l := by
  obtain ⟨h1, h2, h3⟩ := h
  exact ⟨h1.below hb, h2.trans (hb.mono h2.size), h3⟩
theorem DL.alloc (h : DL w w' A c l) (o : Obj) : DL w (w'.alloc o) A c l := h.below ((Below.refl _ _).alloc (Nat.le_refl _) o)
theorem DL.drew (h : DL w w' A c l) : DL w w'.drew A c l := h.below ((Below.refl _ _).drew)
theorem DL.drewN (h : DL w w' A c l) (k : Nat) : DL w (w'.drewN k) A c l := h.below (below_drewN (Below.refl _ _) k)
theorem DL.sees (h : DL w w' A c l) : Sees w' w'.heap.size A (lvals l) := OwnS.sees h.1
theorem DL.cap (h : DL w w' A c l) : l.length ≤ c := h.2.2.2
theorem DL.n4 (h : DL w w' A c l) : l.length ≤ 4194304 := Nat.le_trans h.2.2.1 (by decide)
theorem DL.bel (h : DL w w' A c l) : Below w.heap.size w w' := h.2.1
theorem DL.of_gl {w1 : World} {q : Nat} (hb : Below w.heap.size w w1) (hg : GL w1 w' w.heap.size q (.slice A l.length c) l) (hl : l.length ≤ 13) : DL w w' A c l := by
  obtain ⟨h1, h2, h3, h4⟩ := hg
  obtain ⟨A', c', e, r1, _, _⟩ := OwnS.form h1
  injection e with e1 e2 e3
  refine ⟨h1.mono hb.size, hb.trans (below_of_grown h3 (Nat.le_refl _) (Nat.le_of_lt h4)), hl, by omega⟩
end
theorem DL.of_gl' {w w' : World} {A : Option Addr} {c : Nat} {l : List L} {w1 : World} {g q : Nat} (hb : Below w.heap.size w w1) (hg : GL w1 w' g q (.slice A l.length c) l) (hw : w.heap.size ≤ g) (hl : l.length ≤ 13) : DL w w' A c l := by
  obtain ⟨h1, h2, h3, h4⟩ := hg
  obtain ⟨A', c', e, r1, _, _⟩ := OwnS.form h1
  injection e with e1 e2 e3
  exact ⟨h1.mono hb.size, hb.trans (below_of_grown h3 hw (Nat.le_of_lt h4)), hl, by omega⟩
/-- A store into a block that lies beside the list. -/
theorem DL.far {w w' : World} {A : Option Addr} {c : Nat} {l : List L} (h : DL w w' A c l) {g : Nat} (hg : w.heap.size ≤ g) (hne : ∀ k, (Value.slice A l.length c).ownBlock = some k → k ≠ g) (i : Nat) (u : Value) : DL w (w'.setCell ⟨g, i, none⟩ u) A c l := by
  obtain ⟨h1, h2, h3⟩ := h
  refine ⟨h1.kept (grown_set w' g i u) (fun k hk e => hne k hk (by injection e with e; exact e.symm)), h2.setCell hg u, h3⟩
def Draw0 (w : World) (e : Ending) (w' : World) : Prop := ∃ A c l, e = .returned (.slice A (List.length l) c) ∧ DL w w' A c l
def Draw1 (w : World) (e : Ending) (w' : World) : Prop := ∃ A c l, ∃ i : Int, e = .returned (.tuple #[.slice A (List.length l) c, .int .i64 i]) ∧ DL w w' A c l
def Draw2 (w : World) (e : Ending) (w' : World) : Prop := ∃ A c l, ∃ i j : Int, e = .returned (.tuple #[.slice A (List.length l) c, .int .i64 i, .int .i64 j]) ∧ DL w w' A c l ∧ 0 ≤ i ∧ i < 5
def Draw3 (w : World) (e : Ending) (w' : World) : Prop := ∃ A c l, ∃ i j k : Int, e = .returned (.tuple #[.slice A (List.length l) c, .int .i64 i, .int .i64 j, .int .i64 k]) ∧ DL w w' A c l ∧ -100000 ≤ j ∧ j ≤ 100000
def DrawX (w : World) (e : Ending) (w' : World) : Prop := ∃ A c l, ∃ x : L, e = .returned (.tuple #[.slice A (List.length l) c, .agg #[.int .i64 x.c, .int .i64 x.o, .int .i64 x.f, .int .i64 x.u]]) ∧ DL w w' A c l ∧ -100000 ≤ x.f ∧ x.f ≤ 100000 ∧ -100000 ≤ x.u ∧ x.u ≤ 100000

end Go.Proofs.Ytmaocmgnkdieeaa

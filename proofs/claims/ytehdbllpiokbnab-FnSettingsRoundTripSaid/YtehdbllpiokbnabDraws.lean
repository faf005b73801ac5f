/-
  Lists of structs that are drawn: the generator's state between two steps, and what a law knows of what was drawn. No condition.
-/
import Derived.Test.YtehdbllpiokbnabStrip
import Derived.Test.YtehdbllpiokbnabApp
import Derived.Test.YtehdbllpiokbnabReadB

namespace Go.Proofs.Ytehdbllpiokbnab
open Go.RowKit

/-- The generator between two steps: its list, the reader, and nothing else changed. -/
def GLs {α : Type} (t : TypeId) (s : Nat) (f : α → List Value) (w0 wr : World) (g q : Nat) (v : Value) (l : List α) : Prop := OwnS t s f wr w0.heap.size v l ∧ Rd wr g q ∧ w0.grownBy wr (some g) ∧ g < w0.heap.size
section
variable {α : Type} {t : TypeId} {s : Nat} {f : α → List Value} {w0 wr w' : World} {g q q' : Nat} {v v' : Value} {l l' : List α}
theorem GLs.below (h : GLs t s f w0 wr g q v l) (hb : Below wr.heap.size wr w') : GLs t s f w0 w' g q v l := by
  obtain ⟨h1, h2, h3, h4⟩ := h
  exact ⟨h1.below hb, h2.below hb h2.lt, grown_trans h3 (grown_of_below hb _), h4⟩
theorem GLs.alloc (h : GLs t s f w0 wr g q v l) (o : Obj) : GLs t s f w0 (wr.alloc o) g q v l := h.below ((Below.refl _ _).alloc (Nat.le_refl _) o)
theorem GLs.pick (h : GLs t s f w0 wr g q v l) (hg : wr.grownBy w' (some g)) (hr : Rd w' g q') : GLs t s f w0 w' g q' v l := by
  obtain ⟨h1, h2, h3, h4⟩ := h
  exact ⟨h1.kept hg (fun k hk e => by injection e with e; have := (h1.lt k hk).1; omega), hr, grown_trans h3 hg, h4⟩
theorem GLs.lt (h : GLs t s f w0 wr g q v l) : g < w0.heap.size ∧ w0.heap.size ≤ wr.heap.size ∧ g < wr.heap.size := ⟨h.2.2.2, h.2.2.1.size, h.2.1.lt⟩
theorem GLs.rd (h : GLs t s f w0 wr g q v l) : Rd wr g q := h.2.1
theorem GLs.own (h : GLs t s f w0 wr g q v l) : OwnS t s f wr w0.heap.size v l := h.1
theorem GLs.grow (h : GLs t s f w0 wr g q v l) : w0.grownBy wr (some g) := h.2.2.1
/-- Behind an append of one element. -/
theorem GLs.snoc {o : Obj} {x : α} (h : GLs t s f w0 wr g q v l) (h' : w'.ownsRow w0.heap.size t s v' (l.length + 1) (strip f l ++ f x)) (hg : (wr.alloc o).grownBy w' v.ownBlock) : GLs t s f w0 w' g q v' (l ++ [x]) := by
  have hk := h.alloc o
  obtain ⟨h1, h2, h3, h4⟩ := hk
  have hb7 : Below w0.heap.size (wr.alloc o) w' := (Below.refl _ _).grown hg h3.size (fun k hk => (h.1.lt k hk).1)
  refine ⟨?_, h2.below hb7 h4, ⟨hb7.os.trans h3.os, hb7.tape.trans h3.tape, hb7.output.trans h3.output, Nat.le_trans h3.size hb7.size, fun i hi hn => (hb7.block i hi).trans (h3.block i hi hn)⟩, h4⟩
  unfold OwnS
  rw [strip_snoc, List.length_append]
  exact h'
/-- A store into the generator's own list. -/
theorem GLs.put {gg n c i : Nat} {u : Value} (h : GLs t s f w0 wr g q (.slice (some ⟨gg, 0, none⟩) n c) l) (h' : (wr.setCell ⟨gg, i, none⟩ u).ownsRow w0.heap.size t s (.slice (some ⟨gg, 0, none⟩) n c) l'.length (strip f l')) : GLs t s f w0 (wr.setCell ⟨gg, i, none⟩ u) g q (.slice (some ⟨gg, 0, none⟩) n c) l' := by
  obtain ⟨h1, h2, h3, h4⟩ := h
  have hgg : w0.heap.size ≤ gg := (h1.lt gg rfl).1
  exact ⟨h', h2.far (by simp; omega) u, ⟨h3.os, h3.tape, h3.output, by simpa [World.setCell] using h3.size, fun k hk hn => (Below.heap_setCell wr ⟨gg, i, none⟩ u k (by simp; omega)).trans (h3.block k hk hn)⟩, h4⟩
end
/-- What draws a list answers: at most m elements of its own; only the reader's block has changed; the reader is at most d places further. -/
def ListAns {α : Type} (t : TypeId) (s : Nat) (f : α → List Value) (m d : Nat) (w : World) (g p : Nat) (e : Ending) (w' : World) : Prop :=
  ∃ (A : Option Addr) (c : Nat) (l : List α) (q : Nat), e = .returned (.slice A l.length c) ∧ GLs t s f w w' g q (.slice A l.length c) l ∧ l.length ≤ m ∧ q ≤ p + d

/-- What has been drawn: a list of its own, at most m elements; nothing that was there has changed. -/
def DLs {α : Type} (t : TypeId) (s : Nat) (f : α → List Value) (m : Nat) (w w' : World) (A : Option Addr) (c : Nat) (l : List α) : Prop := OwnS t s f w' w.heap.size (.slice A l.length c) l ∧ Below w.heap.size w w' ∧ l.length ≤ m ∧ l.length ≤ c
section
variable {α : Type} {t : TypeId} {s m : Nat} {f : α → List Value} {w w' w'' : World} {A : Option Addr} {c : Nat} {l : List α}
theorem DLs.below (h : DLs t s f m w w' A c l) (hb : Below w'.heap.size w' w'') : DLs t s f m w w'' A c l := by
  obtain ⟨h1, h2, h3⟩ := h
  exact ⟨h1.below hb, h2.trans (hb.mono h2.size), h3⟩
theorem DLs.alloc (h : DLs t s f m w w' A c l) (o : Obj) : DLs t s f m w (w'.alloc o) A c l := h.below ((Below.refl _ _).alloc (Nat.le_refl _) o)
theorem DLs.drew (h : DLs t s f m w w' A c l) : DLs t s f m w w'.drew A c l := h.below ((Below.refl _ _).drew)
theorem DLs.drewN (h : DLs t s f m w w' A c l) (k : Nat) : DLs t s f m w (w'.drewN k) A c l := h.below (below_drewN (Below.refl _ _) k)
theorem DLs.sees (h : DLs t s f m w w' A c l) : Sees w' w'.heap.size A (strip f l) := OwnS.sees h.1
theorem DLs.bel (h : DLs t s f m w w' A c l) : Below w.heap.size w w' := h.2.1
theorem DLs.len (h : DLs t s f m w w' A c l) : l.length ≤ m := h.2.2.1
theorem DLs.cap (h : DLs t s f m w w' A c l) : l.length ≤ c := h.2.2.2
theorem DLs.n4 (h : DLs t s f m w w' A c l) (hm : m ≤ 4194304) : l.length ≤ 4194304 := Nat.le_trans h.2.2.1 hm
theorem DLs.of_gl {w1 : World} {g q : Nat} (hb : Below w.heap.size w w1) (hg : GLs t s f w1 w' g q (.slice A l.length c) l) (hw : w.heap.size ≤ g) (hl : l.length ≤ m) : DLs t s f m w w' A c l := by
  obtain ⟨h1, h2, h3, h4⟩ := hg
  obtain ⟨A', c', e, r1, _, _⟩ := OwnS.form h1
  injection e with e1 e2 e3
  exact ⟨h1.mono hb.size, hb.trans (below_of_grown h3 hw (Nat.le_of_lt h4)), hl, by omega⟩
end
end Go.Proofs.Ytehdbllpiokbnab

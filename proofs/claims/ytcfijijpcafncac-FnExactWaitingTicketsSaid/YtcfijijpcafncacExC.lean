/-
  Words for the walks of the exact laws on lines: the argument's block, and a line of the call's own. No condition.
-/
import Derived.Test.YtcfijijpcafncacExB
namespace Go.Proofs.Ytcfijijpcafncac
open Go.RowKit

/-- The argument's copy lies in the first new block; its list is where it was; nothing that was there has changed. -/
def EX (w0 w : World) (s n : Int) (A : Option Addr) (c : Nat) (xs : List Int) : Prop :=
  At w w0.heap.size 24 #[.int .i64 s, .int .i64 n, .slice A xs.length c] ∧ Sees w w0.heap.size A (ints xs) ∧ Below w0.heap.size w0 w
/-- Block L holds a line whose list is the call's own. -/
def XL (w : World) (base L : Nat) (s n : Int) (A : Option Addr) (c : Nat) (l : List Int) : Prop :=
  At w L 27 #[.int .i64 s, .int .i64 n, .slice A l.length c] ∧ Own w base (.slice A l.length c) l
section
variable {w0 w w' : World} {base L : Nat} {s n : Int} {A : Option Addr} {c : Nat} {l : List Int}
theorem EX.start (h : Sees w0 w0.heap.size A (ints l)) : EX w0 (w0.alloc (.cells #[.int .i64 s, .int .i64 n, .slice A l.length c] 24)) s n A c l :=
  ⟨At.new _ _ _, h.below ((Below.refl _ _).alloc (Nat.le_refl _) _), (Below.refl _ _).alloc (Nat.le_refl _) _⟩
theorem EX.size (h : EX w0 w s n A c l) : w0.heap.size < w.heap.size := h.1.lt
theorem EX.below (h : EX w0 w s n A c l) (hb : Below w.heap.size w w') : EX w0 w' s n A c l := by
  have hz := h.size
  obtain ⟨h1, h2, h3⟩ := h
  exact ⟨h1.below hb hz, h2.on hb (by omega), h3.trans (hb.mono (by omega))⟩
theorem EX.alloc (h : EX w0 w s n A c l) (o : Obj) : EX w0 (w.alloc o) s n A c l := h.below ((Below.refl _ _).alloc (Nat.le_refl _) o)
theorem EX.drew (h : EX w0 w s n A c l) : EX w0 w.drew s n A c l := h.below ((Below.refl _ _).drew)
theorem EX.cells (h : EX w0 w s n A c l) : w.cell? ⟨w0.heap.size, 0, none⟩ = some (.int .i64 s) ∧ w.cell? ⟨w0.heap.size, 1, none⟩ = some (.int .i64 n) ∧ w.cell? ⟨w0.heap.size, 2, none⟩ = some (.slice A l.length c) ∧ w0.heap.size < w.heap.size :=
  ⟨h.1.cell 0, h.1.cell 1, h.1.cell 2, h.1.lt⟩
theorem EX.sees (h : EX w0 w s n A c l) : Sees w w.heap.size A (ints l) := h.2.1.more (Nat.le_of_lt h.size)
theorem EX.bel (h : EX w0 w s n A c l) : Below w0.heap.size w0 w := h.2.2
theorem XL.start {v : World} (h : Own v base (.slice A l.length c) l) : XL (v.alloc (.cells #[.int .i64 s, .int .i64 n, .slice A l.length c] 27)) base v.heap.size s n A c l :=
  ⟨At.new _ _ _, h.below ((Below.refl _ _).alloc (Nat.le_refl _) _)⟩
theorem XL.below (h : XL w base L s n A c l) (hb : Below w.heap.size w w') : XL w' base L s n A c l := ⟨h.1.below hb h.1.lt, h.2.below hb⟩
theorem XL.alloc (h : XL w base L s n A c l) (o : Obj) : XL (w.alloc o) base L s n A c l := h.below ((Below.refl _ _).alloc (Nat.le_refl _) o)
theorem XL.drew (h : XL w base L s n A c l) : XL w.drew base L s n A c l := h.below ((Below.refl _ _).drew)
theorem XL.cells (h : XL w base L s n A c l) : w.cell? ⟨L, 0, none⟩ = some (.int .i64 s) ∧ w.cell? ⟨L, 1, none⟩ = some (.int .i64 n) ∧ w.cell? ⟨L, 2, none⟩ = some (.slice A l.length c) ∧ L < w.heap.size :=
  ⟨h.1.cell 0, h.1.cell 1, h.1.cell 2, h.1.lt⟩
theorem XL.sees (h : XL w base L s n A c l) : Sees w w.heap.size A (ints l) := Sees.of_own h.2.out
end
end Go.Proofs.Ytcfijijpcafncac

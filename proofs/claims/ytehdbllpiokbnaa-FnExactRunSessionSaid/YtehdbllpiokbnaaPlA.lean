/-
  Pools and holds in memory. No condition.
-/
import Derived.Test.YtehdbllpiokbnaaStrip
import Derived.Test.YtehdbllpiokbnaaOwnI
import Derived.Test.YtehdbllpiokbnaaPoolMath

namespace Go.Proofs.Ytehdbllpiokbnaa
open Go.RowKit Pol

def hcells (x : Ho) : List Value := [.int .i64 x.c, .int .i64 x.o]
/-- The two cells of the hold k of a row of holds. -/
theorem Sees.hold {w : World} {B : Nat} {A : Option Addr} {l : List Ho} (h : Sees w B A (strip hcells l)) {k : Nat} (hk : k < l.length) :
    ∃ b o, A = some ⟨b, o, none⟩ ∧ b < B ∧ w.cell? ⟨b, o + k * 2, none⟩ = some (.int .i64 l[k].c) ∧ w.cell? ⟨b, o + k * 2 + 1, none⟩ = some (.int .i64 l[k].o) := by
  obtain ⟨b, o, e, hb, hc⟩ := Sees.elem (f := hcells) (s := 2) (fun _ => rfl) (by decide) h hk
  exact ⟨b, o, e, hb, by simpa using hc 0 _ rfl, by simpa [Nat.add_assoc] using hc 1 _ rfl⟩
/-- A pool as a value: its lists lie at these addresses. -/
def plv (p : Pl) (A1 A2 A3 : Option Addr) (c1 c2 c3 : Nat) : Array Value := #[.int .i64 p.mx, .slice A1 p.idle.length c1, .slice A2 p.held.length c2, .slice A3 p.wait.length c3]
/-- The three lists of a pool, in memory below block B. -/
def SeesP (w : World) (B : Nat) (A1 A2 A3 : Option Addr) (p : Pl) : Prop := Sees w B A1 (ints p.idle) ∧ Sees w B A2 (strip hcells p.held) ∧ Sees w B A3 (ints p.wait)
section
variable {w w' : World} {B B' : Nat} {A1 A2 A3 : Option Addr} {p : Pl}
theorem SeesP.idle (h : SeesP w B A1 A2 A3 p) : Sees w B A1 (ints p.idle) := h.1
theorem SeesP.held (h : SeesP w B A1 A2 A3 p) : Sees w B A2 (strip hcells p.held) := h.2.1
theorem SeesP.wait (h : SeesP w B A1 A2 A3 p) : Sees w B A3 (ints p.wait) := h.2.2
theorem SeesP.below (h : SeesP w B A1 A2 A3 p) (hb : Below B w w') : SeesP w' B A1 A2 A3 p := ⟨h.1.below hb, h.2.1.below hb, h.2.2.below hb⟩
theorem SeesP.more (h : SeesP w B A1 A2 A3 p) (hB : B ≤ B') : SeesP w B' A1 A2 A3 p := ⟨h.1.more hB, h.2.1.more hB, h.2.2.more hB⟩
theorem SeesP.on (h : SeesP w w.heap.size A1 A2 A3 p) (hb : Below w.heap.size w w') : SeesP w' w'.heap.size A1 A2 A3 p := (h.below hb).more hb.size
theorem SeesP.alloc (h : SeesP w w.heap.size A1 A2 A3 p) (o : Obj) : SeesP (w.alloc o) (w.alloc o).heap.size A1 A2 A3 p := h.on ((Below.refl _ _).alloc (Nat.le_refl _) o)
theorem SeesP.drew (h : SeesP w w.heap.size A1 A2 A3 p) : SeesP w.drew w.drew.heap.size A1 A2 A3 p := h.on (Below.refl _ _).drew
end
/-- Two values lie in different blocks. -/
def Far (v v' : Value) : Prop := ∀ k, v.ownBlock = some k → v'.ownBlock ≠ some k
theorem Far.symm {v v' : Value} (h : Far v v') : Far v' v := fun k h1 h2 => h k h2 h1
theorem Far.none_ (v : Value) (n c : Nat) : Far v (.slice none n c) := fun _ _ h => by cases h
theorem Far.none' (v : Value) (n c : Nat) : Far (.slice none n c) v := fun _ h => by cases h
theorem far_of {v v' : Value} {a b c d : Nat} (ha : ∀ k, v.ownBlock = some k → a ≤ k ∧ k < b) (hb : ∀ k, v'.ownBlock = some k → c ≤ k ∧ k < d) (h : b ≤ c ∨ d ≤ a) : Far v v' := fun k h1 h2 => by
  have := ha k h1
  have := hb k h2
  omega
/-- The three lists of a pool, which the call itself made: from block base on, no two in one block. -/
def OwnP (w : World) (base : Nat) (A1 A2 A3 : Option Addr) (c1 c2 c3 : Nat) (p : Pl) : Prop :=
  Own w base (.slice A1 p.idle.length c1) p.idle ∧ OwnS 91 2 hcells w base (.slice A2 p.held.length c2) p.held ∧ Own w base (.slice A3 p.wait.length c3) p.wait ∧
  Far (.slice A1 p.idle.length c1) (.slice A2 p.held.length c2) ∧ Far (.slice A1 p.idle.length c1) (.slice A3 p.wait.length c3) ∧ Far (.slice A2 p.held.length c2) (.slice A3 p.wait.length c3)
section
variable {w w' : World} {base base' : Nat} {A1 A2 A3 : Option Addr} {c1 c2 c3 : Nat} {p : Pl}
theorem OwnP.below (h : OwnP w base A1 A2 A3 c1 c2 c3 p) (hb : Below w.heap.size w w') : OwnP w' base A1 A2 A3 c1 c2 c3 p := ⟨h.1.below hb, h.2.1.below hb, h.2.2.1.below hb, h.2.2.2⟩
theorem OwnP.mono (h : OwnP w base A1 A2 A3 c1 c2 c3 p) (hb : base' ≤ base) : OwnP w base' A1 A2 A3 c1 c2 c3 p := ⟨h.1.mono hb, h.2.1.mono hb, h.2.2.1.mono hb, h.2.2.2⟩
theorem OwnP.alloc (h : OwnP w base A1 A2 A3 c1 c2 c3 p) (o : Obj) : OwnP (w.alloc o) base A1 A2 A3 c1 c2 c3 p := h.below ((Below.refl _ _).alloc (Nat.le_refl _) o)
theorem OwnP.drew (h : OwnP w base A1 A2 A3 c1 c2 c3 p) : OwnP w.drew base A1 A2 A3 c1 c2 c3 p := h.below (Below.refl _ _).drew
theorem OwnP.sees (h : OwnP w base A1 A2 A3 c1 c2 c3 p) : SeesP w w.heap.size A1 A2 A3 p := ⟨Sees.of_own h.1.out, OwnS.sees h.2.1, Sees.of_own h.2.2.1.out⟩
theorem OwnP.zero (w : World) (base : Nat) : OwnP w base none none none 0 0 0 Pl.zero := ⟨Own.none_ _ _, OwnS.none_ _ _, Own.none_ _ _, Far.none_ _ _ _, Far.none_ _ _ _, Far.none_ _ _ _⟩
/-- A store into a block that is none of the pool's. -/
theorem OwnP.far (h : OwnP w base A1 A2 A3 c1 c2 c3 p) {a : Addr} (ha : a.block < base) (u : Value) : OwnP (w.setCell a u) base A1 A2 A3 c1 c2 c3 p := by
  obtain ⟨h1, h2, h3, h4⟩ := h
  obtain ⟨b, i, sp⟩ := a
  exact ⟨h1.setCell ha u, ownsRow_setCell_below h2 ha u, h3.setCell ha u, h4⟩
end
end Go.Proofs.Ytehdbllpiokbnaa

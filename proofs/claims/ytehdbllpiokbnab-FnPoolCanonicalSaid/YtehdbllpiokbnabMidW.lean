/-
  Only the blocks from lo to hi have changed: what is kept; lists of numbers of the call's own in blocks from lo to hi. No condition.
-/
import Derived.Test.YtehdbllpiokbnabStrip
import Derived.Test.YtehdbllpiokbnabOwnI
import Derived.Test.YtehdbllpiokbnabExF

namespace Go.Proofs.Ytehdbllpiokbnab
open Go.RowKit

/-- Nothing has changed but in blocks from lo to before hi, and what is new. -/
structure Mid (lo hi : Nat) (w w' : World) : Prop where
  os : w'.os = w.os
  tape : w'.tape = w.tape
  output : w'.output = w.output
  size : w.heap.size ≤ w'.heap.size
  block : ∀ k, k < w.heap.size → k < lo ∨ hi ≤ k → w'.heap[k]? = w.heap[k]?
theorem Mid.refl (lo hi : Nat) (w : World) : Mid lo hi w w := ⟨rfl, rfl, rfl, Nat.le_refl _, fun _ _ _ => rfl⟩
theorem Mid.trans {lo hi : Nat} {a b c : World} (h : Mid lo hi a b) (h' : Mid lo hi b c) : Mid lo hi a c :=
  ⟨h'.os.trans h.os, h'.tape.trans h.tape, h'.output.trans h.output, Nat.le_trans h.size h'.size, fun k hk hr => (h'.block k (Nat.lt_of_lt_of_le hk h.size) hr).trans (h.block k hk hr)⟩
theorem Mid.grown {lo hi : Nat} {w w' : World} {v : Value} (h : w.grownBy w' v.ownBlock) (hv : ∀ k, v.ownBlock = some k → lo ≤ k ∧ k < hi) : Mid lo hi w w' :=
  ⟨h.os, h.tape, h.output, h.size, fun k hk hr => h.block k hk (fun e => by have := hv k e.symm; omega)⟩
theorem Mid.of_below {lo hi B : Nat} {w w' : World} (h : Below B w w') (hB : w.heap.size ≤ B) : Mid lo hi w w' :=
  ⟨h.os, h.tape, h.output, h.size, fun k hk _ => h.block k (by omega)⟩
theorem row_mid {lo hi : Nat} {w w' : World} {base : Nat} {t : TypeId} {s n : Nat} {v : Value} {xs : List Value} (h : w.ownsRow base t s v n xs) (hm : Mid lo hi w w') (hr : ∀ k, v.ownBlock = some k → k < lo ∨ hi ≤ k) : w'.ownsRow base t s v n xs := by
  obtain ⟨h1, h2⟩ := h
  refine ⟨h1, ?_⟩
  rcases h2 with h2 | ⟨g, cap, cur, e, hg, hh, r⟩
  · exact .inl h2
  · refine .inr ⟨g, cap, cur, e, hg, ?_, r⟩
    rw [hm.block g (Array.getElem?_eq_some_iff.1 hh).1 (hr g (by rw [e]; rfl))]
    exact hh
theorem At.mid {lo hi : Nat} {w w' : World} {g : Nat} {t : TypeId} {cs : Array Value} (h : At w g t cs) (hm : Mid lo hi w w') (hr : g < lo ∨ hi ≤ g) : At w' g t cs := (hm.block g h.lt hr).trans h
theorem below_mid {lo hi B : Nat} {a w w' : World} (h : Below B a w) (hm : Mid lo hi w w') (hB : B ≤ lo) (hs : B ≤ w.heap.size) : Below B a w' :=
  h.trans ⟨hm.os, hm.tape, hm.output, hm.size, fun k hk => hm.block k (by omega) (.inl (by omega))⟩
/-- The list l lies in a row of the call's own, in a block from lo to before hi. -/
def IvL (w : World) (lo hi : Nat) (A : Option Addr) (c : Nat) (l : List Int) : Prop := Own w lo (.slice A l.length c) l ∧ ∀ k, (Value.slice A l.length c).ownBlock = some k → k < hi
section
variable {w w' : World} {lo hi : Nat} {A : Option Addr} {c : Nat} {l : List Int}
theorem IvL.own (h : IvL w lo hi A c l) : Own w lo (.slice A l.length c) l := h.1
theorem IvL.top (h : IvL w lo hi A c l) : ∀ k, (Value.slice A l.length c).ownBlock = some k → lo ≤ k ∧ k < hi := fun k hk => ⟨(h.1.out.lt k hk).1, h.2 k hk⟩
theorem IvL.of_own {base : Nat} (h : Own w base (.slice A l.length c) l) : IvL w base w.heap.size A c l := ⟨h, fun k hk => (h.out.lt k hk).2⟩
theorem IvL.sees (h : IvL w lo hi A c l) : Sees w w.heap.size A (ints l) := Sees.of_own h.1.out
theorem IvL.cap (h : IvL w lo hi A c l) : l.length ≤ c := by
  obtain ⟨_, _, e, q, _⟩ := own_form h.1.out
  injection e with _ _ e; omega
theorem IvL.below (h : IvL w lo hi A c l) (hb : Below w.heap.size w w') : IvL w' lo hi A c l := ⟨h.1.below hb, h.2⟩
theorem IvL.alloc (h : IvL w lo hi A c l) (o : Obj) : IvL (w.alloc o) lo hi A c l := h.below ((Below.refl _ _).alloc (Nat.le_refl _) o)
theorem IvL.drew (h : IvL w lo hi A c l) : IvL w.drew lo hi A c l := h.below (Below.refl _ _).drew
theorem IvL.mid {lo' hi' : Nat} (h : IvL w lo hi A c l) (hm : Mid lo' hi' w w') (hd : hi ≤ lo' ∨ hi' ≤ lo) : IvL w' lo hi A c l :=
  ⟨row_mid h.1.out hm (fun k hk => by have := h.top k hk; omega), h.2⟩
end
end Go.Proofs.Ytehdbllpiokbnab

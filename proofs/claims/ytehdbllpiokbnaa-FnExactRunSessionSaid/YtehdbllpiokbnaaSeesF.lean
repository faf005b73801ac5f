/-
  Cells that lie in no block of some kind: what is written there does not touch them. No condition.
-/
import Derived.Test.YtehdbllpiokbnaaStrip

namespace Go.Proofs.Ytehdbllpiokbnaa
open Go.RowKit

/-- From address A on lie the cells xs, in a block that is none of F. (Of no cells nothing is said.) -/
def SeesF (w : World) (F : Nat → Prop) (A : Option Addr) (xs : List Value) : Prop :=
  xs ≠ [] → ∃ b o, A = some ⟨b, o, none⟩ ∧ b < w.heap.size ∧ ¬ F b ∧ ∀ j u, xs[j]? = some u → w.cell? ⟨b, o + j, none⟩ = some u
section
variable {w w' : World} {F F' : Nat → Prop} {A : Option Addr} {xs : List Value}
theorem SeesF.sees (h : SeesF w F A xs) : Sees w w.heap.size A xs := fun hx => by
  obtain ⟨b, o, e, hb, _, hc⟩ := h hx
  exact ⟨b, o, e, hb, hc⟩
theorem SeesF.grown (h : SeesF w F A xs) {row : Option Nat} (hg : w.grownBy w' row) (hr : ∀ b, row = some b → F b) : SeesF w' F A xs := fun hx => by
  obtain ⟨b, o, e, hb, hf, hc⟩ := h hx
  refine ⟨b, o, e, Nat.lt_of_lt_of_le hb hg.size, hf, fun j u hu => ?_⟩
  rw [← hc j u hu]
  exact World.cell?_of_block (hg.block b hb (fun e => hf (hr b e.symm)))
theorem SeesF.grown_to (h : SeesF w F A xs) {row : Option Nat} (hg : w.grownBy w' row) (hr : ∀ b, row = some b → F b) (hF : ∀ b, b < w.heap.size → F' b → F b) : SeesF w' F' A xs := fun hx => by
  obtain ⟨b, o, e, hb, hf, hc⟩ := h hx
  refine ⟨b, o, e, Nat.lt_of_lt_of_le hb hg.size, fun hh => hf (hF b hb hh), fun j u hu => ?_⟩
  rw [← hc j u hu]
  exact World.cell?_of_block (hg.block b hb (fun e => hf (hr b e.symm)))
theorem SeesF.below (h : SeesF w F A xs) (hb : Below w.heap.size w w') : SeesF w' F A xs := h.grown (grown_of_below hb none) (by simp)
theorem SeesF.imp (h : SeesF w F A xs) (hF : ∀ b, b < w.heap.size → F' b → F b) : SeesF w F' A xs := fun hx => by
  obtain ⟨b, o, e, hb, hf, hc⟩ := h hx
  exact ⟨b, o, e, hb, fun hh => hf (hF b hb hh), hc⟩
theorem SeesF.of_sees {B : Nat} (h : Sees w B A xs) (hB : B ≤ w.heap.size) (hF : ∀ b, b < B → ¬ F b) : SeesF w F A xs := fun hx => by
  obtain ⟨b, o, e, hb, hc⟩ := h hx
  exact ⟨b, o, e, by omega, hF b hb, hc⟩
theorem SeesF.of_row {base size n c : Nat} {e : TypeId} (h : w.ownsRow base e size (.slice A n c) n xs) (hF : ∀ b, base ≤ b → b < w.heap.size → ¬ F b) : SeesF w F A xs := fun hx => by
  obtain ⟨b, o, e1, hb, hc⟩ := Sees.of_own h hx
  refine ⟨b, o, e1, hb, hF b ?_ hb, hc⟩
  subst e1
  exact (h.lt b rfl).1
theorem SeesF.alloc (h : SeesF w F A xs) (o : Obj) : SeesF (w.alloc o) F A xs := h.below ((Below.refl _ _).alloc (Nat.le_refl _) o)
theorem SeesF.drew (h : SeesF w F A xs) : SeesF w.drew F A xs := h.below (Below.refl _ _).drew
end
end Go.Proofs.Ytehdbllpiokbnaa

/-
  What the model's parseList answers. Condition: the text is at most 2^22 bytes long.
-/
import Derived.Test.YtehdbllpiokbnacTxtP
import Derived.Test.YtehdbllpiokbnacSeesF
import Derived.Maps.AppendAt
namespace Go.Proofs.Ytehdbllpiokbnac
open Go.RowKit Txt Pol

def nnB (l : List Int) : Bool := decide (∀ x ∈ l, 0 ≤ x)
theorem nnB_iff {l : List Int} : nnB l = true ↔ ∀ x ∈ l, 0 ≤ x := by unfold nnB; simp
def nlT (S : List UInt8) : List Int := if nnB (numL S) = true then numL S else []
theorem nlT_yes {S : List UInt8} (h : nnB (numL S) = true) : nlT S = numL S := if_pos h
theorem nlT_no {S : List UInt8} (h : nnB (numL S) = false) : nlT S = [] := by unfold nlT; rw [h]; rfl
/-- The block that was made first, and those from M on: where a list lies that was begun ahead of other lists. -/
def OutF (g M : Nat) (q : Nat) : Prop := q = g ∨ M ≤ q
theorem outF_of {g M n : Nat} {v v' : Value} (h : ∀ q, v.ownBlock = some q → OutF g M q) (hM : M ≤ n) (hat : v'.ownBlock = v.ownBlock ∨ v'.ownBlock = some n) : ∀ q, v'.ownBlock = some q → OutF g M q := fun q hq => by
  rcases hat with e | e
  · exact h q (e ▸ hq)
  · rw [e] at hq; injection hq with hq; exact .inr (by omega)
theorem SeesF.wordF {w : World} {F : Nat → Prop} {A : Option Addr} {l : List (List UInt8)} (h : SeesF w F A (strip tcell l)) {k : Nat} (hk : k < l.length) : ∃ b o, A = some ⟨b, o, none⟩ ∧ b < w.heap.size ∧ w.cell? ⟨b, o + k, none⟩ = some (.string (ByteArray.mk l[k].toArray)) := h.sees.word hk
end Go.Proofs.Ytehdbllpiokbnac

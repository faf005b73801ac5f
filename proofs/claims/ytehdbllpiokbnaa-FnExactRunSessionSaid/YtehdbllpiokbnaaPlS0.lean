/-
  What a slice without its first elements sees. No condition.
-/
import Derived.Test.YtehdbllpiokbnaaPlC

namespace Go.Proofs.Ytehdbllpiokbnaa
open Go.RowKit Pol

theorem Sees.slide {w : World} {B : Nat} {A : Option Addr} {l : List Int} (h : Sees w B A (ints l)) (k : Nat) : Sees w B (Option.map (fun x => x.add k) A) (ints (l.drop k)) := by
  have e : ints (l.drop k) = (ints l).drop k := by simp [ints]
  rw [e]
  intro hx
  obtain ⟨b, o, e1, _⟩ := h (by intro e2; rw [e2] at hx; simp at hx)
  have h2 := h.drop (k := k) e1
  have hadd : (⟨b, o, none⟩ : Addr).add k = ⟨b, o + k, none⟩ := by unfold Addr.add; split <;> simp_all
  have h3 : Option.map (fun x => x.add k) A = some ⟨b, o + k, none⟩ := by rw [e1]; simp only [Option.map_some, hadd]
  rw [h3]
  exact h2 hx
end Go.Proofs.Ytehdbllpiokbnaa

/-
  What the model's ApplySettings and ResetPlan answer, and the functions that they call. Condition: the lists lie in memory.
-/
import Derived.Test.YtehdbllpiokbnabStC

namespace Go.Proofs.Ytehdbllpiokbnab
open Go.RowKit Stt

theorem stcl_on (l : List Stg) : ∀ u ∈ strip stcl l, u.oneCell' = true := by
  induction l with
  | nil => intro u hu; simp [strip] at hu
  | cons x l ih =>
    intro u hu
    rw [strip_cons, List.mem_append] at hu
    rcases hu with hu | hu
    · simp [stcl] at hu; rcases hu with rfl | rfl <;> rfl
    · exact ih u hu
theorem tab_yes {f : Int → Int} {k : Nat} (h : 0 ≤ f k) : tab f (k + 1) = tab f k ++ [⟨k, f k⟩] := if_pos h
theorem tab_no {f : Int → Int} {k : Nat} (h : ¬ 0 ≤ f k) : tab f (k + 1) = tab f k := if_neg h
end Go.Proofs.Ytehdbllpiokbnab

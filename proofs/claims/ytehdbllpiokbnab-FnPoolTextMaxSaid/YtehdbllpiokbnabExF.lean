/-
  What the helpers of the exact laws do that mark a list of the call's own (1, 2, 3 ..) and read the marks again. Condition: the list is at most 2^22 long.
-/
import Derived.Test.YtehdbllpiokbnabExA

namespace Go.Proofs.Ytehdbllpiokbnab
open Go.RowKit

/-- 1, 2, .. -/
def marks (n : Nat) : List Int := (List.range n).map fun (i : Nat) => 1 + (i : Int)
theorem marks_len (n : Nat) : (marks n).length = n := by simp [marks]
theorem marks_succ (n : Nat) : marks (n + 1) = marks n ++ [1 + (n : Int)] := by simp [marks, List.range_succ]
theorem marks_at {n k : Nat} (h : k < (marks n).length) : (marks n)[k] = 1 + (k : Int) := by simp [marks]
/-- The first k of a list marked. -/
def marked (k : Nat) (ys : List Int) : List Int := marks k ++ ys.drop k
theorem marked_len {k : Nat} {ys : List Int} (h : k ≤ ys.length) : (marked k ys).length = ys.length := by simp [marked, marks_len]; omega
theorem marked_zero (ys : List Int) : marked 0 ys = ys := by simp [marked, marks]
theorem marked_all {k : Nat} {ys : List Int} (h : ¬ k < ys.length) (hk : k ≤ ys.length) : marked k ys = marks ys.length := by
  have : k = ys.length := by omega
  subst this
  simp [marked]
theorem marked_set {k : Nat} {ys : List Int} (h : k < ys.length) : (marked k ys).set k (1 + (k : Int)) = marked (k + 1) ys := by
  unfold marked
  rw [List.set_append_right _ _ (by simp [marks_len]), marks_succ, marks_len, Nat.sub_self, List.drop_eq_getElem_cons h, List.set_cons_zero, List.append_assoc]
  rfl

theorem Own.kept' {w w' : World} {base : Nat} {v : Value} {ys : List Int} {row : Option Nat} (h : Own w base v ys) (hg : w.grownBy w' row) (hr : ∀ k, v.ownBlock = some k → row ≠ some k) : Own w' base v ys := by
  refine h.out.kept hg ?_
  rcases hv : v.ownBlock with _ | k
  · exact .inl rfl
  · exact .inr (fun e => hr k hv e.symm)

theorem sees_marks {w : World} {base : Nat} {A : Option Addr} {c m : Nat} (h : Own w base (.slice A m c) (marks m)) : Sees w w.heap.size A (ints (marks m)) := by
  have h' : Own w base (.slice A (marks m).length c) (marks m) := by rw [marks_len]; exact h
  exact Sees.of_own h'.out
end Go.Proofs.Ytehdbllpiokbnab

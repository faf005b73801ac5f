/-
  What the helpers of the exact laws do on lists of numbers from any count on: szIntS, markIntS, heldIntS. Condition: the list is at most 2^22 long, the count from 0 on and at most 2^30.
-/
import Derived.Test.YtehdbllpiokbnabExF

namespace Go.Proofs.Ytehdbllpiokbnab
open Go.RowKit

/-- k0, k0 + 1, .. -/
def marksG (k0 n : Nat) : List Int := (List.range n).map fun (i : Nat) => (k0 : Int) + (i : Int)
theorem marksG_len (k0 n : Nat) : (marksG k0 n).length = n := by simp [marksG]
theorem marksG_succ (k0 n : Nat) : marksG k0 (n + 1) = marksG k0 n ++ [(k0 : Int) + (n : Int)] := by simp [marksG, List.range_succ]
theorem marksG_at {k0 n k : Nat} (h : k < (marksG k0 n).length) : (marksG k0 n)[k] = (k0 : Int) + (k : Int) := by simp [marksG]
/-- The first k of a list marked. -/
def markedG (k0 k : Nat) (ys : List Int) : List Int := marksG k0 k ++ ys.drop k
theorem markedG_len {k0 k : Nat} {ys : List Int} (h : k ≤ ys.length) : (markedG k0 k ys).length = ys.length := by simp [markedG, marksG_len]; omega
theorem markedG_zero (k0 : Nat) (ys : List Int) : markedG k0 0 ys = ys := by simp [markedG, marksG]
theorem markedG_all {k0 k : Nat} {ys : List Int} (h : ¬ k < ys.length) (hk : k ≤ ys.length) : markedG k0 k ys = marksG k0 ys.length := by
  have : k = ys.length := by omega
  subst this
  simp [markedG]
theorem markedG_set {k0 k : Nat} {ys : List Int} (h : k < ys.length) : (markedG k0 k ys).set k ((k0 : Int) + (k : Int)) = markedG k0 (k + 1) ys := by
  unfold markedG
  rw [List.set_append_right _ _ (by simp [marksG_len]), marksG_succ, marksG_len, Nat.sub_self, List.drop_eq_getElem_cons h, List.set_cons_zero, List.append_assoc]
  rfl
theorem seesG_marks {w : World} {base : Nat} {A : Option Addr} {c k0 m : Nat} (h : Own w base (.slice A m c) (marksG k0 m)) : Sees w w.heap.size A (ints (marksG k0 m)) := by
  have h' : Own w base (.slice A (marksG k0 m).length c) (marksG k0 m) := by rw [marksG_len]; exact h
  exact Sees.of_own h'.out
end Go.Proofs.Ytehdbllpiokbnab

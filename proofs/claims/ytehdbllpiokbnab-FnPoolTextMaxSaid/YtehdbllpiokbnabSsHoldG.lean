/-
  Hold in lists: what the exact laws' helpers answer from any count on. Condition: the list lies in memory and is at most 2^22 long, the count from 0 on and at most 2^30.
-/
import Derived.Test.YtehdbllpiokbnabSsHold

namespace Go.Proofs.Ytehdbllpiokbnab
open Go.RowKit Pol

def Ho.mkG (k0 : Nat) (i : Nat) : Ho := ⟨k0 + 2 * (i : Int), k0 + 2 * (i : Int) + 1⟩
def Ho.marksG (k0 n : Nat) : List Ho := (List.range n).map (Ho.mkG k0)
theorem Ho.marksG_len (k0 n : Nat) : (Ho.marksG k0 n).length = n := by simp [Ho.marksG]
theorem Ho.marksG_succ (k0 n : Nat) : Ho.marksG k0 (n + 1) = Ho.marksG k0 n ++ [Ho.mkG k0 n] := by simp [Ho.marksG, List.range_succ]
theorem Ho.marksG_at {k0 n k : Nat} (h : k < (Ho.marksG k0 n).length) : (Ho.marksG k0 n)[k] = Ho.mkG k0 k := by simp [Ho.marksG]
def Ho.markedG (k0 k : Nat) (ys : List Ho) : List Ho := Ho.marksG k0 k ++ ys.drop k
theorem Ho.markedG_len {k0 k : Nat} {ys : List Ho} (h : k ≤ ys.length) : (Ho.markedG k0 k ys).length = ys.length := by simp [Ho.markedG, Ho.marksG_len]; omega
theorem Ho.markedG_zero (k0 : Nat) (ys : List Ho) : Ho.markedG k0 0 ys = ys := by simp [Ho.markedG, Ho.marksG]
theorem Ho.markedG_all {k0 k : Nat} {ys : List Ho} (h : ¬ k < ys.length) (hk : k ≤ ys.length) : Ho.markedG k0 k ys = Ho.marksG k0 ys.length := by
  have : k = ys.length := by omega
  subst this
  simp [Ho.markedG]
theorem Ho.markedG_set {k0 k : Nat} {ys : List Ho} (h : k < ys.length) : (Ho.markedG k0 k ys).set k (Ho.mkG k0 k) = Ho.markedG k0 (k + 1) ys := by
  unfold Ho.markedG
  rw [List.set_append_right _ _ (by simp [Ho.marksG_len]), Ho.marksG_succ, Ho.marksG_len, Nat.sub_self, List.drop_eq_getElem_cons h, List.set_cons_zero, List.append_assoc]
  rfl
end Go.Proofs.Ytehdbllpiokbnab

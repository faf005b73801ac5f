/-
  What the program's ApplySettings answers, and the functions that it calls. Condition: the lists lie in memory.
-/
import Derived.Test.YtehdbllpiokbnabStA
import Derived.Test.YtehdbllpiokbnabSetMathB
import Derived.Test.YtehdbllpiokbnabApp
import Derived.Test.YtehdbllpiokbnabOwnX

namespace Go.Proofs.Ytehdbllpiokbnab
open Go.RowKit Stt

abbrev OwnG := OwnS (α := Stg) 68 2 stcl
theorem stgInfo : (Try.prog.info? 68).map (fun i => (i.zero, i.size, i.bytes)) = some (some (.agg #[.int .i64 0, .int .i64 0]), 2, 16) := by kernel_rfl
def low (l : List Stg) (c : Stg) : List Stg := l.filter fun x => decide (x.n < c.n)
def high (l : List Stg) (c : Stg) : List Stg := l.filter fun x => decide (x.n > c.n)
def midl (c : Stg) : List Stg := if c.v = -1 then [] else [c]
theorem put_parts (l : List Stg) (c : Stg) : put l c = (low l c ++ midl c) ++ high l c := by unfold put low high midl; rw [List.append_assoc]
theorem low_len (l : List Stg) (c : Stg) : (low l c).length ≤ l.length := List.length_filter_le _ _
theorem high_len (l : List Stg) (c : Stg) : (high l c).length ≤ l.length := List.length_filter_le _ _
theorem midl_len (c : Stg) : (midl c).length ≤ 1 := by unfold midl; split <;> simp
theorem low_yes {l : List Stg} {c : Stg} {k : Nat} (hk : k < l.length) (h : l[k].n < c.n) : low (l.take (k + 1)) c = low (l.take k) c ++ [l[k]] := by
  unfold low; rw [filter_take_succ hk, if_pos (by simpa using h)]
theorem low_no {l : List Stg} {c : Stg} {k : Nat} (hk : k < l.length) (h : ¬ l[k].n < c.n) : low (l.take (k + 1)) c = low (l.take k) c := by
  unfold low; rw [filter_take_succ hk, if_neg (by simpa using h), List.append_nil]
theorem high_yes {l : List Stg} {c : Stg} {k : Nat} (hk : k < l.length) (h : l[k].n > c.n) : high (l.take (k + 1)) c = high (l.take k) c ++ [l[k]] := by
  unfold high; rw [filter_take_succ hk, if_pos (by simpa using h)]
theorem high_no {l : List Stg} {c : Stg} {k : Nat} (hk : k < l.length) (h : ¬ l[k].n > c.n) : high (l.take (k + 1)) c = high (l.take k) c := by
  unfold high; rw [filter_take_succ hk, if_neg (by simpa using h), List.append_nil]
end Go.Proofs.Ytehdbllpiokbnab

/-
  Plain facts for the laws on settings. No condition; nothing of the program's text is used here.
-/
import Derived.Test.YtehdbllpiokbnabSetMathB

namespace Go.Proofs.Ytehdbllpiokbnab.Stt
open Lea

theorem sets_out {l : List Stg} (h : setsB l = true) (k : Nat) : setsB (l.take k ++ l.drop (k + 1)) = true := by
  obtain ⟨h1, h2⟩ := setsB_iff.1 h
  have e : l.take k ++ l.drop (k + 1) = l.eraseIdx k := (List.eraseIdx_eq_take_drop_succ l k).symm
  rw [e]
  have hs := List.eraseIdx_sublist l k
  exact setsB_iff.2 ⟨fun x hx => h1 x (hs.subset hx), h2.sublist hs⟩
theorem val_snoc_no : ∀ {l : List Stg} {x : Stg} {n : Int} (_ : x.n ≠ n), val (l ++ [x]) n = val l n
  | [], x, n, h => by simp [val, h]
  | y :: l, x, n, h => by simp [val, val_snoc_no (l := l) h]
theorem val_snoc_yes : ∀ {l : List Stg} {x : Stg} {n : Int} (_ : ∀ y ∈ l, y.n ≠ n) (_ : x.n = n), val (l ++ [x]) n = x.v
  | [], x, n, _, h => by simp [val, h]
  | y :: l, x, n, h, e => by
    have hy : y.n ≠ n := h y (by simp)
    simp [val, hy, val_snoc_yes (l := l) (fun z hz => h z (by simp [hz])) e]
/-- The value of a setting, seen from the front. -/
theorem val_take_no {l : List Stg} {k : Nat} {n : Int} (hk : k < l.length) (h : l[k].n ≠ n) : val (l.take (k + 1)) n = val (l.take k) n := by
  rw [List.take_succ_eq_append_getElem hk, val_snoc_no h]
theorem val_take_yes {l : List Stg} {k : Nat} {n : Int} (hl : setsB l = true) (hk : k < l.length) (h : l[k].n = n) : val (l.take (k + 1)) n = l[k].v := by
  rw [List.take_succ_eq_append_getElem hk, val_snoc_yes (fun y hy => ?_) h]
  obtain ⟨i, hi, rfl⟩ := List.getElem_of_mem hy
  rw [List.length_take] at hi
  rw [List.getElem_take]
  have := asc_at (setsB_iff.1 hl).2 (i := i) (j := k) (by omega) hk
  omega
def eqT (l m : List Stg) : Bool := decide (l = m)
theorem eqT_iff {l m : List Stg} : eqT l m = true ↔ l = m := by unfold eqT; simp
theorem eqT_no {l m : List Stg} (h : l ≠ m) : eqT l m = false := by unfold eqT; simp [h]
theorem eqT_self (l : List Stg) : eqT l l = true := eqT_iff.2 rfl
theorem others_yes {l cs : List Stg} {k : Nat} (hk : k < l.length) (h : l[k].n ∉ cs.map Stg.n) : others (l.take (k + 1)) cs = others (l.take k) cs ++ [l[k]] := by
  unfold others
  rw [List.take_succ_eq_append_getElem hk, List.filter_append, List.filter_cons, List.filter_nil, if_pos (by simpa using h)]
theorem others_no {l cs : List Stg} {k : Nat} (hk : k < l.length) (h : l[k].n ∈ cs.map Stg.n) : others (l.take (k + 1)) cs = others (l.take k) cs := by
  unfold others
  rw [List.take_succ_eq_append_getElem hk, List.filter_append, List.filter_cons, List.filter_nil, if_neg (by simpa using h), List.append_nil]
theorem others_len (l cs : List Stg) : (others l cs).length ≤ l.length := List.length_filter_le _ _
theorem apply_last' {l cs : List Stg} (h : applyB l cs = true) {k : Nat} (hk : k < cs.length) (he : k + 1 = cs.length) : val (applyL l cs) cs[k].n = cs[k].v := apply_last h hk he
end Go.Proofs.Ytehdbllpiokbnab.Stt

/-
  Plain facts on adding leases. No condition.
-/
import Derived.Test.YtncijbmahidjbabLsH
import Derived.Test.YtncijbmahidjbabLeaseMathB
namespace Go.Proofs.Ytncijbmahidjbab
open Lse

theorem add_order {l : List L} {x y : L} (h : addB l x = true) : addB (l ++ [x]) y = (addB l y && addB (addL l y) x) := by
  have h' := h
  simp only [addB, Bool.and_eq_true] at h'
  obtain ⟨h1, h2⟩ := h'
  have e1 : addB (l ++ [x]) y = validB (l ++ [x] ++ [y]) := by simp only [addB, h2, Bool.true_and]
  have e2 : addB l y = validB (l ++ [y]) := by simp only [addB, h1, Bool.true_and]
  rw [e1, e2]
  rcases hy : validB (l ++ [y]) with _ | _
  · rw [Bool.false_and, Bool.eq_false_iff]
    intro hh
    have hs : (l ++ [y]).Sublist (l ++ [x] ++ [y]) := List.Sublist.append (List.sublist_append_left l [x]) (List.Sublist.refl _)
    rw [valid_sub hh hs] at hy
    cases hy
  · have e3 : addL l y = l ++ [y] := add_yes (by rw [e2, hy])
    rw [Bool.true_and, e3, order_any]
    simp only [addB, hy, Bool.true_and]
end Go.Proofs.Ytncijbmahidjbab

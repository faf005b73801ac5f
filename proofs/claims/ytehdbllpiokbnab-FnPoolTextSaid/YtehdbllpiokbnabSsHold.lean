/-
  Hold in lists: what the exact laws' helpers answer. Condition: the list lies in memory and is at most 2^22 long.
-/
import Derived.Test.YtehdbllpiokbnabStrip
import Derived.Test.YtehdbllpiokbnabPlA
import Derived.Handy
import Derived.Deep.RegionHeld3

namespace Go.Proofs.Ytehdbllpiokbnab
open Go.RowKit Pol

theorem hcells_len (x : Ho) : (hcells x).length = 2 := rfl
theorem hcells_one : ∀ l : List Ho, ∀ u ∈ strip hcells l, u.oneCell' = true := by
  intro l u hu
  obtain ⟨x, _, hx⟩ := List.mem_flatMap.1 hu
  simp [hcells] at hx
  rcases hx with rfl | rfl <;> rfl
def Ho.zero : Ho := ⟨0, 0⟩
/-- The mark of element i. -/
def Ho.mk_ (i : Nat) : Ho := ⟨1 + 2 * (i : Int), 1 + 2 * (i : Int) + 1⟩
def Ho.marks (n : Nat) : List Ho := (List.range n).map Ho.mk_
theorem Ho.marks_len (n : Nat) : (Ho.marks n).length = n := by simp [Ho.marks]
theorem Ho.marks_succ (n : Nat) : Ho.marks (n + 1) = Ho.marks n ++ [Ho.mk_ n] := by simp [Ho.marks, List.range_succ]
theorem Ho.marks_at {n k : Nat} (h : k < (Ho.marks n).length) : (Ho.marks n)[k] = Ho.mk_ k := by simp [Ho.marks]
def Ho.marked (k : Nat) (ys : List Ho) : List Ho := Ho.marks k ++ ys.drop k
theorem Ho.marked_len {k : Nat} {ys : List Ho} (h : k ≤ ys.length) : (Ho.marked k ys).length = ys.length := by simp [Ho.marked, Ho.marks_len]; omega
theorem Ho.marked_zero (ys : List Ho) : Ho.marked 0 ys = ys := by simp [Ho.marked, Ho.marks]
theorem Ho.marked_all {k : Nat} {ys : List Ho} (h : ¬ k < ys.length) (hk : k ≤ ys.length) : Ho.marked k ys = Ho.marks ys.length := by
  have : k = ys.length := by omega
  subst this
  simp [Ho.marked]
theorem Ho.marked_set {k : Nat} {ys : List Ho} (h : k < ys.length) : (Ho.marked k ys).set k (Ho.mk_ k) = Ho.marked (k + 1) ys := by
  unfold Ho.marked
  rw [List.set_append_right _ _ (by simp [Ho.marks_len]), Ho.marks_succ, Ho.marks_len, Nat.sub_self, List.drop_eq_getElem_cons h, List.set_cons_zero, List.append_assoc]
  rfl
theorem Ho.fill_set {xs : List Ho} {k : Nat} (hlt : k < xs.length) : (xs.take k ++ List.replicate (xs.length - k) Ho.zero).set k xs[k] = xs.take (k + 1) ++ List.replicate (xs.length - (k + 1)) Ho.zero := by
  rw [List.set_append_right _ _ (by simp; omega)]
  have e1 : xs.length - k = (xs.length - (k + 1)) + 1 := by omega
  rw [e1, List.replicate_succ]
  simp only [List.length_take, Nat.min_eq_left (Nat.le_of_lt hlt), Nat.sub_self, List.set_cons_zero]
  rw [List.take_succ_eq_append_getElem hlt, List.append_assoc]
  rfl
theorem Ho.made (n : Nat) : (madeCells #[.int .i64 0, .int .i64 0] (n * 2)).toList = strip hcells (List.replicate n Ho.zero) := by
  apply List.ext_getElem?
  intro i
  rcases Nat.lt_or_ge i (n * 2) with h | h
  · have hi : (strip hcells (List.replicate n Ho.zero))[i]? = some (.int .i64 0) := by
      have h1 : i = i / 2 * 2 + i % 2 := by omega
      have h2 : i / 2 < n := by omega
      rw [h1, strip_at hcells_len (k := i / 2) (by simpa using h2) (by omega)]
      have h3 : i % 2 < 2 := by omega
      simp only [List.getElem_replicate, Ho.zero, hcells]
      generalize i % 2 = q at h3
      match q, h3 with
      | 0, _ => rfl
      | 1, _ => rfl
    rw [hi]
    have h3 : i % 2 < 2 := by omega
    simp only [madeCells, Array.toList_map, Array.toList_range, List.getElem?_map, List.getElem?_range h, Option.map_some]
    congr 1
    simp only [List.size_toArray, List.length_cons, List.length_nil, Nat.zero_add]
    generalize i % 2 = q at h3
    match q, h3 with
    | 0, _ => rfl
    | 1, _ => rfl
  · rw [List.getElem?_eq_none (by simp [madeCells]; omega), List.getElem?_eq_none (by rw [strip_len hcells_len]; simpa using h)]
theorem holdInfo : (Try.prog.info? 76).map (fun i => (i.zero, i.size, i.bytes)) = some (some (.agg #[.int .i64 0, .int .i64 0]), 2, 16) := by kernel_rfl
/-- The cells of element k of a row of the call's own. -/
theorem hold_at {w : World} {base g n c : Nat} {ys : List Ho} (h : w.ownsRow base 76 2 (.slice (some ⟨g, 0, none⟩) n c) n (strip hcells ys)) {k : Nat} (hk : k < ys.length) :
    w.cell? ⟨g, k * 2, none⟩ = some (.int .i64 ys[k].c) ∧ w.cell? ⟨g, k * 2 + 1, none⟩ = some (.int .i64 ys[k].o) := by
  obtain ⟨b, o, e, _, hc⟩ := Sees.elem hcells_len (by decide) (Sees.of_own h) hk
  injection e with e
  injection e with e1 e2
  subst e1 e2
  refine ⟨?_, ?_⟩
  · simpa using hc 0 _ rfl
  · simpa using hc 1 _ rfl
/-- An element is written. -/
theorem hold_put {w : World} {base g n c : Nat} {ys : List Ho} (h : w.ownsRow base 76 2 (.slice (some ⟨g, 0, none⟩) n c) n (strip hcells ys)) {k : Nat} (hk : k < ys.length) (x : Ho) :
    ((w.setCell ⟨g, k * 2, none⟩ (.int .i64 x.c)).setCell ⟨g, k * 2 + 1, none⟩ (.int .i64 x.o)).ownsRow base 76 2 (.slice (some ⟨g, 0, none⟩) n c) n (strip hcells (ys.set k x)) := by
  rw [strip_set hcells_len ys k hk x]
  exact row_put (row_put h _ _) _ _
end Go.Proofs.Ytehdbllpiokbnab

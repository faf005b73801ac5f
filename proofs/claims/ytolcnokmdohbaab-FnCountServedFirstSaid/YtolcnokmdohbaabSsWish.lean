/-
  Wish in lists: what the exact laws' helpers answer. Condition: the list lies in memory and is at most 2^22 long.
-/
import Derived.Test.YtolcnokmdohbaabStrip
import Derived.Test.YtolcnokmdohbaabWiA
import Derived.Handy
import Derived.Deep.RegionHeld3
namespace Go.Proofs.Ytolcnokmdohbaab
open Go.RowKit Wis

theorem wcells_len (x : Wi) : (wcells x).length = 3 := rfl
theorem wcells_one : ∀ l : List Wi, ∀ u ∈ strip wcells l, u.oneCell' = true := by
  intro l u hu
  obtain ⟨x, _, hx⟩ := List.mem_flatMap.1 hu
  simp [wcells] at hx
  rcases hx with rfl | rfl | rfl <;> rfl
def Wi.zero : Wi := ⟨0, 0, 0⟩
/-- The mark of element i. -/
def Wi.mk_ (i : Nat) : Wi := ⟨1 + 3 * (i : Int), 1 + 3 * (i : Int) + 1, 1 + 3 * (i : Int) + 2⟩
def Wi.marks (n : Nat) : List Wi := (List.range n).map Wi.mk_
theorem Wi.marks_len (n : Nat) : (Wi.marks n).length = n := by simp [Wi.marks]
theorem Wi.marks_succ (n : Nat) : Wi.marks (n + 1) = Wi.marks n ++ [Wi.mk_ n] := by simp [Wi.marks, List.range_succ]
theorem Wi.marks_at {n k : Nat} (h : k < (Wi.marks n).length) : (Wi.marks n)[k] = Wi.mk_ k := by simp [Wi.marks]
def Wi.marked (k : Nat) (ys : List Wi) : List Wi := Wi.marks k ++ ys.drop k
theorem Wi.marked_len {k : Nat} {ys : List Wi} (h : k ≤ ys.length) : (Wi.marked k ys).length = ys.length := by simp [Wi.marked, Wi.marks_len]; omega
theorem Wi.marked_zero (ys : List Wi) : Wi.marked 0 ys = ys := by simp [Wi.marked, Wi.marks]
theorem Wi.marked_all {k : Nat} {ys : List Wi} (h : ¬ k < ys.length) (hk : k ≤ ys.length) : Wi.marked k ys = Wi.marks ys.length := by
  have : k = ys.length := by omega
  subst this
  simp [Wi.marked]
theorem Wi.marked_set {k : Nat} {ys : List Wi} (h : k < ys.length) : (Wi.marked k ys).set k (Wi.mk_ k) = Wi.marked (k + 1) ys := by
  unfold Wi.marked
  rw [List.set_append_right _ _ (by simp [Wi.marks_len]), Wi.marks_succ, Wi.marks_len, Nat.sub_self, List.drop_eq_getElem_cons h, List.set_cons_zero, List.append_assoc]
  rfl
theorem Wi.fill_set {xs : List Wi} {k : Nat} (hlt : k < xs.length) : (xs.take k ++ List.replicate (xs.length - k) Wi.zero).set k xs[k] = xs.take (k + 1) ++ List.replicate (xs.length - (k + 1)) Wi.zero := by
  rw [List.set_append_right _ _ (by simp; omega)]
  have e1 : xs.length - k = (xs.length - (k + 1)) + 1 := by omega
  rw [e1, List.replicate_succ]
  simp only [List.length_take, Nat.min_eq_left (Nat.le_of_lt hlt), Nat.sub_self, List.set_cons_zero]
  rw [List.take_succ_eq_append_getElem hlt, List.append_assoc]
  rfl
theorem Wi.made (n : Nat) : (madeCells #[.int .i64 0, .int .i64 0, .int .i64 0] (n * 3)).toList = strip wcells (List.replicate n Wi.zero) := by
  apply List.ext_getElem?
  intro i
  rcases Nat.lt_or_ge i (n * 3) with h | h
  · have hi : (strip wcells (List.replicate n Wi.zero))[i]? = some (.int .i64 0) := by
      have h1 : i = i / 3 * 3 + i % 3 := by omega
      have h2 : i / 3 < n := by omega
      rw [h1, strip_at wcells_len (k := i / 3) (by simpa using h2) (by omega)]
      have h3 : i % 3 < 3 := by omega
      simp only [List.getElem_replicate, Wi.zero, wcells]
      generalize i % 3 = q at h3
      match q, h3 with
      | 0, _ => rfl
      | 1, _ => rfl
      | 2, _ => rfl
    rw [hi]
    have h3 : i % 3 < 3 := by omega
    simp only [madeCells, Array.toList_map, Array.toList_range, List.getElem?_map, List.getElem?_range h, Option.map_some]
    congr 1
    simp only [List.size_toArray, List.length_cons, List.length_nil, Nat.zero_add]
    generalize i % 3 = q at h3
    match q, h3 with
    | 0, _ => rfl
    | 1, _ => rfl
    | 2, _ => rfl
  · rw [List.getElem?_eq_none (by simp [madeCells]; omega), List.getElem?_eq_none (by rw [strip_len wcells_len]; simpa using h)]
theorem wishInfo : (Try.prog.info? 30).map (fun i => (i.zero, i.size, i.bytes)) = some (some (.agg #[.int .i64 0, .int .i64 0, .int .i64 0]), 3, 24) := by kernel_rfl
/-- The cells of element k of a row of the call's own. -/
theorem wish_at {w : World} {base g n c : Nat} {ys : List Wi} (h : w.ownsRow base 30 3 (.slice (some ⟨g, 0, none⟩) n c) n (strip wcells ys)) {k : Nat} (hk : k < ys.length) :
    w.cell? ⟨g, k * 3, none⟩ = some (.int .i64 ys[k].a) ∧ w.cell? ⟨g, k * 3 + 1, none⟩ = some (.int .i64 ys[k].h) ∧ w.cell? ⟨g, k * 3 + 2, none⟩ = some (.int .i64 ys[k].p) := by
  obtain ⟨b, o, e, _, hc⟩ := Sees.elem wcells_len (by decide) (Sees.of_own h) hk
  injection e with e
  injection e with e1 e2
  subst e1 e2
  refine ⟨?_, ?_, ?_⟩
  · simpa using hc 0 _ rfl
  · simpa using hc 1 _ rfl
  · simpa using hc 2 _ rfl
/-- An element is written. -/
theorem wish_put {w : World} {base g n c : Nat} {ys : List Wi} (h : w.ownsRow base 30 3 (.slice (some ⟨g, 0, none⟩) n c) n (strip wcells ys)) {k : Nat} (hk : k < ys.length) (x : Wi) :
    (((w.setCell ⟨g, k * 3, none⟩ (.int .i64 x.a)).setCell ⟨g, k * 3 + 1, none⟩ (.int .i64 x.h)).setCell ⟨g, k * 3 + 2, none⟩ (.int .i64 x.p)).ownsRow base 30 3 (.slice (some ⟨g, 0, none⟩) n c) n (strip wcells (ys.set k x)) := by
  rw [strip_set wcells_len ys k hk x]
  exact row_put (row_put (row_put h _ _) _ _) _ _
end Go.Proofs.Ytolcnokmdohbaab

/-
  Setting in lists: what the exact laws' helpers answer. Condition: the list lies in memory and is at most 2^22 long.
-/
import Derived.Test.YtehdbllpiokbnabStrip
import Derived.Test.YtehdbllpiokbnabStA
import Derived.Handy
import Derived.Deep.RegionHeld3

namespace Go.Proofs.Ytehdbllpiokbnab
open Go.RowKit Stt

theorem stcl_len (x : Stg) : (stcl x).length = 2 := rfl
theorem stcl_one : ∀ l : List Stg, ∀ u ∈ strip stcl l, u.oneCell' = true := by
  intro l u hu
  obtain ⟨x, _, hx⟩ := List.mem_flatMap.1 hu
  simp [stcl] at hx
  rcases hx with rfl | rfl <;> rfl
def Stg.zero : Stg := ⟨0, 0⟩
/-- The mark of element i. -/
def Stg.mk_ (i : Nat) : Stg := ⟨1 + 2 * (i : Int), 1 + 2 * (i : Int) + 1⟩
def Stg.marks (n : Nat) : List Stg := (List.range n).map Stg.mk_
theorem Stg.marks_len (n : Nat) : (Stg.marks n).length = n := by simp [Stg.marks]
theorem Stg.marks_succ (n : Nat) : Stg.marks (n + 1) = Stg.marks n ++ [Stg.mk_ n] := by simp [Stg.marks, List.range_succ]
theorem Stg.marks_at {n k : Nat} (h : k < (Stg.marks n).length) : (Stg.marks n)[k] = Stg.mk_ k := by simp [Stg.marks]
def Stg.marked (k : Nat) (ys : List Stg) : List Stg := Stg.marks k ++ ys.drop k
theorem Stg.marked_len {k : Nat} {ys : List Stg} (h : k ≤ ys.length) : (Stg.marked k ys).length = ys.length := by simp [Stg.marked, Stg.marks_len]; omega
theorem Stg.marked_zero (ys : List Stg) : Stg.marked 0 ys = ys := by simp [Stg.marked, Stg.marks]
theorem Stg.marked_all {k : Nat} {ys : List Stg} (h : ¬ k < ys.length) (hk : k ≤ ys.length) : Stg.marked k ys = Stg.marks ys.length := by
  have : k = ys.length := by omega
  subst this
  simp [Stg.marked]
theorem Stg.marked_set {k : Nat} {ys : List Stg} (h : k < ys.length) : (Stg.marked k ys).set k (Stg.mk_ k) = Stg.marked (k + 1) ys := by
  unfold Stg.marked
  rw [List.set_append_right _ _ (by simp [Stg.marks_len]), Stg.marks_succ, Stg.marks_len, Nat.sub_self, List.drop_eq_getElem_cons h, List.set_cons_zero, List.append_assoc]
  rfl
theorem Stg.fill_set {xs : List Stg} {k : Nat} (hlt : k < xs.length) : (xs.take k ++ List.replicate (xs.length - k) Stg.zero).set k xs[k] = xs.take (k + 1) ++ List.replicate (xs.length - (k + 1)) Stg.zero := by
  rw [List.set_append_right _ _ (by simp; omega)]
  have e1 : xs.length - k = (xs.length - (k + 1)) + 1 := by omega
  rw [e1, List.replicate_succ]
  simp only [List.length_take, Nat.min_eq_left (Nat.le_of_lt hlt), Nat.sub_self, List.set_cons_zero]
  rw [List.take_succ_eq_append_getElem hlt, List.append_assoc]
  rfl
theorem Stg.made (n : Nat) : (madeCells #[.int .i64 0, .int .i64 0] (n * 2)).toList = strip stcl (List.replicate n Stg.zero) := by
  apply List.ext_getElem?
  intro i
  rcases Nat.lt_or_ge i (n * 2) with h | h
  · have hi : (strip stcl (List.replicate n Stg.zero))[i]? = some (.int .i64 0) := by
      have h1 : i = i / 2 * 2 + i % 2 := by omega
      have h2 : i / 2 < n := by omega
      rw [h1, strip_at stcl_len (k := i / 2) (by simpa using h2) (by omega)]
      have h3 : i % 2 < 2 := by omega
      simp only [List.getElem_replicate, Stg.zero, stcl]
      generalize i % 2 = q at h3
      match q, h3 with
      | 0, _ => rfl
      | 1, _ => rfl
    rw [hi]
    have h3 : i % 2 < 2 := by omega
    simp only [madeCells, Array.toList_map, Array.toList_range, List.getElem?_map, List.getElem?_range h, Option.map_some]
    congr 1
    simp only [List.size_toArray, List.length_cons, List.length_nil, Nat.zero_add]
    generalize i % 2 = q at h3
    match q, h3 with
    | 0, _ => rfl
    | 1, _ => rfl
  · rw [List.getElem?_eq_none (by simp [madeCells]; omega), List.getElem?_eq_none (by rw [strip_len stcl_len]; simpa using h)]
theorem settingInfo : (Try.prog.info? 68).map (fun i => (i.zero, i.size, i.bytes)) = some (some (.agg #[.int .i64 0, .int .i64 0]), 2, 16) := by kernel_rfl
/-- The cells of element k of a row of the call's own. -/
theorem setting_at {w : World} {base g n c : Nat} {ys : List Stg} (h : w.ownsRow base 68 2 (.slice (some ⟨g, 0, none⟩) n c) n (strip stcl ys)) {k : Nat} (hk : k < ys.length) :
    w.cell? ⟨g, k * 2, none⟩ = some (.int .i64 ys[k].n) ∧ w.cell? ⟨g, k * 2 + 1, none⟩ = some (.int .i64 ys[k].v) := by
  obtain ⟨b, o, e, _, hc⟩ := Sees.elem stcl_len (by decide) (Sees.of_own h) hk
  injection e with e
  injection e with e1 e2
  subst e1 e2
  refine ⟨?_, ?_⟩
  · simpa using hc 0 _ rfl
  · simpa using hc 1 _ rfl
/-- An element is written. -/
theorem setting_put {w : World} {base g n c : Nat} {ys : List Stg} (h : w.ownsRow base 68 2 (.slice (some ⟨g, 0, none⟩) n c) n (strip stcl ys)) {k : Nat} (hk : k < ys.length) (x : Stg) :
    ((w.setCell ⟨g, k * 2, none⟩ (.int .i64 x.n)).setCell ⟨g, k * 2 + 1, none⟩ (.int .i64 x.v)).ownsRow base 68 2 (.slice (some ⟨g, 0, none⟩) n c) n (strip stcl (ys.set k x)) := by
  rw [strip_set stcl_len ys k hk x]
  exact row_put (row_put h _ _) _ _
end Go.Proofs.Ytehdbllpiokbnab

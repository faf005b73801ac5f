/-
  Age in lists: what the exact laws' helpers answer. Condition: the list lies in memory and is at most 2^22 long.
-/
import Derived.Test.YtlonmmkioaejmacStrip
import Derived.Test.YtlonmmkioaejmacAgA
import Derived.Handy
import Derived.Deep.RegionHeld3
namespace Go.Proofs.Ytlonmmkioaejmac
open Go.RowKit Age

theorem acells_len (x : Ag) : (acells x).length = 2 := rfl
theorem acells_one : ∀ l : List Ag, ∀ u ∈ strip acells l, u.oneCell' = true := by
  intro l u hu
  obtain ⟨x, _, hx⟩ := List.mem_flatMap.1 hu
  simp [acells] at hx
  rcases hx with rfl | rfl <;> rfl
def Ag.zero : Ag := ⟨0, 0⟩
/-- The mark of element i. -/
def Ag.mk_ (i : Nat) : Ag := ⟨1 + 2 * (i : Int), 1 + 2 * (i : Int) + 1⟩
def Ag.marks (n : Nat) : List Ag := (List.range n).map Ag.mk_
theorem Ag.marks_len (n : Nat) : (Ag.marks n).length = n := by simp [Ag.marks]
theorem Ag.marks_succ (n : Nat) : Ag.marks (n + 1) = Ag.marks n ++ [Ag.mk_ n] := by simp [Ag.marks, List.range_succ]
theorem Ag.marks_at {n k : Nat} (h : k < (Ag.marks n).length) : (Ag.marks n)[k] = Ag.mk_ k := by simp [Ag.marks]
def Ag.marked (k : Nat) (ys : List Ag) : List Ag := Ag.marks k ++ ys.drop k
theorem Ag.marked_len {k : Nat} {ys : List Ag} (h : k ≤ ys.length) : (Ag.marked k ys).length = ys.length := by simp [Ag.marked, Ag.marks_len]; omega
theorem Ag.marked_zero (ys : List Ag) : Ag.marked 0 ys = ys := by simp [Ag.marked, Ag.marks]
theorem Ag.marked_all {k : Nat} {ys : List Ag} (h : ¬ k < ys.length) (hk : k ≤ ys.length) : Ag.marked k ys = Ag.marks ys.length := by
  have : k = ys.length := by omega
  subst this
  simp [Ag.marked]
theorem Ag.marked_set {k : Nat} {ys : List Ag} (h : k < ys.length) : (Ag.marked k ys).set k (Ag.mk_ k) = Ag.marked (k + 1) ys := by
  unfold Ag.marked
  rw [List.set_append_right _ _ (by simp [Ag.marks_len]), Ag.marks_succ, Ag.marks_len, Nat.sub_self, List.drop_eq_getElem_cons h, List.set_cons_zero, List.append_assoc]
  rfl
theorem Ag.fill_set {xs : List Ag} {k : Nat} (hlt : k < xs.length) : (xs.take k ++ List.replicate (xs.length - k) Ag.zero).set k xs[k] = xs.take (k + 1) ++ List.replicate (xs.length - (k + 1)) Ag.zero := by
  rw [List.set_append_right _ _ (by simp; omega)]
  have e1 : xs.length - k = (xs.length - (k + 1)) + 1 := by omega
  rw [e1, List.replicate_succ]
  simp only [List.length_take, Nat.min_eq_left (Nat.le_of_lt hlt), Nat.sub_self, List.set_cons_zero]
  rw [List.take_succ_eq_append_getElem hlt, List.append_assoc]
  rfl
theorem Ag.made (n : Nat) : (madeCells #[.int .i64 0, .int .i64 0] (n * 2)).toList = strip acells (List.replicate n Ag.zero) := by
  apply List.ext_getElem?
  intro i
  rcases Nat.lt_or_ge i (n * 2) with h | h
  · have hi : (strip acells (List.replicate n Ag.zero))[i]? = some (.int .i64 0) := by
      have h1 : i = i / 2 * 2 + i % 2 := by omega
      have h2 : i / 2 < n := by omega
      rw [h1, strip_at acells_len (k := i / 2) (by simpa using h2) (by omega)]
      have h3 : i % 2 < 2 := by omega
      simp only [List.getElem_replicate, Ag.zero, acells]
      generalize i % 2 = q at h3
      match q, h3 with
      | 0, _ => rfl
      | 1, _ => rfl
    rw [hi]
    have h3 : i % 2 < 2 := by omega
    simp only [madeCells, Array.toList_map, Array.toList_range, List.getElem?_map, List.getElem?_range h, Option.map_some]
    congr 1
    simp only [List.size_toArray, List.length_cons, List.length_nil, Nat.zero_add]
    generalize i % 2 = q at h3
    match q, h3 with
    | 0, _ => rfl
    | 1, _ => rfl
  · rw [List.getElem?_eq_none (by simp [madeCells]; omega), List.getElem?_eq_none (by rw [strip_len acells_len]; simpa using h)]
theorem ageInfo : (Try.prog.info? 31).map (fun i => (i.zero, i.size, i.bytes)) = some (some (.agg #[.int .i64 0, .int .i64 0]), 2, 16) := by kernel_rfl
/-- The cells of element k of a row of the call's own. -/
theorem age_at {w : World} {base g n c : Nat} {ys : List Ag} (h : w.ownsRow base 31 2 (.slice (some ⟨g, 0, none⟩) n c) n (strip acells ys)) {k : Nat} (hk : k < ys.length) :
    w.cell? ⟨g, k * 2, none⟩ = some (.int .i64 ys[k].b) ∧ w.cell? ⟨g, k * 2 + 1, none⟩ = some (.int .i64 ys[k].u) := by
  obtain ⟨b, o, e, _, hc⟩ := Sees.elem acells_len (by decide) (Sees.of_own h) hk
  injection e with e
  injection e with e1 e2
  subst e1 e2
  refine ⟨?_, ?_⟩
  · simpa using hc 0 _ rfl
  · simpa using hc 1 _ rfl
/-- An element is written. -/
theorem age_put {w : World} {base g n c : Nat} {ys : List Ag} (h : w.ownsRow base 31 2 (.slice (some ⟨g, 0, none⟩) n c) n (strip acells ys)) {k : Nat} (hk : k < ys.length) (x : Ag) :
    ((w.setCell ⟨g, k * 2, none⟩ (.int .i64 x.b)).setCell ⟨g, k * 2 + 1, none⟩ (.int .i64 x.u)).ownsRow base 31 2 (.slice (some ⟨g, 0, none⟩) n c) n (strip acells (ys.set k x)) := by
  rw [strip_set acells_len ys k hk x]
  exact row_put (row_put h _ _) _ _
end Go.Proofs.Ytlonmmkioaejmac

/-
  Lease in lists: what the exact laws' helpers answer. Condition: the list lies in memory and is at most 2^22 long.
-/
import Derived.Test.YtmaocmgnkdieeaaStrip
import Derived.Test.YtmaocmgnkdieeaaLsA
import Derived.Handy
import Derived.Deep.RegionHeld3
namespace Go.Proofs.Ytmaocmgnkdieeaa
open Go.RowKit Lse

theorem lcells_len (x : L) : (lcells x).length = 4 := rfl
theorem lcells_one : ∀ l : List L, ∀ u ∈ strip lcells l, u.oneCell' = true := by
  intro l u hu
  obtain ⟨x, _, hx⟩ := List.mem_flatMap.1 hu
  simp [lcells] at hx
  rcases hx with rfl | rfl | rfl | rfl <;> rfl
def L.zero : L := ⟨0, 0, 0, 0⟩
/-- The mark of element i. -/
def L.mk_ (i : Nat) : L := ⟨1 + 4 * (i : Int), 1 + 4 * (i : Int) + 1, 1 + 4 * (i : Int) + 2, 1 + 4 * (i : Int) + 3⟩
def L.marks (n : Nat) : List L := (List.range n).map L.mk_
theorem L.marks_len (n : Nat) : (L.marks n).length = n := by simp [L.marks]
theorem L.marks_succ (n : Nat) : L.marks (n + 1) = L.marks n ++ [L.mk_ n] := by simp [L.marks, List.range_succ]
theorem L.marks_at {n k : Nat} (h : k < (L.marks n).length) : (L.marks n)[k] = L.mk_ k := by simp [L.marks]
def L.marked (k : Nat) (ys : List L) : List L := L.marks k ++ ys.drop k
theorem L.marked_len {k : Nat} {ys : List L} (h : k ≤ ys.length) : (L.marked k ys).length = ys.length := by simp [L.marked, L.marks_len]; omega
theorem L.marked_zero (ys : List L) : L.marked 0 ys = ys := by simp [L.marked, L.marks]
theorem L.marked_all {k : Nat} {ys : List L} (h : ¬ k < ys.length) (hk : k ≤ ys.length) : L.marked k ys = L.marks ys.length := by
  have : k = ys.length := by omega
  subst this
  simp [L.marked]
theorem L.marked_set {k : Nat} {ys : List L} (h : k < ys.length) : (L.marked k ys).set k (L.mk_ k) = L.marked (k + 1) ys := by
  unfold L.marked
  rw [List.set_append_right _ _ (by simp [L.marks_len]), L.marks_succ, L.marks_len, Nat.sub_self, List.drop_eq_getElem_cons h, List.set_cons_zero, List.append_assoc]
  rfl
theorem L.fill_set {xs : List L} {k : Nat} (hlt : k < xs.length) : (xs.take k ++ List.replicate (xs.length - k) L.zero).set k xs[k] = xs.take (k + 1) ++ List.replicate (xs.length - (k + 1)) L.zero := by
  rw [List.set_append_right _ _ (by simp; omega)]
  have e1 : xs.length - k = (xs.length - (k + 1)) + 1 := by omega
  rw [e1, List.replicate_succ]
  simp only [List.length_take, Nat.min_eq_left (Nat.le_of_lt hlt), Nat.sub_self, List.set_cons_zero]
  rw [List.take_succ_eq_append_getElem hlt, List.append_assoc]
  rfl
theorem L.made (n : Nat) : (madeCells #[.int .i64 0, .int .i64 0, .int .i64 0, .int .i64 0] (n * 4)).toList = strip lcells (List.replicate n L.zero) := by
  apply List.ext_getElem?
  intro i
  rcases Nat.lt_or_ge i (n * 4) with h | h
  · have hi : (strip lcells (List.replicate n L.zero))[i]? = some (.int .i64 0) := by
      have h1 : i = i / 4 * 4 + i % 4 := by omega
      have h2 : i / 4 < n := by omega
      rw [h1, strip_at lcells_len (k := i / 4) (by simpa using h2) (by omega)]
      have h3 : i % 4 < 4 := by omega
      simp only [List.getElem_replicate, L.zero, lcells]
      generalize i % 4 = q at h3
      match q, h3 with
      | 0, _ => rfl
      | 1, _ => rfl
      | 2, _ => rfl
      | 3, _ => rfl
    rw [hi]
    have h3 : i % 4 < 4 := by omega
    simp only [madeCells, Array.toList_map, Array.toList_range, List.getElem?_map, List.getElem?_range h, Option.map_some]
    congr 1
    simp only [List.size_toArray, List.length_cons, List.length_nil, Nat.zero_add]
    generalize i % 4 = q at h3
    match q, h3 with
    | 0, _ => rfl
    | 1, _ => rfl
    | 2, _ => rfl
    | 3, _ => rfl
  · rw [List.getElem?_eq_none (by simp [madeCells]; omega), List.getElem?_eq_none (by rw [strip_len lcells_len]; simpa using h)]
theorem leaseInfo : (Try.prog.info? 30).map (fun i => (i.zero, i.size, i.bytes)) = some (some (.agg #[.int .i64 0, .int .i64 0, .int .i64 0, .int .i64 0]), 4, 32) := by kernel_rfl
/-- The cells of element k of a row of the call's own. -/
theorem lease_at {w : World} {base g n c : Nat} {ys : List L} (h : w.ownsRow base 30 4 (.slice (some ⟨g, 0, none⟩) n c) n (strip lcells ys)) {k : Nat} (hk : k < ys.length) :
    w.cell? ⟨g, k * 4, none⟩ = some (.int .i64 ys[k].c) ∧ w.cell? ⟨g, k * 4 + 1, none⟩ = some (.int .i64 ys[k].o) ∧ w.cell? ⟨g, k * 4 + 2, none⟩ = some (.int .i64 ys[k].f) ∧ w.cell? ⟨g, k * 4 + 3, none⟩ = some (.int .i64 ys[k].u) := by
  obtain ⟨b, o, e, _, hc⟩ := Sees.elem lcells_len (by decide) (Sees.of_own h) hk
  injection e with e
  injection e with e1 e2
  subst e1 e2
  refine ⟨?_, ?_, ?_, ?_⟩
  · simpa using hc 0 _ rfl
  · simpa using hc 1 _ rfl
  · simpa using hc 2 _ rfl
  · simpa using hc 3 _ rfl
/-- An element is written. -/
theorem lease_put {w : World} {base g n c : Nat} {ys : List L} (h : w.ownsRow base 30 4 (.slice (some ⟨g, 0, none⟩) n c) n (strip lcells ys)) {k : Nat} (hk : k < ys.length) (x : L) :
    ((((w.setCell ⟨g, k * 4, none⟩ (.int .i64 x.c)).setCell ⟨g, k * 4 + 1, none⟩ (.int .i64 x.o)).setCell ⟨g, k * 4 + 2, none⟩ (.int .i64 x.f)).setCell ⟨g, k * 4 + 3, none⟩ (.int .i64 x.u)).ownsRow base 30 4 (.slice (some ⟨g, 0, none⟩) n c) n (strip lcells (ys.set k x)) := by
  rw [strip_set lcells_len ys k hk x]
  exact row_put (row_put (row_put (row_put h _ _) _ _) _ _) _ _
end Go.Proofs.Ytmaocmgnkdieeaa

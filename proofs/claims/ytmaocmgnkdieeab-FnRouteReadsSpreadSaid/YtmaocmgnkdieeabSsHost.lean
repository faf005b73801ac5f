/-
  Host in lists: what the exact laws' helpers answer. Condition: the list lies in memory and is at most 2^22 long.
-/
import Derived.Test.YtmaocmgnkdieeabStrip
import Derived.Test.YtmaocmgnkdieeabHoA
import Derived.Handy
import Derived.Deep.RegionHeld3
namespace Go.Proofs.Ytmaocmgnkdieeab
open Go.RowKit Hos

theorem hcl_len (x : Hst) : (hcl x).length = 3 := rfl
theorem hcl_one : ∀ l : List Hst, ∀ u ∈ strip hcl l, u.oneCell' = true := by
  intro l u hu
  obtain ⟨x, _, hx⟩ := List.mem_flatMap.1 hu
  simp [hcl] at hx
  rcases hx with rfl | rfl | rfl <;> rfl
def Hst.zero : Hst := ⟨0, 0, false⟩
/-- The mark of element i. -/
def Hst.mk_ (i : Nat) : Hst := ⟨1 + 3 * (i : Int), 1 + 3 * (i : Int) + 1, true⟩
def Hst.marks (n : Nat) : List Hst := (List.range n).map Hst.mk_
theorem Hst.marks_len (n : Nat) : (Hst.marks n).length = n := by simp [Hst.marks]
theorem Hst.marks_succ (n : Nat) : Hst.marks (n + 1) = Hst.marks n ++ [Hst.mk_ n] := by simp [Hst.marks, List.range_succ]
theorem Hst.marks_at {n k : Nat} (h : k < (Hst.marks n).length) : (Hst.marks n)[k] = Hst.mk_ k := by simp [Hst.marks]
def Hst.marked (k : Nat) (ys : List Hst) : List Hst := Hst.marks k ++ ys.drop k
theorem Hst.marked_len {k : Nat} {ys : List Hst} (h : k ≤ ys.length) : (Hst.marked k ys).length = ys.length := by simp [Hst.marked, Hst.marks_len]; omega
theorem Hst.marked_zero (ys : List Hst) : Hst.marked 0 ys = ys := by simp [Hst.marked, Hst.marks]
theorem Hst.marked_all {k : Nat} {ys : List Hst} (h : ¬ k < ys.length) (hk : k ≤ ys.length) : Hst.marked k ys = Hst.marks ys.length := by
  have : k = ys.length := by omega
  subst this
  simp [Hst.marked]
theorem Hst.marked_set {k : Nat} {ys : List Hst} (h : k < ys.length) : (Hst.marked k ys).set k (Hst.mk_ k) = Hst.marked (k + 1) ys := by
  unfold Hst.marked
  rw [List.set_append_right _ _ (by simp [Hst.marks_len]), Hst.marks_succ, Hst.marks_len, Nat.sub_self, List.drop_eq_getElem_cons h, List.set_cons_zero, List.append_assoc]
  rfl
theorem Hst.fill_set {xs : List Hst} {k : Nat} (hlt : k < xs.length) : (xs.take k ++ List.replicate (xs.length - k) Hst.zero).set k xs[k] = xs.take (k + 1) ++ List.replicate (xs.length - (k + 1)) Hst.zero := by
  rw [List.set_append_right _ _ (by simp; omega)]
  have e1 : xs.length - k = (xs.length - (k + 1)) + 1 := by omega
  rw [e1, List.replicate_succ]
  simp only [List.length_take, Nat.min_eq_left (Nat.le_of_lt hlt), Nat.sub_self, List.set_cons_zero]
  rw [List.take_succ_eq_append_getElem hlt, List.append_assoc]
  rfl
theorem Hst.made (n : Nat) : (madeCells #[.int .i64 0, .int .i64 0, .bool false] (n * 3)).toList = strip hcl (List.replicate n Hst.zero) := by
  apply List.ext_getElem?
  intro i
  rcases Nat.lt_or_ge i (n * 3) with h | h
  · have h1 : i = i / 3 * 3 + i % 3 := by omega
    have h2 : i / 3 < n := by omega
    have h3 : i % 3 < 3 := by omega
    have hi : (strip hcl (List.replicate n Hst.zero))[i]? = (hcl Hst.zero)[i % 3]? := by
      have := strip_at hcl_len (l := List.replicate n Hst.zero) (k := i / 3) (by simpa using h2) h3
      rw [← h1] at this
      rw [this, List.getElem_replicate]
    rw [hi]
    simp only [madeCells, Array.toList_map, Array.toList_range, List.getElem?_map, List.getElem?_range h, Option.map_some]
    simp only [List.size_toArray, List.length_cons, List.length_nil, Nat.zero_add]
    generalize i % 3 = q at h3
    match q, h3 with
    | 0, _ => rfl
    | 1, _ => rfl
    | 2, _ => rfl
  · rw [List.getElem?_eq_none (by simp [madeCells]; omega), List.getElem?_eq_none (by rw [strip_len hcl_len]; simpa using h)]
theorem hostInfo : (Try.prog.info? 40).map (fun i => (i.zero, i.size, i.bytes)) = some (some (.agg #[.int .i64 0, .int .i64 0, .bool false]), 3, 24) := by kernel_rfl
/-- The cells of element k of a row of the call's own. -/
theorem host_at {w : World} {base g n c : Nat} {ys : List Hst} (h : w.ownsRow base 40 3 (.slice (some ⟨g, 0, none⟩) n c) n (strip hcl ys)) {k : Nat} (hk : k < ys.length) :
    w.cell? ⟨g, k * 3, none⟩ = some (.int .i64 ys[k].l) ∧ w.cell? ⟨g, k * 3 + 1, none⟩ = some (.int .i64 ys[k].g) ∧ w.cell? ⟨g, k * 3 + 2, none⟩ = some (.bool ys[k].d) := by
  obtain ⟨b, o, e, _, hc⟩ := Sees.elem hcl_len (by decide) (Sees.of_own h) hk
  injection e with e
  injection e with e1 e2
  subst e1 e2
  refine ⟨?_, ?_, ?_⟩
  · simpa using hc 0 _ rfl
  · simpa using hc 1 _ rfl
  · simpa using hc 2 _ rfl
/-- An element is written. -/
theorem host_put {w : World} {base g n c : Nat} {ys : List Hst} (h : w.ownsRow base 40 3 (.slice (some ⟨g, 0, none⟩) n c) n (strip hcl ys)) {k : Nat} (hk : k < ys.length) (x : Hst) :
    (((w.setCell ⟨g, k * 3, none⟩ (.int .i64 x.l)).setCell ⟨g, k * 3 + 1, none⟩ (.int .i64 x.g)).setCell ⟨g, k * 3 + 2, none⟩ (.bool x.d)).ownsRow base 40 3 (.slice (some ⟨g, 0, none⟩) n c) n (strip hcl (ys.set k x)) := by
  rw [strip_set hcl_len ys k hk x]
  exact row_put (row_put (row_put h _ _) _ _) _ _
end Go.Proofs.Ytmaocmgnkdieeab

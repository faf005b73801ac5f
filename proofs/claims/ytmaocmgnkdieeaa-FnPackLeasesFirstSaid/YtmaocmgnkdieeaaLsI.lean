/-
  What BusyAt answers, the program's and the model's. Condition: the list lies in memory.
-/
import Derived.Test.YtmaocmgnkdieeaaLsE
import Derived.Test.YtmaocmgnkdieeaaOwnI
namespace Go.Proofs.Ytmaocmgnkdieeaa
open Go.RowKit Lse

/-- The connections below n that somebody has at time t. -/
def busyTo (l : List L) (t : Int) (n : Nat) : List Int := ((List.range n).filter fun (c : Nat) => decide (ownerAt l (c : Int) t ≠ -1)).map fun (c : Nat) => (c : Int)
def busy (l : List L) (t : Int) : List Int := busyTo l t 6
theorem busyTo_succ (l : List L) (t : Int) (n : Nat) : busyTo l t (n + 1) = busyTo l t n ++ if ownerAt l n t = -1 then [] else [(n : Int)] := by
  unfold busyTo
  rw [List.range_succ, List.filter_append, List.map_append]
  by_cases h : ownerAt l n t = -1 <;> simp [h]
theorem busyTo_len (l : List L) (t : Int) (n : Nat) : (busyTo l t n).length ≤ n := by
  unfold busyTo
  rw [List.length_map]
  exact Nat.le_trans (List.length_filter_le _ _) (by simp)
theorem busy_len (l : List L) (t : Int) : (busy l t).length ≤ 6 := busyTo_len l t 6
theorem busy_no {l : List L} (h : validB l = false) (t : Int) : busy l t = [] := by
  have : ∀ n, busyTo l t n = [] := fun n => by
    induction n with
    | zero => rfl
    | succ n ih => rw [busyTo_succ, ih, if_pos (by simp [ownerAt, h])]; rfl
  exact this 6
/-- How many of these leases have the connection then, as so many signs of it. -/
def same (l : List L) (q t : Int) : List Int := (l.filter fun x => hasAt x q t).map fun _ => q
theorem same_nil (q t : Int) : same [] q t = [] := rfl
theorem same_take {l : List L} {k : Nat} (hk : k < l.length) (q t : Int) : same (l.take (k + 1)) q t = same (l.take k) q t ++ if hasAt l[k] q t = true then [q] else [] := by
  unfold same
  rw [List.take_succ_eq_append_getElem hk, List.filter_append, List.map_append]
  by_cases h : hasAt l[k] q t = true <;> simp [h]
theorem same_len (l : List L) (q t : Int) : (same l q t).length ≤ l.length := by
  unfold same; rw [List.length_map]; exact List.length_filter_le _ _
theorem same_fine {l : List L} (h : Fine l) (q t : Int) : same l q t = if first l q t = -1 then [] else [q] := by
  induction l with
  | nil => rfl
  | cons x l ih =>
    have hl : Fine l := h.sub (by simp)
    by_cases hx : hasAt x q t = true
    · have hno : ∀ y ∈ l, hasAt y q t = false := fun y m => by
        rw [Bool.eq_false_iff]
        intro hy
        have hp := (List.pairwise_cons.1 h.2).1 y m
        obtain ⟨a1, a2, a3⟩ := hasAt_iff.1 hx
        obtain ⟨b1, b2, b3⟩ := hasAt_iff.1 hy
        exact hp ⟨by omega, by omega, by omega⟩
      have hs : same l q t = [] := by unfold same; rw [List.filter_eq_nil_iff.2 (fun y m => by simp [hno y m])]; rfl
      have ho := L.ok_iff.1 (h.1 x (by simp))
      have h1 : same (x :: l) q t = q :: same l q t := by unfold same; simp [hx]
      have h2 : first (x :: l) q t = x.o := by simp [first, hx]
      rw [h1, hs, h2, if_neg (by omega)]
    · have h1 : same (x :: l) q t = same l q t := by unfold same; simp [hx]
      have h2 : first (x :: l) q t = first l q t := by simp [first, hx]
      rw [h1, h2, ih hl]
theorem busy_step {l : List L} (h : validB l = true) (t : Int) (n : Nat) : busyTo l t n ++ same l n t = busyTo l t (n + 1) := by
  rw [busyTo_succ, same_fine (validB_iff.1 h).2]
  have : ownerAt l n t = first l n t := by simp [ownerAt, h]
  rw [this]

end Go.Proofs.Ytmaocmgnkdieeaa

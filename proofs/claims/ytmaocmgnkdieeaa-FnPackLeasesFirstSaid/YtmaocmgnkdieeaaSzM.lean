/-
  Plain facts on how many leases have a time in common: at any time, without the last lease, over all times. No condition.
-/
import Derived.Test.YtmaocmgnkdieeaaSzB
import Derived.Test.YtmaocmgnkdieeaaMostMath
import Derived.Test.YtmaocmgnkdieeaaBusyMath
namespace Go.Proofs.Ytmaocmgnkdieeaa
open Lse

theorem countP_part (l : List L) (t : Int) (n : Nat) : l.countP (fun x => decide (x.c < ((n + 1 : Nat) : Int) ∧ x.f ≤ t ∧ t < x.u)) = l.countP (fun x => decide (x.c < (n : Int) ∧ x.f ≤ t ∧ t < x.u)) + l.countP (fun x => hasAt x n t) := by
  induction l with
  | nil => simp
  | cons x l ih =>
    rw [List.countP_cons, List.countP_cons, List.countP_cons, ih]
    by_cases h1 : x.f ≤ t ∧ t < x.u
    · by_cases h2 : x.c < (n : Int)
      · rw [if_pos (decide_eq_true (by omega)), if_pos (decide_eq_true (by omega)), if_neg (by rw [hasAt_iff]; omega)]; omega
      · by_cases h3 : x.c = (n : Int)
        · rw [if_pos (decide_eq_true (by omega)), if_neg (by rw [decide_eq_true_eq]; omega), if_pos (hasAt_iff.2 (by omega))]; omega
        · rw [if_neg (by rw [decide_eq_true_eq]; omega), if_neg (by rw [decide_eq_true_eq]; omega), if_neg (by rw [hasAt_iff]; omega)]; omega
    · rw [if_neg (by rw [decide_eq_true_eq]; omega), if_neg (by rw [decide_eq_true_eq]; omega), if_neg (by rw [hasAt_iff]; omega)]; omega
theorem same_count (l : List L) (q t : Int) : (same l q t).length = l.countP (fun x => hasAt x q t) := by
  unfold same; rw [List.length_map, ← List.countP_eq_length_filter]
theorem busyTo_count {l : List L} (h : validB l = true) (t : Int) : ∀ n : Nat, (busyTo l t n).length = l.countP (fun x => decide (x.c < (n : Int) ∧ x.f ≤ t ∧ t < x.u))
  | 0 => by
    symm
    show _ = 0
    rw [List.countP_eq_zero]
    intro x hx
    have := L.ok_iff.1 ((validB_iff.1 h).2.1 x hx)
    rw [decide_eq_true_eq]
    omega
  | n + 1 => by rw [← busy_step h t n, List.length_append, busyTo_count h t n, same_count, countP_part]
/-- As many connections are busy as leases have the time. -/
theorem busy_over {l : List L} (h : validB l = true) (t : Int) : (busy l t).length = over l t := by
  unfold busy over
  rw [busyTo_count h t 6]
  refine List.countP_congr fun x hx => ?_
  have := L.ok_iff.1 ((validB_iff.1 h).2.1 x hx)
  rw [decide_eq_true_eq, decide_eq_true_eq]
  omega
theorem latest (t : Int) : ∀ (P : List L), over P t = 0 ∨ ∃ y ∈ P, y.f ≤ t ∧ ∀ z ∈ P, z.f ≤ t → t < z.u → z.f ≤ y.f
  | [] => .inl rfl
  | x :: P => by
    have e : over (x :: P) t = over P t + if x.f ≤ t ∧ t < x.u then 1 else 0 := by
      unfold over; rw [List.countP_cons]
      by_cases h : x.f ≤ t ∧ t < x.u
      · rw [if_pos (decide_eq_true h), if_pos h]
      · rw [if_neg (by rw [decide_eq_true_eq]; exact h), if_neg h]
    by_cases h : x.f ≤ t ∧ t < x.u
    · right
      rcases latest t P with h0 | ⟨y, hy, hyt, hz⟩
      · refine ⟨x, List.mem_cons_self, h.1, fun z hz h1 h2 => ?_⟩
        rcases List.mem_cons.1 hz with e | hz
        · rw [e]; exact Int.le_refl _
        · unfold over at h0
          exact absurd (decide_eq_true ⟨h1, h2⟩) (List.countP_eq_zero.1 h0 z hz)
      · by_cases hxy : x.f ≤ y.f
        · refine ⟨y, List.mem_cons_of_mem _ hy, hyt, fun z hz' h1 h2 => ?_⟩
          rcases List.mem_cons.1 hz' with e | hz'
          · rw [e]; exact hxy
          · exact hz z hz' h1 h2
        · refine ⟨x, List.mem_cons_self, h.1, fun z hz' h1 h2 => ?_⟩
          rcases List.mem_cons.1 hz' with e | hz'
          · rw [e]; exact Int.le_refl _
          · have := hz z hz' h1 h2; omega
    · rw [if_neg h] at e
      rcases latest t P with h0 | ⟨y, hy, hyt, hz⟩
      · left; omega
      · right
        refine ⟨y, List.mem_cons_of_mem _ hy, hyt, fun z hz' h1 h2 => ?_⟩
        rcases List.mem_cons.1 hz' with e | hz'
        · subst e; exact absurd ⟨h1, h2⟩ h
        · exact hz z hz' h1 h2
/-- At no time are there more than at the beginning of some lease. -/
theorem over_any (P : List L) (t : Int) : over P t ≤ mostV P := by
  rcases latest t P with h | ⟨y, hy, hyt, hz⟩
  · omega
  · refine Nat.le_trans ?_ (most_ge hy)
    unfold over
    refine List.countP_mono_left fun z hzm hzt => ?_
    rw [decide_eq_true_eq] at hzt ⊢
    have := hz z hzm hzt.1 hzt.2
    omega
theorem over_sub {a b : List L} (h : a.Sublist b) (t : Int) : over a t ≤ over b t := by unfold over; exact h.countP_le
theorem most_sub {a b : List L} (h : a.Sublist b) : mostV a ≤ mostV b := by
  rcases most_some a with e | ⟨x, _, e⟩
  · omega
  · rw [← e]; exact Nat.le_trans (over_sub h _) (over_any _ _)
theorem most_last {l : List L} {m : Nat} (hm : l.length = m + 1) : mostV l ≤ mostV (l.take m) + 1 := by
  have hlt : m < l.length := by omega
  have e : l.take m ++ [l[m]] = l := by rw [← List.take_succ_eq_append_getElem hlt]; exact List.take_of_length_le (by omega)
  rcases most_some l with h | ⟨x, _, h⟩
  · omega
  · have h1 := over_app (l.take m) [l[m]] x.f
    rw [e] at h1
    have h2 := over_le [l[m]] x.f
    have h3 := over_any (l.take m) x.f
    simp only [List.length_singleton] at h2
    omega
theorem mostOf_last {l : List L} (h : 1 ≤ mostOf l) : ∃ m, l.length = m + 1 ∧ (mostOf (l.take m) = mostOf l ∨ mostOf (l.take m) = mostOf l - 1) := by
  have hv : validB l = true := by
    rcases hb : validB l with _ | _
    · unfold mostOf at h; rw [if_neg (by simp [hb])] at h; omega
    · rfl
  have e : mostOf l = (mostV l : Int) := by unfold mostOf; rw [if_pos hv]
  have hle := most_le l
  obtain ⟨m, hm⟩ : ∃ m, l.length = m + 1 := ⟨l.length - 1, by omega⟩
  refine ⟨m, hm, ?_⟩
  have e2 : mostOf (l.take m) = (mostV (l.take m) : Int) := by unfold mostOf; rw [if_pos (valid_sub hv (List.take_sublist m l))]
  have h1 := most_sub (List.take_sublist m l)
  have h2 := most_last hm
  omega
/-- One time more. -/
theorem aheads_next (l : List L) (hv : ∀ x ∈ l, x.ok = true) (T : Int) : aheads l (T + 1) = aheads l T + (over l T : Int) := by
  induction l with
  | nil => simp [aheads, over]
  | cons x l ih =>
    have ih := ih fun y hy => hv y (List.mem_cons_of_mem _ hy)
    have e1 : ∀ u, aheads (x :: l) u = ahead x u + aheads l u := fun u => by simp [aheads]
    have e2 : over (x :: l) T = over l T + if x.f ≤ T ∧ T < x.u then 1 else 0 := by
      unfold over; rw [List.countP_cons]
      by_cases h : x.f ≤ T ∧ T < x.u
      · rw [if_pos (decide_eq_true h), if_pos h]
      · rw [if_neg (by rw [decide_eq_true_eq]; exact h), if_neg h]
    have ho := L.ok_iff.1 (hv x List.mem_cons_self)
    rw [e1, e1, e2, ih]
    unfold ahead
    split <;> omega
theorem aheads_zero (l : List L) (hv : ∀ x ∈ l, x.ok = true) : aheads l 0 = 0 := by
  induction l with
  | nil => simp [aheads]
  | cons x l ih =>
    have ih := ih fun y hy => hv y (List.mem_cons_of_mem _ hy)
    have e1 : aheads (x :: l) 0 = ahead x 0 + aheads l 0 := by simp [aheads]
    have ho := L.ok_iff.1 (hv x List.mem_cons_self)
    rw [e1, ih]
    unfold ahead
    omega
theorem aheads_most (l : List L) (hv : ∀ x ∈ l, x.ok = true) : ∀ T : Nat, aheads l T ≤ (T : Int) * (mostV l : Int)
  | 0 => by simp [aheads_zero l hv]
  | T + 1 => by
    have h1 := aheads_most l hv T
    have h2 := over_any l (T : Int)
    have h3 := aheads_next l hv (T : Int)
    have e : ((T + 1 : Nat) : Int) = (T : Int) + 1 := by omega
    rw [e, h3, Int.add_mul]
    omega
theorem busy_asc (l : List L) (t : Int) : (busy l t).Pairwise (· < ·) := by
  have : ∀ n, (busyTo l t n).Pairwise (· < ·) := fun n => by
    unfold busyTo
    rw [List.pairwise_map]
    refine List.Pairwise.imp ?_ (List.Pairwise.filter _ List.pairwise_lt_range)
    intro a b h
    omega
  exact this 6
theorem busy_early (l : List L) {t : Int} (ht : t < 0) : busy l t = [] := by
  have : ∀ n, busyTo l t n = [] := fun n => by
    induction n with
    | zero => rfl
    | succ n ih => rw [busyTo_succ, ih, if_pos (owner_early _ (.inl ht))]; rfl
  exact this 6
end Go.Proofs.Ytmaocmgnkdieeaa

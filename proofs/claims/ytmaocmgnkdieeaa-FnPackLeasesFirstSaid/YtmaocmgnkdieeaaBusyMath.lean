/-
  Plain facts on busy connections: those of a part of the leases. No condition.
-/
import Derived.Test.YtmaocmgnkdieeaaLsI
import Derived.Test.YtmaocmgnkdieeaaLeaseMathB
namespace Go.Proofs.Ytmaocmgnkdieeaa
open Lse

theorem busyTo_mem {l : List L} {t : Int} : ∀ {n : Nat} {c : Int}, c ∈ busyTo l t n ↔ ∃ k : Nat, k < n ∧ c = k ∧ ownerAt l k t ≠ -1
  | 0, c => by simp [busyTo]
  | n + 1, c => by
    rw [busyTo_succ, List.mem_append, busyTo_mem]
    constructor
    · rintro (⟨k, h1, h2, h3⟩ | h)
      · exact ⟨k, by omega, h2, h3⟩
      · split at h
        · simp at h
        · rename_i hh
          rw [List.mem_singleton] at h
          exact ⟨n, by omega, h, hh⟩
    · rintro ⟨k, h1, h2, h3⟩
      rcases Nat.lt_or_ge k n with e | e
      · exact .inl ⟨k, e, h2, h3⟩
      · have : k = n := by omega
        subst this
        right
        rw [if_neg h3, List.mem_singleton]
        exact h2
theorem busy_take {l : List L} (h : validB l = true) (k : Nat) (t : Int) {c : Int} (hc : c ∈ busy (l.take k) t) : c ∈ busy l t := by
  obtain ⟨j, h1, h2, h3⟩ := busyTo_mem.1 hc
  exact busyTo_mem.2 ⟨j, h1, h2, owner_take h k h3⟩
/-- One lease more keeps at most one connection more busy. -/
theorem busy_more {l : List L} (h : validB l = true) {m : Nat} (hm : l.length = m + 1) (t : Int) : (busy l t).length ≤ (busy (l.take m) t).length + 1 := by
  have hs : validB (l.take m) = true := valid_sub h (List.take_sublist m l)
  have hlt : m < l.length := by omega
  have hl : l.take (m + 1) = l := List.take_of_length_le (by omega)
  have step : ∀ c : Int, c ≠ l[m].c → ownerAt l c t ≠ -1 → ownerAt (l.take m) c t ≠ -1 := by
    intro c hc h1
    have e1 := someB_owner h c t
    have e2 := someB_owner hs c t
    have e3 := someB_take hlt c t
    rw [hl] at e3
    have e4 : hasAt l[m] c t = false := by rw [Bool.eq_false_iff, ne_eq, hasAt_iff]; rintro ⟨r, _⟩; exact hc r.symm
    rw [e4, Bool.or_false] at e3
    have g := first_ge (validB_iff.1 h).2 c t
    have e5 : ownerAt l c t = first l c t := by simp [ownerAt, h]
    have : someB l c t = true := by rw [e1, decide_eq_true_eq]; rw [e5] at h1 ⊢; omega
    rw [e3] at this
    rw [this] at e2
    have := of_decide_eq_true e2.symm
    omega
  have key : ∀ n : Nat, (busyTo l t n).length ≤ (busyTo (l.take m) t n).length + if 0 ≤ l[m].c ∧ l[m].c < n then 1 else 0 := by
    intro n
    induction n with
    | zero => simp [busyTo]
    | succ n ih =>
      rw [busyTo_succ, busyTo_succ, List.length_append, List.length_append]
      by_cases hc : (n : Int) = l[m].c
      · have h0 : ¬ (0 ≤ l[m].c ∧ l[m].c < (n : Int)) := by omega
        have h1 : 0 ≤ l[m].c ∧ l[m].c < ((n + 1 : Nat) : Int) := by omega
        rw [if_neg h0] at ih
        rw [if_pos h1]
        have : ∀ (p : Prop) [Decidable p], (if p then [] else [(n : Int)]).length ≤ 1 := fun p _ => by split <;> simp
        have := this (ownerAt l n t = -1)
        omega
      · by_cases h1 : ownerAt l n t = -1
        · rw [if_pos h1]
          simp only [List.length_nil]
          have h2 : (if 0 ≤ l[m].c ∧ l[m].c < (n : Int) then 1 else 0) ≤ (if 0 ≤ l[m].c ∧ l[m].c < ((n + 1 : Nat) : Int) then 1 else 0) := by
            split <;> split <;> omega
          omega
        · have h3 := step n hc h1
          rw [if_neg h1, if_neg h3]
          have h2 : (if 0 ≤ l[m].c ∧ l[m].c < (n : Int) then 1 else 0) ≤ (if 0 ≤ l[m].c ∧ l[m].c < ((n + 1 : Nat) : Int) then 1 else 0) := by
            split <;> split <;> omega
          simp only [List.length_singleton]
          omega
  have := key 6
  unfold busy
  split at this <;> omega
theorem owner_busy {l : List L} {q t : Int} (h0 : 0 ≤ q) (h5 : q < 5) : memB (busy l t) q = decide (0 ≤ ownerAt l q t) := by
  rw [Bool.eq_iff_iff, memB_iff, decide_eq_true_eq]
  unfold busy
  rw [busyTo_mem]
  constructor
  · rintro ⟨k, h1, h2, h3⟩
    subst h2
    by_cases hv : validB l = true
    · have g := first_ge (validB_iff.1 hv).2 k t
      have e : ownerAt l k t = first l k t := by simp [ownerAt, hv]
      omega
    · exact absurd (by simp [ownerAt, hv]) h3
  · intro h
    exact ⟨q.toNat, by omega, by omega, by rw [show ((q.toNat : Nat) : Int) = q by omega]; omega⟩
end Go.Proofs.Ytmaocmgnkdieeaa

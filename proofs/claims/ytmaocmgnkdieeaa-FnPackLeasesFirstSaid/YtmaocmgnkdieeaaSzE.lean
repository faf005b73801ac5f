/-
  What the model's MostLeased answers. Condition: the list lies in memory.
-/
import Derived.Test.YtmaocmgnkdieeaaSzD
import Derived.Test.YtmaocmgnkdieeaaLsF
namespace Go.Proofs.Ytmaocmgnkdieeaa
open Go.RowKit Lse

theorem over_take {l : List L} {k : Nat} (hk : k < l.length) (t : Int) : (over (l.take (k + 1)) t : Int) = (over (l.take k) t : Int) + (if inB t l[k].f (l[k].u - 1) = true then 1 else 0) := by
  rw [List.take_succ_eq_append_getElem hk, over_app]
  have e : over [l[k]] t = if inB t l[k].f (l[k].u - 1) = true then 1 else 0 := by
    unfold over inB
    rw [List.countP_singleton]
    by_cases hh : l[k].f ≤ t ∧ t < l[k].u
    · rw [if_pos (by rw [decide_eq_true_eq]; exact hh), if_pos (by rw [decide_eq_true_eq]; omega)]
    · rw [if_neg (by rw [decide_eq_true_eq]; exact hh), if_neg (by rw [decide_eq_true_eq]; omega)]
  rw [e]
  split <;> simp
/-- The greatest number over the beginnings of the first leases. -/
def Mst (l : List L) (k : Nat) (m : Int) : Prop := 0 ≤ m ∧ m ≤ l.length ∧ (∀ i (hi : i < l.length), i < k → (over l l[i].f : Int) ≤ m) ∧ (m = 0 ∨ ∃ i, ∃ hi : i < l.length, i < k ∧ (over l l[i].f : Int) = m)
theorem Mst.nil (l : List L) : Mst l 0 0 := ⟨by omega, by omega, by omega, .inl rfl⟩
theorem mst_step {l : List L} {k : Nat} {m : Int} (h : Mst l k m) (hk : k < l.length) {n m' : Int} (hn : n = (over l l[k].f : Int)) (hm : m' = max m n) : Mst l (k + 1) m' := by
  obtain ⟨h1, h2, h3, h4⟩ := h
  have ho := over_le l l[k].f
  refine ⟨by omega, by omega, fun i hi hik => ?_, ?_⟩
  · rcases Nat.eq_or_lt_of_le (show i ≤ k by omega) with e | e
    · subst e; omega
    · have := h3 i hi e; omega
  · by_cases c : m ≤ n
    · exact .inr ⟨k, hk, by omega, by rw [← hn, hm]; exact (Int.max_eq_right c).symm⟩
    · rcases h4 with e | ⟨i, hi, hik, e⟩
      · left; omega
      · right; exact ⟨i, hi, by omega, by omega⟩
theorem mst_end {l : List L} {m : Int} (h : Mst l l.length m) : m = (mostV l : Int) := by
  obtain ⟨h1, h2, h3, h4⟩ := h
  have := most_is (l := l) (M := m.toNat) (fun x hx => by
    obtain ⟨i, hi, rfl⟩ := List.getElem_of_mem hx
    have := h3 i hi hi
    omega) (by
    rcases h4 with e | ⟨i, hi, _, e⟩
    · left; omega
    · right; exact ⟨_, List.getElem_mem hi, by omega⟩)
  omega
end Go.Proofs.Ytmaocmgnkdieeaa

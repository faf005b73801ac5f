/-
  Plain facts on the first place of the least number of a list. No condition; nothing of the program's text is used here.
-/

namespace Go.Proofs.Ytehdbllpiokbnab.Lea

/-- The first place of the least one of the first k numbers, -1 for none. -/
def lst (vs : List Int) : Nat → Int
  | 0 => -1
  | k + 1 => if lst vs k = -1 ∨ vs.getD k 0 < vs.getD (lst vs k).toNat 0 then (k : Int) else lst vs k
theorem lst_zero (vs : List Int) : lst vs 0 = -1 := rfl
theorem lst_range (vs : List Int) : ∀ k, 0 < k → 0 ≤ lst vs k ∧ lst vs k < k
  | 0, h => by omega
  | k + 1, _ => by
    unfold lst
    split
    · omega
    · rename_i h
      rcases Nat.eq_zero_or_pos k with e | e
      · subst e; exact absurd (.inl rfl) h
      · have := lst_range vs k e; omega
theorem lst_take {vs : List Int} {k : Nat} (h1 : lst vs k = -1 ∨ vs.getD k 0 < vs.getD (lst vs k).toNat 0) : lst vs (k + 1) = k := by
  rw [lst, if_pos h1]
theorem lst_keep {vs : List Int} {k : Nat} (h1 : ¬ (lst vs k = -1 ∨ vs.getD k 0 < vs.getD (lst vs k).toNat 0)) : lst vs (k + 1) = lst vs k := by
  rw [lst, if_neg h1]
/-- What it is. -/
theorem lst_least (vs : List Int) : ∀ k i, i < k → vs.getD (lst vs k).toNat 0 < vs.getD i 0 ∨ (vs.getD (lst vs k).toNat 0 = vs.getD i 0 ∧ lst vs k ≤ i)
  | 0, i, h => by omega
  | k + 1, i, h => by
    by_cases hh : lst vs k = -1 ∨ vs.getD k 0 < vs.getD (lst vs k).toNat 0
    · rw [lst_take hh, Int.toNat_natCast]
      rcases Nat.lt_or_ge i k with e | e
      · have hr := lst_range vs k (by omega)
        have := lst_least vs k i e
        rcases hh with hh | hh
        · omega
        · left; omega
      · have : i = k := by omega
        subst this; exact .inr ⟨rfl, Int.le_refl _⟩
    · rw [lst_keep hh]
      rcases Nat.lt_or_ge i k with e | e
      · exact lst_least vs k i e
      · have : i = k := by omega
        subst this
        rcases Nat.eq_zero_or_pos i with e0 | e0
        · subst e0; exact absurd (.inl rfl) hh
        · have hr := lst_range vs i e0
          have : ¬ vs.getD i 0 < vs.getD (lst vs i).toNat 0 := fun h => hh (.inr h)
          omega
theorem lst_one {vs : List Int} {k j : Nat} (hj : j < k) (h : ∀ i, i < k → vs.getD j 0 < vs.getD i 0 ∨ (vs.getD j 0 = vs.getD i 0 ∧ j ≤ i)) : lst vs k = j := by
  have hr := lst_range vs k (by omega)
  have h1 := lst_least vs k j hj
  have h2 := h (lst vs k).toNat (by omega)
  omega
theorem lst_congr {vs us : List Int} : ∀ {k : Nat}, (∀ i, i < k → vs.getD i 0 = us.getD i 0) → lst vs k = lst us k
  | 0, _ => rfl
  | k + 1, h => by
    have e := lst_congr (k := k) (vs := vs) (us := us) fun i hi => h i (by omega)
    unfold lst
    rw [← e, h k (by omega)]
    rcases Nat.eq_zero_or_pos k with e0 | e0
    · subst e0; simp [lst]
    · have hr := lst_range vs k e0
      rw [h (lst vs k).toNat (by omega)]
/-- The same for numbers that are taken from a bound. -/
theorem lst_less {vs us : List Int} {b : Int} : ∀ {k : Nat}, (∀ i, i < k → vs.getD i 0 = b - us.getD i 0) → ∀ {j}, j < k → (lst vs (j + 1) = lst vs j ↔ ¬ (lst vs j = -1 ∨ us.getD (lst vs j).toNat 0 < us.getD j 0))
  | 0, _, j, hj => by omega
  | k + 1, h, j, hj => by
    have hr : 0 < j → 0 ≤ lst vs j ∧ lst vs j < j := lst_range vs j
    rcases Nat.eq_zero_or_pos j with e | e
    · subst e; simp [lst]
    · have hr := hr e
      have e1 := h j hj
      have e2 := h (lst vs j).toNat (by omega)
      constructor
      · intro hk
        rintro (hh | hh)
        · omega
        · have := lst_take (vs := vs) (k := j) (.inr (by omega)); omega
      · intro hk
        exact lst_keep fun hh => hk (hh.imp id fun hh => by omega)
theorem lst_all_zero {vs : List Int} (h : ∀ i, i < vs.length → vs.getD i 0 = vs.getD 0 0) (hn : 0 < vs.length) : lst vs vs.length = 0 :=
  lst_one (j := 0) hn fun i hi => .inr ⟨(h i hi).symm, Nat.zero_le _⟩
end Go.Proofs.Ytehdbllpiokbnab.Lea

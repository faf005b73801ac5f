/-
  Plain facts on texts: numbers in decimal, texts joined by a comma. No condition; nothing of the program's text is used here.
-/

namespace Go.Proofs.Ytehdbllpiokbnab.Txt

/-- The decimal digits of a number. -/
def dec (n : Nat) : List UInt8 := if n < 10 then [UInt8.ofNat (48 + n)] else dec (n / 10) ++ [UInt8.ofNat (48 + n % 10)]
termination_by n
decreasing_by omega
theorem dec_lt {n : Nat} (h : n < 10) : dec n = [UInt8.ofNat (48 + n)] := by rw [dec, if_pos h]
theorem dec_ge {n : Nat} (h : ¬ n < 10) : dec n = dec (n / 10) ++ dec (n % 10) := by rw [dec, if_neg h, dec_lt (Nat.mod_lt _ (by decide))]
theorem dec_pos (n : Nat) : 0 < (dec n).length := by
  rw [dec]; split <;> simp
theorem dec_len : ∀ (k n : Nat), n < 10 ^ (k + 1) → (dec n).length ≤ k + 1
  | 0, n, h => by rw [dec_lt (by simpa using h)]; simp
  | k + 1, n, h => by
    by_cases h1 : n < 10
    · rw [dec_lt h1]; simp
    · rw [dec_ge h1, dec_lt (n := n % 10) (Nat.mod_lt _ (by decide)), List.length_append]
      have := dec_len k (n / 10) (by rw [Nat.div_lt_iff_lt_mul (by decide), ← Nat.pow_succ]; exact h)
      simp; omega
/-- The first k texts, with commas between them. -/
def jn (ls : List (List UInt8)) : Nat → List UInt8
  | 0 => []
  | k + 1 => (if k = 0 then [] else jn ls k ++ [44]) ++ ls.getD k []
theorem jn_zero (ls : List (List UInt8)) : jn ls 0 = [] := rfl
theorem jn_one (ls : List (List UInt8)) : jn ls 1 = ls.getD 0 [] := rfl
theorem jn_succ (ls : List (List UInt8)) {k : Nat} (h : k ≠ 0) : jn ls (k + 1) = jn ls k ++ [44] ++ ls.getD k [] := by rw [jn, if_neg h]
theorem jn_len {ls : List (List UInt8)} {m : Nat} (h : ∀ l ∈ ls, l.length ≤ m) : ∀ k, (jn ls k).length ≤ (m + 1) * k
  | 0 => by simp [jn]
  | k + 1 => by
    have hg : (ls.getD k []).length ≤ m := by
      rw [List.getD_eq_getElem?_getD]
      rcases Nat.lt_or_ge k ls.length with h1 | h1
      · rw [List.getElem?_eq_getElem h1]; exact h _ (List.getElem_mem h1)
      · rw [List.getElem?_eq_none h1]; simp
    have ih := jn_len h k
    rw [Nat.mul_succ]
    by_cases h0 : k = 0
    · subst h0
      rw [jn_one]
      omega
    · rw [jn_succ ls h0, List.length_append, List.length_append, List.length_singleton]
      omega
/-- Joined, one more at a time. -/
theorem jn_congr {a b : List (List UInt8)} : ∀ {k}, (∀ i, i < k → a.getD i [] = b.getD i []) → jn a k = jn b k
  | 0, _ => rfl
  | k + 1, h => by rw [jn, jn, jn_congr (k := k) fun i hi => h i (by omega), h k (by omega)]
end Go.Proofs.Ytehdbllpiokbnab.Txt

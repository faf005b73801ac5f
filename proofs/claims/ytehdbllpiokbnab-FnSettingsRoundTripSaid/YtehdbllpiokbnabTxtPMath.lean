/-
  Plain facts on texts that are read: parts between signs, numbers, and that reading and writing are the inverse of one another. No condition; nothing of the program's text is used here.
-/
import Derived.Test.YtehdbllpiokbnabTxtMath

namespace Go.Proofs.Ytehdbllpiokbnab.Txt

/-! Parts between signs. -/
def splF (c : UInt8) (P : List (List UInt8)) (cur : List UInt8) : List UInt8 → List (List UInt8)
  | [] => P ++ [cur]
  | x :: l => if x = c then splF c (P ++ [cur]) [] l else splF c P (cur ++ [x]) l
def spl (c : UInt8) (s : List UInt8) : List (List UInt8) := splF c [] [] s
theorem splF_nil (c : UInt8) (P : List (List UInt8)) (cur : List UInt8) : splF c P cur [] = P ++ [cur] := rfl
theorem splF_sign (c : UInt8) (P : List (List UInt8)) (cur l : List UInt8) : splF c P cur (c :: l) = splF c (P ++ [cur]) [] l := by rw [splF, if_pos rfl]
theorem splF_other {c x : UInt8} (h : x ≠ c) (P : List (List UInt8)) (cur l : List UInt8) : splF c P cur (x :: l) = splF c P (cur ++ [x]) l := by rw [splF, if_neg h]
theorem splF_len (c : UInt8) : ∀ (l : List UInt8) (P : List (List UInt8)) (cur : List UInt8), P.length + 1 ≤ (splF c P cur l).length
  | [], P, cur => by rw [splF_nil]; simp
  | x :: l, P, cur => by
    rw [splF]
    split
    · have := splF_len c l (P ++ [cur]) []
      simp at this; omega
    · exact splF_len c l P (cur ++ [x])
theorem splF_lenUp (c : UInt8) : ∀ (l : List UInt8) (P : List (List UInt8)) (cur : List UInt8), (splF c P cur l).length ≤ P.length + 1 + l.length
  | [], P, cur => by rw [splF_nil]; simp
  | x :: l, P, cur => by
    rw [splF]
    split
    · have := splF_lenUp c l (P ++ [cur]) []
      simp at this ⊢; omega
    · have := splF_lenUp c l P (cur ++ [x])
      simp at this ⊢; omega
theorem splF_pre (c : UInt8) : ∀ (l : List UInt8) (P : List (List UInt8)) (cur : List UInt8), splF c P cur l = P ++ splF c [] cur l
  | [], P, cur => by rw [splF_nil, splF_nil, List.nil_append]
  | x :: l, P, cur => by
    rw [splF, splF]
    split
    · rw [splF_pre c l (P ++ [cur]), splF_pre c l ([] ++ [cur])]; simp
    · exact splF_pre c l P (cur ++ [x])
theorem splF_eats {c : UInt8} : ∀ {t : List UInt8} (_ : c ∉ t) (P : List (List UInt8)) (cur l : List UInt8), splF c P cur (t ++ l) = splF c P (cur ++ t) l
  | [], _, P, cur, l => by simp
  | x :: t, h, P, cur, l => by
    obtain ⟨h1, h2⟩ : x ≠ c ∧ c ∉ t := ⟨fun e => h (by simp [e]), fun e => h (by simp [e])⟩
    rw [List.cons_append, splF_other h1, splF_eats h2]; simp
theorem splF_lens (c : UInt8) : ∀ (l : List UInt8) (P : List (List UInt8)) (cur : List UInt8) (m : Nat), (∀ t ∈ P, t.length ≤ m) → cur.length + l.length ≤ m → ∀ t ∈ splF c P cur l, t.length ≤ m
  | [], P, cur, m, hP, hc, t, ht => by
    rw [splF_nil, List.mem_append, List.mem_singleton] at ht
    rcases ht with ht | rfl
    · exact hP t ht
    · simpa using hc
  | x :: l, P, cur, m, hP, hc, t, ht => by
    rw [List.length_cons] at hc
    rw [splF] at ht
    split at ht
    · exact splF_lens c l _ _ m (fun u hu => by rw [List.mem_append, List.mem_singleton] at hu; exact hu.elim (fun e => hP u e) (fun e => by rw [e]; omega)) (by simp; omega) t ht
    · exact splF_lens c l _ _ m hP (by simp; omega) t ht
theorem spl_lens {c : UInt8} {s t : List UInt8} (h : t ∈ spl c s) : t.length ≤ s.length := splF_lens c s [] [] s.length (by simp) (by simp) t h
theorem spl_pos (c : UInt8) (s : List UInt8) : 1 ≤ (spl c s).length := by have := splF_len c s [] []; unfold spl; simpa using this
theorem spl_up (c : UInt8) (s : List UInt8) : (spl c s).length ≤ s.length + 1 := by have := splF_lenUp c s [] []; unfold spl; simp at this; omega
theorem spl_nil (c : UInt8) : spl c [] = [[]] := rfl
theorem spl_one {c : UInt8} {t : List UInt8} (h : c ∉ t) : spl c t = [t] := by
  have := splF_eats h [] [] []
  unfold spl
  rw [List.append_nil] at this
  rw [this, splF_nil]; simp
theorem spl_cons {c : UInt8} {t : List UInt8} (h : c ∉ t) (l : List UInt8) : spl c (t ++ c :: l) = t :: spl c l := by
  unfold spl
  rw [splF_eats h, splF_sign, splF_pre]; simp
/-- The step of a loop from left to right: P the parts so far, the next one from b on. -/
theorem splF_at {c : UInt8} {s : List UInt8} {P : List (List UInt8)} {b k : Nat} (hk : k < s.length) (hb : b ≤ k) (hx : s[k] ≠ c)
    (h : splF c P ((s.drop b).take (k - b)) (s.drop k) = spl c s) : splF c P ((s.drop b).take (k + 1 - b)) (s.drop (k + 1)) = spl c s := by
  rw [List.drop_eq_getElem_cons hk, splF_other hx] at h
  rw [← h]
  congr 1
  rw [show k + 1 - b = k - b + 1 by omega, List.take_succ_eq_append_getElem (by rw [List.length_drop]; omega)]
  congr 2
  rw [List.getElem_drop]
  congr 1; omega
theorem splF_cut {c : UInt8} {s : List UInt8} {P : List (List UInt8)} {b k : Nat} (hk : k < s.length) (hx : s[k] = c)
    (h : splF c P ((s.drop b).take (k - b)) (s.drop k) = spl c s) : splF c (P ++ [(s.drop b).take (k - b)]) ((s.drop (k + 1)).take (k + 1 - (k + 1))) (s.drop (k + 1)) = spl c s := by
  rw [List.drop_eq_getElem_cons hk, hx, splF_sign] at h
  rw [← h, Nat.sub_self, List.take_zero]
theorem splF_end {c : UInt8} {s : List UInt8} {P : List (List UInt8)} {b : Nat} (h : splF c P ((s.drop b).take (s.length - b)) (s.drop s.length) = spl c s) : P ++ [(s.drop b).take (s.length - b)] = spl c s := by
  rw [List.drop_length, splF_nil] at h; exact h

/-! Joined again. -/
def glue (c : UInt8) : List (List UInt8) → List UInt8
  | [] => []
  | [x] => x
  | x :: y :: l => x ++ c :: glue c (y :: l)
theorem glue_cons {c : UInt8} {x : List UInt8} {l : List (List UInt8)} (h : l ≠ []) : glue c (x :: l) = x ++ c :: glue c l := by
  cases l with
  | nil => exact absurd rfl h
  | cons y l => rfl
theorem glue_snoc {c : UInt8} {x : List UInt8} : ∀ {l : List (List UInt8)} (_ : l ≠ []), glue c (l ++ [x]) = glue c l ++ [c] ++ x
  | [y], _ => by simp [glue]
  | y :: z :: l, _ => by
    have := glue_snoc (c := c) (x := x) (l := z :: l) (by simp)
    rw [List.cons_append, glue_cons (l := z :: l ++ [x]) (by simp), this, glue_cons (l := z :: l) (by simp)]; simp
theorem glue_spl (c : UInt8) : ∀ (l cur : List UInt8), glue c (splF c [] cur l) = cur ++ l
  | [], cur => by simp [splF_nil, glue]
  | x :: l, cur => by
    rw [splF]
    split
    · rename_i e
      subst e
      rw [splF_pre, List.nil_append, List.singleton_append, glue_cons (by
        have := splF_len x l [] []
        intro e; rw [e] at this; simp at this), glue_spl x l []]
      simp
    · rw [glue_spl c l (cur ++ [x])]; simp
theorem glue_of_spl (c : UInt8) (s : List UInt8) : glue c (spl c s) = s := by unfold spl; rw [glue_spl]; rfl
theorem spl_glue {c : UInt8} : ∀ {l : List (List UInt8)} (_ : l ≠ []) (_ : ∀ t ∈ l, c ∉ t), spl c (glue c l) = l
  | [x], _, h => by rw [glue]; exact spl_one (h x (by simp))
  | x :: y :: l, _, h => by
    rw [glue, spl_cons (h x (by simp)), spl_glue (l := y :: l) (by simp) (fun t ht => h t (by simp at ht ⊢; exact .inr ht))]
theorem glue_mem {c x : UInt8} : ∀ {l : List (List UInt8)} (_ : x ∈ glue c l), x = c ∨ ∃ t ∈ l, x ∈ t
  | [], h => by simp [glue] at h
  | [y], h => .inr ⟨y, by simp, h⟩
  | y :: z :: l, h => by
    rw [glue, List.mem_append, List.mem_cons] at h
    rcases h with h | h | h
    · exact .inr ⟨y, by simp, h⟩
    · exact .inl h
    · rcases glue_mem h with e | ⟨t, ht, hx⟩
      · exact .inl e
      · exact .inr ⟨t, by simp at ht ⊢; exact .inr ht, hx⟩
theorem jn_glue (ls : List (List UInt8)) : ∀ k, k ≤ ls.length → jn ls k = glue 44 (ls.take k)
  | 0, _ => by simp [jn, glue]
  | k + 1, h => by
    have ih := jn_glue ls k (by omega)
    have hg : ls.getD k [] = ls[k] := by simp [List.getD_eq_getElem?_getD, show k < ls.length by omega]
    rw [List.take_succ_eq_append_getElem (by omega)]
    by_cases h0 : k = 0
    · subst h0; rw [jn_one, hg]; simp [glue]
    · rw [jn_succ _ h0, ih, hg, glue_snoc]
      intro e
      have := congrArg List.length e
      rw [List.length_take, List.length_nil] at this
      omega
theorem jn_all (ls : List (List UInt8)) : jn ls ls.length = glue 44 ls := by rw [jn_glue ls _ (Nat.le_refl _), List.take_length]

theorem head_app {l m : List UInt8} (h : l ≠ []) : (l ++ m).head? = l.head? := by cases l with | nil => exact absurd rfl h | cons a b => rfl
/-! Numbers. -/
def Dig (x : UInt8) : Prop := 48 ≤ x.toNat ∧ x.toNat ≤ 57
instance (x : UInt8) : Decidable (Dig x) := inferInstanceAs (Decidable (_ ∧ _))
def valN (l : List UInt8) : Nat := l.foldl (fun n x => n * 10 + (x.toNat - 48)) 0
theorem valN_nil : valN [] = 0 := rfl
theorem valN_snoc (l : List UInt8) (x : UInt8) : valN (l ++ [x]) = valN l * 10 + (x.toNat - 48) := by unfold valN; rw [List.foldl_append]; rfl
def WordOk (l : List UInt8) : Prop := (1 ≤ l.length ∧ l.length ≤ 4) ∧ (∀ x ∈ l, Dig x) ∧ ¬ (1 < l.length ∧ l.head? = some 48)
instance (l : List UInt8) : Decidable (WordOk l) := inferInstanceAs (Decidable (_ ∧ _))
/-- The number that a word is, -1 for others. -/
def num (l : List UInt8) : Int := if WordOk l then (valN l : Int) else -1
theorem num_yes {l : List UInt8} (h : WordOk l) : num l = valN l := if_pos h
theorem num_no {l : List UInt8} (h : ¬ WordOk l) : num l = -1 := if_neg h
theorem num_neg {l : List UInt8} (h : num l < 0) : num l = -1 := by
  unfold num at h ⊢
  split
  · rename_i e; rw [if_pos e] at h; omega
  · rfl
theorem num_ok {l : List UInt8} (h : 0 ≤ num l) : WordOk l := by
  refine Decidable.byContradiction fun e => ?_
  rw [num_no e] at h; omega
theorem valN_lt : ∀ (k : Nat) (l : List UInt8), l.length = k → (∀ x ∈ l, Dig x) → valN l < 10 ^ k
  | 0, l, h, _ => by rw [List.eq_nil_of_length_eq_zero h]; decide
  | k + 1, l, h, hd => by
    have hne : l ≠ [] := fun e => by rw [e] at h; simp at h
    obtain ⟨m, x, rfl⟩ : ∃ m x, l = m ++ [x] := ⟨l.dropLast, l.getLast hne, (List.dropLast_concat_getLast hne).symm⟩
    have hl : m.length = k := by simpa using h
    have ih := valN_lt k m hl fun y hy => hd y (by simp [hy])
    have hx := hd x (by simp)
    rw [valN_snoc, Nat.pow_succ]
    unfold Dig at hx
    omega
theorem valN_small {l : List UInt8} (h : l.length ≤ 4) (hd : ∀ x ∈ l, Dig x) : valN l ≤ 9999 := by
  have := valN_lt l.length l rfl hd
  have := Nat.pow_le_pow_right (show 0 < 10 by decide) h
  omega
theorem num_le {l : List UInt8} : num l ≤ 9999 := by
  unfold num
  split
  · rename_i h
    have := valN_small h.1.2 h.2.1
    omega
  · omega
theorem num_ge (l : List UInt8) : -1 ≤ num l := by unfold num; split <;> omega
theorem dig_of {x : UInt8} (h : Dig x) : UInt8.ofNat (48 + (x.toNat - 48)) = x := by
  unfold Dig at h
  rw [show 48 + (x.toNat - 48) = x.toNat by omega]
  simp
theorem dec_dig : ∀ (n : Nat), ∀ x ∈ dec n, Dig x := by
  intro n
  induction n using Nat.strongRecOn with
  | ind n ih =>
  have one : ∀ m : Nat, m < 10 → ∀ x ∈ dec m, Dig x := fun m hm x hx => by
    rw [dec_lt hm, List.mem_singleton] at hx
    subst hx
    unfold Dig
    rw [UInt8.toNat_ofNat', Nat.mod_eq_of_lt (by omega)]
    omega
  by_cases h : n < 10
  · exact one n h
  · intro x hx
    rw [dec_ge h, List.mem_append] at hx
    rcases hx with hx | hx
    · exact ih (n / 10) (by omega) x hx
    · exact one _ (by omega) x hx
theorem dec_val (n : Nat) : valN (dec n) = n := by
  induction n using Nat.strongRecOn with
  | ind n ih =>
  have one : ∀ m : Nat, m < 10 → (UInt8.ofNat (48 + m)).toNat - 48 = m := fun m hm => by
    rw [UInt8.toNat_ofNat', Nat.mod_eq_of_lt (by omega)]; omega
  by_cases h : n < 10
  · rw [dec_lt h]
    have := valN_snoc [] (UInt8.ofNat (48 + n))
    rw [List.nil_append] at this
    rw [this, valN_nil, one n h]; omega
  · rw [dec_ge h, dec_lt (n := n % 10) (by omega), valN_snoc, ih (n / 10) (by omega), one _ (by omega)]; omega
theorem dec_head (n : Nat) (h : 0 < n) : (dec n).head? ≠ some 48 := by
  induction n using Nat.strongRecOn with
  | ind n ih =>
  by_cases hl : n < 10
  · rw [dec_lt hl]
    simp only [List.head?_cons, ne_eq, Option.some.injEq]
    intro e
    have := congrArg UInt8.toNat e
    rw [UInt8.toNat_ofNat', Nat.mod_eq_of_lt (by omega)] at this
    have h48 : (48 : UInt8).toNat = 48 := rfl
    omega
  · rw [dec_ge hl]
    have hp := dec_pos (n / 10)
    rw [head_app (fun e => by rw [e] at hp; simp at hp)]
    exact ih (n / 10) (by omega) (by omega)
theorem dec_word {n : Nat} (h : n ≤ 9999) : WordOk (dec n) := by
  refine ⟨⟨dec_pos n, dec_len 3 n (by omega)⟩, dec_dig n, ?_⟩
  rintro ⟨h1, h2⟩
  rcases Nat.eq_zero_or_pos n with rfl | hn
  · rw [dec_lt (by decide)] at h1; simp at h1
  · exact dec_head n hn h2
theorem num_dec {n : Nat} (h : n ≤ 9999) : num (dec n) = n := by rw [num_yes (dec_word h), dec_val]
theorem word_dec : ∀ (k : Nat) (l : List UInt8), l.length = k → 1 ≤ k → (∀ x ∈ l, Dig x) → ¬ (1 < l.length ∧ l.head? = some 48) → dec (valN l) = l
  | 0, _, _, h, _, _ => by omega
  | k + 1, l, h, _, hd, hz => by
    have hne : l ≠ [] := fun e => by rw [e] at h; simp at h
    obtain ⟨m, x, rfl⟩ : ∃ m x, l = m ++ [x] := ⟨l.dropLast, l.getLast hne, (List.dropLast_concat_getLast hne).symm⟩
    have hl : m.length = k := by simpa using h
    have hx := hd x (by simp)
    rcases Nat.eq_zero_or_pos k with hk | hk
    · have : m = [] := List.eq_nil_of_length_eq_zero (by omega)
      subst this
      rw [valN_snoc, valN_nil, Nat.zero_mul, Nat.zero_add, dec_lt (by unfold Dig at hx; omega), dig_of hx, List.nil_append]
    · have hm : m ≠ [] := fun e => by rw [e] at hl; simp at hl; omega
      have hh : m.head? ≠ some 48 := fun e => hz ⟨by simp; omega, by rw [head_app hm]; exact e⟩
      have ih := word_dec k m hl hk (fun y hy => hd y (by simp [hy])) (fun e => hh e.2)
      have hv : 0 < valN m := by
        refine Nat.pos_of_ne_zero fun e => ?_
        rw [e, dec_lt (by decide)] at ih
        exact hh (by rw [← ih]; rfl)
      have hx9 : x.toNat - 48 < 10 := by unfold Dig at hx; omega
      rw [valN_snoc, dec_ge (by omega), show (valN m * 10 + (x.toNat - 48)) / 10 = valN m by omega, show (valN m * 10 + (x.toNat - 48)) % 10 = x.toNat - 48 by omega, ih, dec_lt hx9, dig_of hx]
theorem dec_num {l : List UInt8} (h : 0 ≤ num l) : dec (num l).toNat = l := by
  have hw := num_ok h
  rw [num_yes hw, Int.toNat_natCast]
  exact word_dec l.length l rfl hw.1.1 hw.2.1 hw.2.2
theorem dec_iff {l : List UInt8} (h1 : 1 ≤ l.length) (hd : ∀ x ∈ l, Dig x) : dec (valN l) = l ↔ ¬ (1 < l.length ∧ l.head? = some 48) := by
  constructor
  · rintro e ⟨a, b⟩
    rcases Nat.eq_zero_or_pos (valN l) with h0 | h0
    · rw [h0, dec_lt (by decide)] at e
      rw [← e] at a; simp at a
    · exact dec_head _ h0 (by rw [e]; exact b)
  · exact word_dec l.length l rfl h1 hd
theorem dec_free {c : UInt8} (hc : ¬ Dig c) (n : Nat) : c ∉ dec n := fun h => hc (dec_dig n c h)
end Go.Proofs.Ytehdbllpiokbnab.Txt

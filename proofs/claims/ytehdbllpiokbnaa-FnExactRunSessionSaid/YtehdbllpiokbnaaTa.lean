/-
  Texts that belong together, one behind the other; each says ahead of it what it proves. Conditions: as they say.
-/
import Derived.Test.YtehdbllpiokbnaaPoolMath
import Derived.Test.YtehdbllpiokbnaaBase
import Derived.Laws.Concat
import Derived.Laws.Strings2
import Derived.Handy
import Derived.Test.YtehdbllpiokbnaaApp
import Derived.Laws.IdiomStrings
import Derived.Deep.RegionHeld3
import Derived.Test.YtehdbllpiokbnaaStrip
import Derived.Test.YtehdbllpiokbnaaOwnI
import Derived.Deep.RegionHeldLaw
import Derived.Test.YtehdbllpiokbnaaSsHold
import Derived.Test.YtehdbllpiokbnaaPlF
import Derived.Laws.Strings3
import Derived.Test.YtehdbllpiokbnaaPlN
/-
  Plain facts on texts: numbers in decimal, texts joined by a comma. No condition; nothing of the program's text is used here.
-/
namespace Go.Proofs.Ytehdbllpiokbnaa.Txt

/-- The decimal digits of a number. -/
def dec (n : Nat) : List UInt8 := if n < 10 then [UInt8.ofNat (48 + n)] else dec (n / 10) ++ [UInt8.ofNat (48 + n % 10)]
termination_by n
decreasing_by omega
theorem dec_lt {n : Nat} (h : n < 10) : dec n = [UInt8.ofNat (48 + n)] := by rw [dec, if_pos h]
theorem dec_ge {n : Nat} (h : ¬ n < 10) : dec n = dec (n / 10) ++ dec (n % 10) := by rw [dec, if_neg h, dec_lt (Nat.mod_lt _ (by decide))]
theorem dec_pos (n : Nat) : 0 < (dec n).length := by
  rw [dec]; split <;> simp
theorem dec_len : ∀ (k n : Nat), n < 10 ^ (k + 1) → (dec n).length ≤ k + 1
  | 0, n, h => by rw [dec_lt (by simpa using h)]; simp
  | k + 1, n, h => by
    by_cases h1 : n < 10
    · rw [dec_lt h1]; simp
    · rw [dec_ge h1, dec_lt (n := n % 10) (Nat.mod_lt _ (by decide)), List.length_append]
      have := dec_len k (n / 10) (by rw [Nat.div_lt_iff_lt_mul (by decide), ← Nat.pow_succ]; exact h)
      simp; omega
/-- The first k texts, with commas between them. -/
def jn (ls : List (List UInt8)) : Nat → List UInt8
  | 0 => []
  | k + 1 => (if k = 0 then [] else jn ls k ++ [44]) ++ ls.getD k []
theorem jn_zero (ls : List (List UInt8)) : jn ls 0 = [] := rfl
theorem jn_one (ls : List (List UInt8)) : jn ls 1 = ls.getD 0 [] := rfl
theorem jn_succ (ls : List (List UInt8)) {k : Nat} (h : k ≠ 0) : jn ls (k + 1) = jn ls k ++ [44] ++ ls.getD k [] := by rw [jn, if_neg h]
theorem jn_len {ls : List (List UInt8)} {m : Nat} (h : ∀ l ∈ ls, l.length ≤ m) : ∀ k, (jn ls k).length ≤ (m + 1) * k
  | 0 => by simp [jn]
  | k + 1 => by
    have hg : (ls.getD k []).length ≤ m := by
      rw [List.getD_eq_getElem?_getD]
      rcases Nat.lt_or_ge k ls.length with h1 | h1
      · rw [List.getElem?_eq_getElem h1]; exact h _ (List.getElem_mem h1)
      · rw [List.getElem?_eq_none h1]; simp
    have ih := jn_len h k
    rw [Nat.mul_succ]
    by_cases h0 : k = 0
    · subst h0
      rw [jn_one]
      omega
    · rw [jn_succ ls h0, List.length_append, List.length_append, List.length_singleton]
      omega
/-- Joined, one more at a time. -/
theorem jn_congr {a b : List (List UInt8)} : ∀ {k}, (∀ i, i < k → a.getD i [] = b.getD i []) → jn a k = jn b k
  | 0, _ => rfl
  | k + 1, h => by rw [jn, jn, jn_congr (k := k) fun i hi => h i (by omega), h k (by omega)]
end Go.Proofs.Ytehdbllpiokbnaa.Txt

/-
  Plain facts on texts that are read: parts between signs, numbers, and that reading and writing are the inverse of one another. No condition; nothing of the program's text is used here.
-/
namespace Go.Proofs.Ytehdbllpiokbnaa.Txt

/-! Parts between signs. -/
def splF (c : UInt8) (P : List (List UInt8)) (cur : List UInt8) : List UInt8 → List (List UInt8)
  | [] => P ++ [cur]
  | x :: l => if x = c then splF c (P ++ [cur]) [] l else splF c P (cur ++ [x]) l
def spl (c : UInt8) (s : List UInt8) : List (List UInt8) := splF c [] [] s
theorem splF_nil (c : UInt8) (P : List (List UInt8)) (cur : List UInt8) : splF c P cur [] = P ++ [cur] := rfl
theorem splF_sign (c : UInt8) (P : List (List UInt8)) (cur l : List UInt8) : splF c P cur (c :: l) = splF c (P ++ [cur]) [] l := by rw [splF, if_pos rfl]
theorem splF_other {c x : UInt8} (h : x ≠ c) (P : List (List UInt8)) (cur l : List UInt8) : splF c P cur (x :: l) = splF c P (cur ++ [x]) l := by rw [splF, if_neg h]
theorem splF_len (c : UInt8) : ∀ (l : List UInt8) (P : List (List UInt8)) (cur : List UInt8), P.length + 1 ≤ (splF c P cur l).length
  | [], P, cur => by rw [splF_nil]; simp
  | x :: l, P, cur => by
    rw [splF]
    split
    · have := splF_len c l (P ++ [cur]) []
      simp at this; omega
    · exact splF_len c l P (cur ++ [x])
theorem splF_lenUp (c : UInt8) : ∀ (l : List UInt8) (P : List (List UInt8)) (cur : List UInt8), (splF c P cur l).length ≤ P.length + 1 + l.length
  | [], P, cur => by rw [splF_nil]; simp
  | x :: l, P, cur => by
    rw [splF]
    split
    · have := splF_lenUp c l (P ++ [cur]) []
      simp at this ⊢; omega
    · have := splF_lenUp c l P (cur ++ [x])
      simp at this ⊢; omega
theorem splF_pre (c : UInt8) : ∀ (l : List UInt8) (P : List (List UInt8)) (cur : List UInt8), splF c P cur l = P ++ splF c [] cur l
  | [], P, cur => by rw [splF_nil, splF_nil, List.nil_append]
  | x :: l, P, cur => by
    rw [splF, splF]
    split
    · rw [splF_pre c l (P ++ [cur]), splF_pre c l ([] ++ [cur])]; simp
    · exact splF_pre c l P (cur ++ [x])
theorem splF_eats {c : UInt8} : ∀ {t : List UInt8} (_ : c ∉ t) (P : List (List UInt8)) (cur l : List UInt8), splF c P cur (t ++ l) = splF c P (cur ++ t) l
  | [], _, P, cur, l => by simp
  | x :: t, h, P, cur, l => by
    obtain ⟨h1, h2⟩ : x ≠ c ∧ c ∉ t := ⟨fun e => h (by simp [e]), fun e => h (by simp [e])⟩
    rw [List.cons_append, splF_other h1, splF_eats h2]; simp
theorem splF_lens (c : UInt8) : ∀ (l : List UInt8) (P : List (List UInt8)) (cur : List UInt8) (m : Nat), (∀ t ∈ P, t.length ≤ m) → cur.length + l.length ≤ m → ∀ t ∈ splF c P cur l, t.length ≤ m
  | [], P, cur, m, hP, hc, t, ht => by
    rw [splF_nil, List.mem_append, List.mem_singleton] at ht
    rcases ht with ht | rfl
    · exact hP t ht
    · simpa using hc
  | x :: l, P, cur, m, hP, hc, t, ht => by
    rw [List.length_cons] at hc
    rw [splF] at ht
    split at ht
    · exact splF_lens c l _ _ m (fun u hu => by rw [List.mem_append, List.mem_singleton] at hu; exact hu.elim (fun e => hP u e) (fun e => by rw [e]; omega)) (by simp; omega) t ht
    · exact splF_lens c l _ _ m hP (by simp; omega) t ht
theorem spl_lens {c : UInt8} {s t : List UInt8} (h : t ∈ spl c s) : t.length ≤ s.length := splF_lens c s [] [] s.length (by simp) (by simp) t h
theorem spl_pos (c : UInt8) (s : List UInt8) : 1 ≤ (spl c s).length := by have := splF_len c s [] []; unfold spl; simpa using this
theorem spl_up (c : UInt8) (s : List UInt8) : (spl c s).length ≤ s.length + 1 := by have := splF_lenUp c s [] []; unfold spl; simp at this; omega
theorem spl_nil (c : UInt8) : spl c [] = [[]] := rfl
theorem spl_one {c : UInt8} {t : List UInt8} (h : c ∉ t) : spl c t = [t] := by
  have := splF_eats h [] [] []
  unfold spl
  rw [List.append_nil] at this
  rw [this, splF_nil]; simp
theorem spl_cons {c : UInt8} {t : List UInt8} (h : c ∉ t) (l : List UInt8) : spl c (t ++ c :: l) = t :: spl c l := by
  unfold spl
  rw [splF_eats h, splF_sign, splF_pre]; simp
/-- The step of a loop from left to right: P the parts so far, the next one from b on. -/
theorem splF_at {c : UInt8} {s : List UInt8} {P : List (List UInt8)} {b k : Nat} (hk : k < s.length) (hb : b ≤ k) (hx : s[k] ≠ c)
    (h : splF c P ((s.drop b).take (k - b)) (s.drop k) = spl c s) : splF c P ((s.drop b).take (k + 1 - b)) (s.drop (k + 1)) = spl c s := by
  rw [List.drop_eq_getElem_cons hk, splF_other hx] at h
  rw [← h]
  congr 1
  rw [show k + 1 - b = k - b + 1 by omega, List.take_succ_eq_append_getElem (by rw [List.length_drop]; omega)]
  congr 2
  rw [List.getElem_drop]
  congr 1; omega
theorem splF_cut {c : UInt8} {s : List UInt8} {P : List (List UInt8)} {b k : Nat} (hk : k < s.length) (hx : s[k] = c)
    (h : splF c P ((s.drop b).take (k - b)) (s.drop k) = spl c s) : splF c (P ++ [(s.drop b).take (k - b)]) ((s.drop (k + 1)).take (k + 1 - (k + 1))) (s.drop (k + 1)) = spl c s := by
  rw [List.drop_eq_getElem_cons hk, hx, splF_sign] at h
  rw [← h, Nat.sub_self, List.take_zero]
theorem splF_end {c : UInt8} {s : List UInt8} {P : List (List UInt8)} {b : Nat} (h : splF c P ((s.drop b).take (s.length - b)) (s.drop s.length) = spl c s) : P ++ [(s.drop b).take (s.length - b)] = spl c s := by
  rw [List.drop_length, splF_nil] at h; exact h

/-! Joined again. -/
def glue (c : UInt8) : List (List UInt8) → List UInt8
  | [] => []
  | [x] => x
  | x :: y :: l => x ++ c :: glue c (y :: l)
theorem glue_cons {c : UInt8} {x : List UInt8} {l : List (List UInt8)} (h : l ≠ []) : glue c (x :: l) = x ++ c :: glue c l := by
  cases l with
  | nil => exact absurd rfl h
  | cons y l => rfl
theorem glue_snoc {c : UInt8} {x : List UInt8} : ∀ {l : List (List UInt8)} (_ : l ≠ []), glue c (l ++ [x]) = glue c l ++ [c] ++ x
  | [y], _ => by simp [glue]
  | y :: z :: l, _ => by
    have := glue_snoc (c := c) (x := x) (l := z :: l) (by simp)
    rw [List.cons_append, glue_cons (l := z :: l ++ [x]) (by simp), this, glue_cons (l := z :: l) (by simp)]; simp
theorem glue_spl (c : UInt8) : ∀ (l cur : List UInt8), glue c (splF c [] cur l) = cur ++ l
  | [], cur => by simp [splF_nil, glue]
  | x :: l, cur => by
    rw [splF]
    split
    · rename_i e
      subst e
      rw [splF_pre, List.nil_append, List.singleton_append, glue_cons (by
        have := splF_len x l [] []
        intro e; rw [e] at this; simp at this), glue_spl x l []]
      simp
    · rw [glue_spl c l (cur ++ [x])]; simp
theorem glue_of_spl (c : UInt8) (s : List UInt8) : glue c (spl c s) = s := by unfold spl; rw [glue_spl]; rfl
theorem spl_glue {c : UInt8} : ∀ {l : List (List UInt8)} (_ : l ≠ []) (_ : ∀ t ∈ l, c ∉ t), spl c (glue c l) = l
  | [x], _, h => by rw [glue]; exact spl_one (h x (by simp))
  | x :: y :: l, _, h => by
    rw [glue, spl_cons (h x (by simp)), spl_glue (l := y :: l) (by simp) (fun t ht => h t (by simp at ht ⊢; exact .inr ht))]
theorem glue_mem {c x : UInt8} : ∀ {l : List (List UInt8)} (_ : x ∈ glue c l), x = c ∨ ∃ t ∈ l, x ∈ t
  | [], h => by simp [glue] at h
  | [y], h => .inr ⟨y, by simp, h⟩
  | y :: z :: l, h => by
    rw [glue, List.mem_append, List.mem_cons] at h
    rcases h with h | h | h
    · exact .inr ⟨y, by simp, h⟩
    · exact .inl h
    · rcases glue_mem h with e | ⟨t, ht, hx⟩
      · exact .inl e
      · exact .inr ⟨t, by simp at ht ⊢; exact .inr ht, hx⟩
theorem jn_glue (ls : List (List UInt8)) : ∀ k, k ≤ ls.length → jn ls k = glue 44 (ls.take k)
  | 0, _ => by simp [jn, glue]
  | k + 1, h => by
    have ih := jn_glue ls k (by omega)
    have hg : ls.getD k [] = ls[k] := by simp [List.getD_eq_getElem?_getD, show k < ls.length by omega]
    rw [List.take_succ_eq_append_getElem (by omega)]
    by_cases h0 : k = 0
    · subst h0; rw [jn_one, hg]; simp [glue]
    · rw [jn_succ _ h0, ih, hg, glue_snoc]
      intro e
      have := congrArg List.length e
      rw [List.length_take, List.length_nil] at this
      omega
theorem jn_all (ls : List (List UInt8)) : jn ls ls.length = glue 44 ls := by rw [jn_glue ls _ (Nat.le_refl _), List.take_length]

theorem head_app {l m : List UInt8} (h : l ≠ []) : (l ++ m).head? = l.head? := by cases l with | nil => exact absurd rfl h | cons a b => rfl
/-! Numbers. -/
def Dig (x : UInt8) : Prop := 48 ≤ x.toNat ∧ x.toNat ≤ 57
instance (x : UInt8) : Decidable (Dig x) := inferInstanceAs (Decidable (_ ∧ _))
def valN (l : List UInt8) : Nat := l.foldl (fun n x => n * 10 + (x.toNat - 48)) 0
theorem valN_nil : valN [] = 0 := rfl
theorem valN_snoc (l : List UInt8) (x : UInt8) : valN (l ++ [x]) = valN l * 10 + (x.toNat - 48) := by unfold valN; rw [List.foldl_append]; rfl
def WordOk (l : List UInt8) : Prop := (1 ≤ l.length ∧ l.length ≤ 4) ∧ (∀ x ∈ l, Dig x) ∧ ¬ (1 < l.length ∧ l.head? = some 48)
instance (l : List UInt8) : Decidable (WordOk l) := inferInstanceAs (Decidable (_ ∧ _))
/-- The number that a word is, -1 for others. -/
def num (l : List UInt8) : Int := if WordOk l then (valN l : Int) else -1
theorem num_yes {l : List UInt8} (h : WordOk l) : num l = valN l := if_pos h
theorem num_no {l : List UInt8} (h : ¬ WordOk l) : num l = -1 := if_neg h
theorem num_neg {l : List UInt8} (h : num l < 0) : num l = -1 := by
  unfold num at h ⊢
  split
  · rename_i e; rw [if_pos e] at h; omega
  · rfl
theorem num_ok {l : List UInt8} (h : 0 ≤ num l) : WordOk l := by
  refine Decidable.byContradiction fun e => ?_
  rw [num_no e] at h; omega
theorem valN_lt : ∀ (k : Nat) (l : List UInt8), l.length = k → (∀ x ∈ l, Dig x) → valN l < 10 ^ k
  | 0, l, h, _ => by rw [List.eq_nil_of_length_eq_zero h]; decide
  | k + 1, l, h, hd => by
    have hne : l ≠ [] := fun e => by rw [e] at h; simp at h
    obtain ⟨m, x, rfl⟩ : ∃ m x, l = m ++ [x] := ⟨l.dropLast, l.getLast hne, (List.dropLast_concat_getLast hne).symm⟩
    have hl : m.length = k := by simpa using h
    have ih := valN_lt k m hl fun y hy => hd y (by simp [hy])
    have hx := hd x (by simp)
    rw [valN_snoc, Nat.pow_succ]
    unfold Dig at hx
    omega
theorem valN_small {l : List UInt8} (h : l.length ≤ 4) (hd : ∀ x ∈ l, Dig x) : valN l ≤ 9999 := by
  have := valN_lt l.length l rfl hd
  have := Nat.pow_le_pow_right (show 0 < 10 by decide) h
  omega
theorem num_le {l : List UInt8} : num l ≤ 9999 := by
  unfold num
  split
  · rename_i h
    have := valN_small h.1.2 h.2.1
    omega
  · omega
theorem num_ge (l : List UInt8) : -1 ≤ num l := by unfold num; split <;> omega
theorem dig_of {x : UInt8} (h : Dig x) : UInt8.ofNat (48 + (x.toNat - 48)) = x := by
  unfold Dig at h
  rw [show 48 + (x.toNat - 48) = x.toNat by omega]
  simp
theorem dec_dig : ∀ (n : Nat), ∀ x ∈ dec n, Dig x := by
  intro n
  induction n using Nat.strongRecOn with
  | ind n ih =>
  have one : ∀ m : Nat, m < 10 → ∀ x ∈ dec m, Dig x := fun m hm x hx => by
    rw [dec_lt hm, List.mem_singleton] at hx
    subst hx
    unfold Dig
    rw [UInt8.toNat_ofNat', Nat.mod_eq_of_lt (by omega)]
    omega
  by_cases h : n < 10
  · exact one n h
  · intro x hx
    rw [dec_ge h, List.mem_append] at hx
    rcases hx with hx | hx
    · exact ih (n / 10) (by omega) x hx
    · exact one _ (by omega) x hx
theorem dec_val (n : Nat) : valN (dec n) = n := by
  induction n using Nat.strongRecOn with
  | ind n ih =>
  have one : ∀ m : Nat, m < 10 → (UInt8.ofNat (48 + m)).toNat - 48 = m := fun m hm => by
    rw [UInt8.toNat_ofNat', Nat.mod_eq_of_lt (by omega)]; omega
  by_cases h : n < 10
  · rw [dec_lt h]
    have := valN_snoc [] (UInt8.ofNat (48 + n))
    rw [List.nil_append] at this
    rw [this, valN_nil, one n h]; omega
  · rw [dec_ge h, dec_lt (n := n % 10) (by omega), valN_snoc, ih (n / 10) (by omega), one _ (by omega)]; omega
theorem dec_head (n : Nat) (h : 0 < n) : (dec n).head? ≠ some 48 := by
  induction n using Nat.strongRecOn with
  | ind n ih =>
  by_cases hl : n < 10
  · rw [dec_lt hl]
    simp only [List.head?_cons, ne_eq, Option.some.injEq]
    intro e
    have := congrArg UInt8.toNat e
    rw [UInt8.toNat_ofNat', Nat.mod_eq_of_lt (by omega)] at this
    have h48 : (48 : UInt8).toNat = 48 := rfl
    omega
  · rw [dec_ge hl]
    have hp := dec_pos (n / 10)
    rw [head_app (fun e => by rw [e] at hp; simp at hp)]
    exact ih (n / 10) (by omega) (by omega)
theorem dec_word {n : Nat} (h : n ≤ 9999) : WordOk (dec n) := by
  refine ⟨⟨dec_pos n, dec_len 3 n (by omega)⟩, dec_dig n, ?_⟩
  rintro ⟨h1, h2⟩
  rcases Nat.eq_zero_or_pos n with rfl | hn
  · rw [dec_lt (by decide)] at h1; simp at h1
  · exact dec_head n hn h2
theorem num_dec {n : Nat} (h : n ≤ 9999) : num (dec n) = n := by rw [num_yes (dec_word h), dec_val]
theorem word_dec : ∀ (k : Nat) (l : List UInt8), l.length = k → 1 ≤ k → (∀ x ∈ l, Dig x) → ¬ (1 < l.length ∧ l.head? = some 48) → dec (valN l) = l
  | 0, _, _, h, _, _ => by omega
  | k + 1, l, h, _, hd, hz => by
    have hne : l ≠ [] := fun e => by rw [e] at h; simp at h
    obtain ⟨m, x, rfl⟩ : ∃ m x, l = m ++ [x] := ⟨l.dropLast, l.getLast hne, (List.dropLast_concat_getLast hne).symm⟩
    have hl : m.length = k := by simpa using h
    have hx := hd x (by simp)
    rcases Nat.eq_zero_or_pos k with hk | hk
    · have : m = [] := List.eq_nil_of_length_eq_zero (by omega)
      subst this
      rw [valN_snoc, valN_nil, Nat.zero_mul, Nat.zero_add, dec_lt (by unfold Dig at hx; omega), dig_of hx, List.nil_append]
    · have hm : m ≠ [] := fun e => by rw [e] at hl; simp at hl; omega
      have hh : m.head? ≠ some 48 := fun e => hz ⟨by simp; omega, by rw [head_app hm]; exact e⟩
      have ih := word_dec k m hl hk (fun y hy => hd y (by simp [hy])) (fun e => hh e.2)
      have hv : 0 < valN m := by
        refine Nat.pos_of_ne_zero fun e => ?_
        rw [e, dec_lt (by decide)] at ih
        exact hh (by rw [← ih]; rfl)
      have hx9 : x.toNat - 48 < 10 := by unfold Dig at hx; omega
      rw [valN_snoc, dec_ge (by omega), show (valN m * 10 + (x.toNat - 48)) / 10 = valN m by omega, show (valN m * 10 + (x.toNat - 48)) % 10 = x.toNat - 48 by omega, ih, dec_lt hx9, dig_of hx]
theorem dec_num {l : List UInt8} (h : 0 ≤ num l) : dec (num l).toNat = l := by
  have hw := num_ok h
  rw [num_yes hw, Int.toNat_natCast]
  exact word_dec l.length l rfl hw.1.1 hw.2.1 hw.2.2
theorem dec_iff {l : List UInt8} (h1 : 1 ≤ l.length) (hd : ∀ x ∈ l, Dig x) : dec (valN l) = l ↔ ¬ (1 < l.length ∧ l.head? = some 48) := by
  constructor
  · rintro e ⟨a, b⟩
    rcases Nat.eq_zero_or_pos (valN l) with h0 | h0
    · rw [h0, dec_lt (by decide)] at e
      rw [← e] at a; simp at a
    · exact dec_head _ h0 (by rw [e]; exact b)
  · exact word_dec l.length l rfl h1 hd
theorem dec_free {c : UInt8} (hc : ¬ Dig c) (n : Nat) : c ∉ dec n := fun h => hc (dec_dig n c h)
end Go.Proofs.Ytehdbllpiokbnaa.Txt

/-
  Plain facts on texts of lists and pools: what is read of them, and that reading and writing are the inverse of one another. No condition; nothing of the program's text is used here.
-/
namespace Go.Proofs.Ytehdbllpiokbnaa.Txt
open Pol

/-- The numbers of a text. -/
def numL (s : List UInt8) : List Int := if s = [] then [] else (spl 44 s).map num
def pairL : List (List UInt8) → Int × Int
  | [a, b] => (num a, num b)
  | _ => (-1, -1)
/-- The two numbers of a word with a sign between them. -/
def pair (c : UInt8) (w : List UInt8) : Int × Int := pairL (spl c w)
def holOf (w : List UInt8) : Ho := ⟨(pair 58 w).1, (pair 58 w).2⟩
def holL (s : List UInt8) : List Ho := if s = [] then [] else (spl 44 s).map holOf
theorem numL_nil : numL [] = [] := rfl
theorem holL_nil : holL [] = [] := rfl
theorem numL_of {s : List UInt8} (h : s ≠ []) : numL s = (spl 44 s).map num := if_neg h
theorem holL_of {s : List UInt8} (h : s ≠ []) : holL s = (spl 44 s).map holOf := if_neg h
theorem pair_of {c : UInt8} {w a b : List UInt8} (h : spl c w = [a, b]) : pair c w = (num a, num b) := by unfold pair; rw [h]; rfl
theorem pair_no {c : UInt8} {w : List UInt8} (h : (spl c w).length ≠ 2) : pair c w = (-1, -1) := by
  unfold pair
  obtain ⟨x, hx⟩ : ∃ x, x = spl c w := ⟨_, rfl⟩
  rw [← hx] at h ⊢
  match x, h with
  | [], _ => rfl
  | [_], _ => rfl
  | [_, _], h => exact absurd rfl h
  | _ :: _ :: _ :: _, _ => rfl
theorem two_of {l : List (List UInt8)} (h : l.length = 2) : ∃ a b, l = [a, b] := by
  match l, h with
  | [a, b], _ => exact ⟨a, b, rfl⟩
theorem three_of {l : List (List UInt8)} (h : l.length = 3) : ∃ a b c, l = [a, b, c] := by
  match l, h with
  | [a, b, c], _ => exact ⟨a, b, c, rfl⟩
theorem pair_glue {c : UInt8} {w : List UInt8} (h : 0 ≤ (pair c w).1) : dec (pair c w).1.toNat ++ [c] ++ dec (pair c w).2.toNat = w ∨ (pair c w).2 < 0 := by
  by_cases hl : (spl c w).length = 2
  · obtain ⟨a, b, e⟩ := two_of hl
    rw [pair_of e] at h ⊢
    by_cases h2 : num b < 0
    · exact .inr h2
    · left
      rw [dec_num h, dec_num (by simpa using h2)]
      have := glue_of_spl c w
      rw [e] at this
      rw [← this]; simp [glue]
  · rw [pair_no hl] at h; simp at h
theorem pair_dec {c : UInt8} (hc : ¬ Dig c) {a b : Nat} (ha : a ≤ 9999) (hb : b ≤ 9999) : pair c (dec a ++ [c] ++ dec b) = ((a : Int), (b : Int)) := by
  have e : spl c (dec a ++ [c] ++ dec b) = [dec a, dec b] := by
    rw [List.append_assoc, List.singleton_append, spl_cons (dec_free hc a), spl_one (dec_free hc b)]
  rw [pair_of e, num_dec ha, num_dec hb]
theorem pair_le (c : UInt8) (w : List UInt8) : ((pair c w).1 ≤ 9999 ∧ -1 ≤ (pair c w).1) ∧ (pair c w).2 ≤ 9999 ∧ -1 ≤ (pair c w).2 := by
  by_cases hl : (spl c w).length = 2
  · obtain ⟨a, b, e⟩ := two_of hl
    rw [pair_of e]
    exact ⟨⟨num_le, num_ge a⟩, num_le, num_ge b⟩
  · rw [pair_no hl]; exact ⟨⟨by decide, by decide⟩, by decide, by decide⟩

/-! Lists of numbers. -/
theorem glue_ne {c : UInt8} {l : List (List UInt8)} (h : l ≠ []) (h1 : ∀ t ∈ l, 0 < t.length) : glue c l ≠ [] := by
  match l, h with
  | x :: l, _ =>
    have hx := h1 x (by simp)
    intro e
    cases l with
    | nil => rw [glue] at e; rw [e] at hx; simp at hx
    | cons y l =>
      have := congrArg List.length e
      rw [glue] at this
      simp at this
theorem back_map {α : Type} (f : α → List UInt8) (g : List UInt8 → α) (l : List α) (h0 : ∀ x ∈ l, 0 < (f x).length) (hc : ∀ x ∈ l, (44 : UInt8) ∉ f x) (hg : ∀ x ∈ l, g (f x) = x) :
    (if jn (l.map f) l.length = [] then [] else (spl 44 (jn (l.map f) l.length)).map g) = l := by
  have e : jn (l.map f) l.length = glue 44 (l.map f) := by
    have := jn_all (l.map f)
    rw [List.length_map] at this
    exact this
  rw [e]
  cases hl : l with
  | nil => rfl
  | cons x m =>
    rw [← hl]
    have hne : l.map f ≠ [] := by rw [hl]; simp
    rw [if_neg (glue_ne hne (fun t ht => by obtain ⟨y, hy, rfl⟩ := List.mem_map.1 ht; exact h0 y hy)), spl_glue hne (fun t ht => by obtain ⟨y, hy, rfl⟩ := List.mem_map.1 ht; exact hc y hy), List.map_map]
    have : l.map (g ∘ f) = l.map id := List.map_congr_left fun y hy => hg y hy
    rw [this, List.map_id]
theorem fore_map {α : Type} (f : α → List UInt8) (g : List UInt8 → α) (s : List UInt8) (h : s ≠ [] → ∀ t ∈ spl 44 s, f (g t) = t) (l : List α) (hl : l = if s = [] then [] else (spl 44 s).map g) :
    jn (l.map f) l.length = s := by
  have e : jn (l.map f) l.length = glue 44 (l.map f) := by
    have := jn_all (l.map f)
    rw [List.length_map] at this
    exact this
  rw [e, hl]
  by_cases h0 : s = []
  · rw [if_pos h0, h0]; rfl
  · rw [if_neg h0, List.map_map]
    have : (spl 44 s).map (f ∘ g) = (spl 44 s).map id := List.map_congr_left fun y hy => h h0 y hy
    rw [this, List.map_id, glue_of_spl]
theorem comma_no : ¬ Dig 44 := by decide
theorem colon_no : ¬ Dig 58 := by decide
theorem equal_no : ¬ Dig 61 := by decide
theorem bar_no : ¬ Dig 124 := by decide
theorem space_no : ¬ Dig 32 := by decide
def numT (x : Int) : List UInt8 := dec x.toNat
def hoT (x : Ho) : List UInt8 := dec x.c.toNat ++ [58] ++ dec x.o.toNat
theorem numL_back {l : List Int} (h : ∀ x ∈ l, 0 ≤ x ∧ x ≤ 9999) : numL (jn (l.map numT) l.length) = l :=
  back_map numT num l (fun x _ => dec_pos _) (fun x _ => dec_free comma_no _) (fun x hx => by
    have := h x hx
    unfold numT
    rw [num_dec (by omega)]; omega)
theorem numL_fore {s : List UInt8} (h : ∀ x ∈ numL s, 0 ≤ x) : jn ((numL s).map numT) (numL s).length = s :=
  fore_map numT num s (fun h0 t ht => dec_num (h _ (by rw [numL_of h0]; exact List.mem_map_of_mem ht))) _ rfl
theorem hoT_free {c : UInt8} (hc : ¬ Dig c) (h : c ≠ 58) (x : Ho) : c ∉ hoT x := by
  intro e
  unfold hoT at e
  rw [List.mem_append, List.mem_append, List.mem_singleton] at e
  rcases e with (e | e) | e
  · exact dec_free hc _ e
  · exact h e
  · exact dec_free hc _ e
theorem holL_back {l : List Ho} (h : ∀ x ∈ l, (0 ≤ x.c ∧ x.c ≤ 9999) ∧ 0 ≤ x.o ∧ x.o ≤ 9999) : holL (jn (l.map hoT) l.length) = l :=
  back_map hoT holOf l (fun x _ => by unfold hoT; simp; omega) (fun x _ => hoT_free comma_no (by decide) x) (fun x hx => by
    obtain ⟨⟨h1, h2⟩, h3, h4⟩ := h x hx
    unfold holOf hoT
    rw [pair_dec colon_no (by omega) (by omega)]
    show (⟨((x.c.toNat : Nat) : Int), ((x.o.toNat : Nat) : Int)⟩ : Ho) = x
    rw [show ((x.c.toNat : Nat) : Int) = x.c by omega, show ((x.o.toNat : Nat) : Int) = x.o by omega])
theorem holL_fore {s : List UInt8} (h : ∀ x ∈ holL s, 0 ≤ x.c ∧ 0 ≤ x.o) : jn ((holL s).map hoT) (holL s).length = s :=
  fore_map hoT holOf s (fun h0 t ht => by
    obtain ⟨h1, h2⟩ := h (holOf t) (by rw [holL_of h0]; exact List.mem_map_of_mem ht)
    exact (pair_glue (c := 58) h1).resolve_right (fun e => by have h2 : 0 ≤ (pair 58 t).2 := h2; omega)) _ rfl
theorem jn_free {α : Type} {c : UInt8} (hc : c ≠ 44) (f : α → List UInt8) (l : List α) (h : ∀ x ∈ l, c ∉ f x) : c ∉ jn (l.map f) l.length := by
  have e : jn (l.map f) l.length = glue 44 (l.map f) := by
    have := jn_all (l.map f)
    rw [List.length_map] at this
    exact this
  rw [e]
  intro hm
  rcases glue_mem hm with e | ⟨t, ht, hx⟩
  · exact hc e
  · obtain ⟨y, hy, rfl⟩ := List.mem_map.1 ht
    exact h y hy hx
/-! Pools. -/
def rawL : List (List UInt8) → List (List UInt8) → Option Pl
  | [a, _], [x, y, z] => some ⟨num a, numL x, holL y, numL z⟩
  | _, _ => none
/-- What a text says of a pool, if it has the parts of one. -/
def rawP (s : List UInt8) : Option Pl := rawL (spl 32 s) (spl 124 ((spl 32 s).getD 1 []))
def prsB (s : List UInt8) : Bool := match rawP s with | some p => okB p | none => false
def prsP (s : List UInt8) : Pl := if prsB s = true then (rawP s).getD Pl.zero else Pl.zero
theorem prsP_no {s : List UInt8} (h : prsB s = false) : prsP s = Pl.zero := by unfold prsP; rw [h]; rfl
theorem raw_no2 {s : List UInt8} (h : (spl 32 s).length ≠ 2) : rawP s = none := by
  unfold rawP
  obtain ⟨x, hx⟩ : ∃ x, x = spl 32 s := ⟨_, rfl⟩
  rw [← hx] at h ⊢
  match x, h with
  | [], _ => rfl
  | [_], _ => rfl
  | [_, _], h => exact absurd rfl h
  | _ :: _ :: _ :: _, _ => rfl
theorem raw_no3 {s a b : List UInt8} (e : spl 32 s = [a, b]) (h : (spl 124 b).length ≠ 3) : rawP s = none := by
  unfold rawP
  rw [e, show ([a, b] : List (List UInt8)).getD 1 [] = b from rfl]
  obtain ⟨x, hx⟩ : ∃ x, x = spl 124 b := ⟨_, rfl⟩
  rw [← hx] at h ⊢
  match x, h with
  | [], _ => rfl
  | [_], _ => rfl
  | [_, _], _ => rfl
  | [_, _, _], h => exact absurd rfl h
  | _ :: _ :: _ :: _ :: _, _ => rfl
theorem raw_yes {s a b x y z : List UInt8} (e : spl 32 s = [a, b]) (e2 : spl 124 b = [x, y, z]) : rawP s = some ⟨num a, numL x, holL y, numL z⟩ := by
  unfold rawP
  rw [e, show ([a, b] : List (List UInt8)).getD 1 [] = b from rfl, e2]
  rfl
theorem prsB_no {s : List UInt8} (h : rawP s = none) : prsB s = false := by unfold prsB; rw [h]
theorem prsB_of {s : List UInt8} {p : Pl} (h : rawP s = some p) : prsB s = okB p := by unfold prsB; rw [h]
theorem prsP_of {s : List UInt8} {p : Pl} (h : rawP s = some p) (hk : okB p = true) : prsP s = p := by unfold prsP; rw [prsB_of h, hk, h]; rfl
theorem raw_inv {s : List UInt8} {p : Pl} (h : rawP s = some p) : ∃ a b x y z, spl 32 s = [a, b] ∧ spl 124 b = [x, y, z] ∧ p = ⟨num a, numL x, holL y, numL z⟩ := by
  by_cases h2 : (spl 32 s).length = 2
  · obtain ⟨a, b, e⟩ := two_of h2
    by_cases h3 : (spl 124 b).length = 3
    · obtain ⟨x, y, z, e2⟩ := three_of h3
      rw [raw_yes e e2] at h
      exact ⟨a, b, x, y, z, e, e2, by injection h with h; exact h.symm⟩
    · rw [raw_no3 e h3] at h; cases h
  · rw [raw_no2 h2] at h; cases h
def poT (p : Pl) : List UInt8 := dec p.mx.toNat ++ [32] ++ jn (p.idle.map numT) p.idle.length ++ [124] ++ jn (p.held.map hoT) p.held.length ++ [124] ++ jn (p.wait.map numT) p.wait.length
def NumOk (p : Pl) : Prop := (0 ≤ p.mx ∧ p.mx ≤ 9999) ∧ (∀ x ∈ p.idle, 0 ≤ x ∧ x ≤ 9999) ∧ (∀ x ∈ p.held, (0 ≤ x.c ∧ x.c ≤ 9999) ∧ 0 ≤ x.o ∧ x.o ≤ 9999) ∧ ∀ x ∈ p.wait, 0 ≤ x ∧ x ≤ 9999
theorem ok_numOk {p : Pl} (h : Ok p) : NumOk p := by
  obtain ⟨⟨h0, h1⟩, _, h3, h4, _, h6, _⟩ := h
  refine ⟨⟨by omega, by omega⟩, fun x hx => ?_, fun x hx => ?_, fun x hx => ?_⟩
  · have := h3 x (by unfold opens; simp [hx]); omega
  · have a := h3 x.c (by unfold opens; exact List.mem_append.2 (.inr (List.mem_map_of_mem hx)))
    have b := h4 x.o (List.mem_map_of_mem hx)
    exact ⟨⟨by omega, by omega⟩, by omega, by omega⟩
  · have := h6 x hx; omega
theorem raw_poT {p : Pl} (h : NumOk p) : rawP (poT p) = some p := by
  obtain ⟨⟨h0, h1⟩, h2, h3, h4⟩ := h
  have f1 : ∀ c : UInt8, ¬ Dig c → c ≠ 44 → c ∉ jn (p.idle.map numT) p.idle.length := fun c hc h => jn_free h numT p.idle fun x _ => dec_free hc _
  have f2 : ∀ c : UInt8, ¬ Dig c → c ≠ 44 → c ≠ 58 → c ∉ jn (p.held.map hoT) p.held.length := fun c hc h h' => jn_free h hoT p.held fun x _ => hoT_free hc h' x
  have f3 : ∀ c : UInt8, ¬ Dig c → c ≠ 44 → c ∉ jn (p.wait.map numT) p.wait.length := fun c hc h => jn_free h numT p.wait fun x _ => dec_free hc _
  have hI := numL_back h2
  have hH := holL_back h3
  have hW := numL_back h4
  have e1 : spl 32 (poT p) = [dec p.mx.toNat, jn (p.idle.map numT) p.idle.length ++ 124 :: (jn (p.held.map hoT) p.held.length ++ 124 :: jn (p.wait.map numT) p.wait.length)] := by
    have : poT p = dec p.mx.toNat ++ 32 :: (jn (p.idle.map numT) p.idle.length ++ 124 :: (jn (p.held.map hoT) p.held.length ++ 124 :: jn (p.wait.map numT) p.wait.length)) := by
      unfold poT; simp
    rw [this, spl_cons (dec_free space_no _), spl_one]
    intro e
    rw [List.mem_append, List.mem_cons, List.mem_append, List.mem_cons] at e
    rcases e with e | e | e | e | e
    · exact f1 32 space_no (by decide) e
    · exact absurd e (by decide)
    · exact f2 32 space_no (by decide) (by decide) e
    · exact absurd e (by decide)
    · exact f3 32 space_no (by decide) e
  have e2 := spl_cons (f1 124 bar_no (by decide)) (jn (p.held.map hoT) p.held.length ++ 124 :: jn (p.wait.map numT) p.wait.length)
  rw [spl_cons (f2 124 bar_no (by decide) (by decide)), spl_one (f3 124 bar_no (by decide))] at e2
  rw [raw_yes e1 e2, hI, hH, hW, num_dec (by omega)]
  rw [show ((p.mx.toNat : Nat) : Int) = p.mx by omega]
theorem prsB_poT {p : Pl} (h : Ok p) : prsB (poT p) = true := by rw [prsB_of (raw_poT (ok_numOk h))]; exact okB_iff.2 h
theorem prsP_poT {p : Pl} (h : Ok p) : prsP (poT p) = p := prsP_of (raw_poT (ok_numOk h)) (okB_iff.2 h)
theorem poT_prsP {s : List UInt8} (h : prsB s = true) : poT (prsP s) = s ∧ Ok (prsP s) := by
  obtain ⟨p, hp⟩ : ∃ p, rawP s = some p := by
    cases hr : rawP s with
    | none => rw [prsB_no hr] at h; cases h
    | some p => exact ⟨p, rfl⟩
  rw [prsB_of hp] at h
  rw [prsP_of hp h]
  have hok := okB_iff.1 h
  refine ⟨?_, hok⟩
  obtain ⟨⟨h0, h1⟩, h2, h3, h4⟩ := (ok_numOk hok)
  obtain ⟨a, b, x, y, z, e, e2, rfl⟩ := raw_inv hp
  have i1 := numL_fore (s := x) fun v hv => (h2 v hv).1
  have i2 := holL_fore (s := y) fun v hv => ⟨(h3 v hv).1.1, (h3 v hv).2.1⟩
  have i3 := numL_fore (s := z) fun v hv => (h4 v hv).1
  unfold poT
  rw [show (⟨num a, numL x, holL y, numL z⟩ : Pl).mx = num a from rfl, show (⟨num a, numL x, holL y, numL z⟩ : Pl).idle = numL x from rfl, show (⟨num a, numL x, holL y, numL z⟩ : Pl).held = holL y from rfl, show (⟨num a, numL x, holL y, numL z⟩ : Pl).wait = numL z from rfl]
  rw [i1, i2, i3, dec_num h0]
  have g1 := glue_of_spl 32 s
  have g2 := glue_of_spl 124 b
  rw [e] at g1
  rw [e2] at g2
  rw [← g1, ← g2]
  simp [glue]
end Go.Proofs.Ytehdbllpiokbnaa.Txt

/-
  What the functions answer that write a number in decimal, the program's. Condition: the number is not negative.
-/
namespace Go.Proofs.Ytehdbllpiokbnaa
open Go.RowKit Txt

/-- A text as a value. -/
def tx (l : List UInt8) : Value := .string (ByteArray.mk l.toArray)
theorem digit_cut {n : Nat} (h : n < 10) : (ByteArray.mk #[48, 49, 50, 51, 52, 53, 54, 55, 56, 57]).extract n (n + 1) = ByteArray.mk (dec n).toArray := by
  rw [dec_lt h, show (#[48, 49, 50, 51, 52, 53, 54, 55, 56, 57] : Array UInt8) = ([48, 49, 50, 51, 52, 53, 54, 55, 56, 57] : List UInt8).toArray from rfl, ByteArray.extract_mk]
  congr 2
  match n, h with
  | 0, _ => rfl
  | 1, _ => rfl
  | 2, _ => rfl
  | 3, _ => rfl
  | 4, _ => rfl
  | 5, _ => rfl
  | 6, _ => rfl
  | 7, _ => rfl
  | 8, _ => rfl
  | 9, _ => rfl
set_option maxHeartbeats 1000000 in
theorem numberText_one (n : Nat) (w : World) (h : n < 10) :
    Calls Try.prog 38 #[.int .i64 (n : Int)] w fun e w' => e = .returned (tx (dec n)) ∧ w = w' := by
  have h9 : ¬ (n : Int) > 9 := by omega
  have h0 : (0 : Int) ≤ (n : Int) := by omega
  have h1 : (n : Int) ≤ (n : Int) + 1 := by omega
  have h2 : (n : Int) + 1 ≤ 10 := by omega
  have hw : IntKind.i64.wrap ((n : Int) + 1) = (n : Int) + 1 := by rw [IntKind.wrap_i64]; omega
  have ht : ((n : Int) + 1).toNat = n + 1 := by omega
  have HD := hid (digit_cut h)
  clear h
  go_enter Try.func38, Try.ntmps38
  go_wp2
  go_ret
  exact ⟨by unfold tx; rw [← HD.out]; rfl, rfl⟩
set_option maxHeartbeats 1000000 in
theorem numberText_any : ∀ (n : Nat) (w : World), n ≤ 1000000000 →
    Calls Try.prog 38 #[.int .i64 (n : Int)] w fun e w' => e = .returned (tx (dec n)) ∧ w = w' := by
  intro n
  induction n using Nat.strongRecOn with
  | ind n ih =>
  intro w hn
  by_cases hlt : n < 10
  · exact numberText_one n w hlt
  · have h9 : (n : Int) > 9 := by omega
    have hq : (n : Int).tdiv 10 = ((n / 10 : Nat) : Int) := by rw [Int.tdiv_eq_ediv_of_nonneg (by omega)]; omega
    have hr : (n : Int).tmod 10 = ((n % 10 : Nat) : Int) := by rw [Int.tmod_eq_emod_of_nonneg (by omega)]; omega
    have HD := hid (dec_ge hlt)
    have c1 := ih (n / 10) (by omega)
    have l1 := dec_len 9 (n / 10) (by omega)
    have l2 := dec_len 0 (n % 10) (by omega)
    have hq9 : n / 10 ≤ 1000000000 := by omega
    have hr9 : n % 10 < 10 := by omega
    obtain ⟨D1, hD1⟩ : ∃ D, D = dec (n / 10) := ⟨_, rfl⟩
    obtain ⟨D2, hD2⟩ : ∃ D, D = dec (n % 10) := ⟨_, rfl⟩
    have H1 := hid hD1
    have H2 := hid hD2
    rw [← hD1] at l1
    rw [← hD2] at l2
    have HDD := hid (show dec n = D1 ++ D2 by rw [HD.out, ← hD1, ← hD2])
    clear HD
    clear hD1 hD2
    have C1 := hid c1
    clear c1 ih hlt
    obtain ⟨m1, hm1⟩ : ∃ m, m = n / 10 := ⟨_, rfl⟩
    obtain ⟨m2, hm2⟩ : ∃ m, m = n % 10 := ⟨_, rfl⟩
    rw [← hm1] at hq H1 C1 hq9
    rw [← hm2] at hr H2 hr9
    have hs : ¬ D1.length + D2.length > 9223372036854775807 := by omega
    clear hm1 hm2
    go_enter Try.func38, Try.ntmps38
    go_wp2_with fail
    refine (C1.out w hq9).mono ?_
    rintro e w' ⟨he, rfl⟩
    rw [← H1.out] at he
    subst he
    go_wp2_with fail
    refine (numberText_one m2 w hr9).mono ?_
    rintro e w' ⟨he, rfl⟩
    rw [← H2.out] at he
    subst he
    unfold tx
    go_wp2
    go_ret
    exact ⟨by rw [HDD.out, ByteArray.mk_append_mk]; rfl, rfl⟩

end Go.Proofs.Ytehdbllpiokbnaa

/-
  What the model's decimal answers. Condition: the number is not negative.
-/
namespace Go.Proofs.Ytehdbllpiokbnaa
open Go.RowKit Txt

/-- A list of one byte turned into a text. -/
theorem byte_text (w : World) (b : Nat) (x : UInt8) (v : Int) (hv : v = (x.toNat : Int)) (h : w.cell? ⟨b, 0, none⟩ = some (.int .u8 v)) :
    (convert 100 9 (.slice (some ⟨b, 0, none⟩) 1 1)).run Try.prog w = .ok (tx [x]) w := by
  subst hv
  exact run_convert_bytes_back (P := Try.prog) w 100 9 5 ⟨b, 0, none⟩ 1 [x] Try.underlying100 Try.underlying5 Try.underlying9 (fun j hj => by
    have : j = 0 := by simpa using hj
    subst this
    simpa [Addr.add] using h)
theorem digit_val {n : Nat} (h : n < 10) : (UInt8.ofNat (48 + n)).toNat = 48 + n := by
  rw [UInt8.toNat_ofNat']
  exact Nat.mod_eq_of_lt (by omega)
set_option maxHeartbeats 1000000 in
theorem decimal_one (n : Nat) (w : World) (h : n < 10) :
    Calls Try.prog 56 #[.int .i64 (n : Int)] w fun e w' => e = .returned (tx (dec n)) ∧ Below w.heap.size w w' := by
  have h9 : (n : Int) < 10 := by omega
  have hw : IntKind.i64.wrap (48 + (n : Int)) = 48 + (n : Int) := by rw [IntKind.wrap_i64]; omega
  have hu : IntKind.u8.wrap (48 + (n : Int)) = 48 + (n : Int) := by simp [IntKind.wrap, IntKind.bits, IntKind.signed]; omega
  have px := At.new w 5 #[.int .u8 (48 + (n : Int))]
  have hx0 := digit_val h
  have hd := dec_lt h
  obtain ⟨X, hX⟩ : ∃ X, X = UInt8.ofNat (48 + n) := ⟨_, rfl⟩
  rw [← hX] at hx0 hd
  have hcv := byte_text _ w.heap.size X (48 + (n : Int)) (by rw [hx0]; omega) (px.cell 0)
  have HD := hid hd
  clear h px hX hx0 hd
  go_enter Try.func56, Try.ntmps56
  go_wp2
  go_ret
  exact ⟨by rw [HD.out]; rfl, (Below.refl _ _).alloc (Nat.le_refl _) _⟩
set_option maxHeartbeats 4000000 in
theorem decimal_any : ∀ (n : Nat) (w : World), n ≤ 1000000000 →
    Calls Try.prog 56 #[.int .i64 (n : Int)] w fun e w' => e = .returned (tx (dec n)) ∧ Below w.heap.size w w' := by
  intro n
  induction n using Nat.strongRecOn with
  | ind n ih =>
  intro w hn
  by_cases hlt : n < 10
  · exact decimal_one n w hlt
  · have h9 : ¬ (n : Int) < 10 := by omega
    have hq : (n : Int).tdiv 10 = ((n / 10 : Nat) : Int) := by rw [Int.tdiv_eq_ediv_of_nonneg (by omega)]; omega
    have hr : (n : Int).tmod 10 = ((n % 10 : Nat) : Int) := by rw [Int.tmod_eq_emod_of_nonneg (by omega)]; omega
    have c1 := ih (n / 10) (by omega)
    have l1 := dec_len 9 (n / 10) (by omega)
    have hq9 : n / 10 ≤ 1000000000 := by omega
    have hr9 : n % 10 < 10 := by omega
    have hx0 := digit_val hr9
    obtain ⟨X, hX⟩ : ∃ X, X = UInt8.ofNat (48 + n % 10) := ⟨_, rfl⟩
    obtain ⟨D1, hD1⟩ : ∃ D, D = dec (n / 10) := ⟨_, rfl⟩
    have HDD := hid (show dec n = D1 ++ [X] by rw [dec_ge hlt, hD1, hX, dec_lt hr9])
    rw [← hX] at hx0
    have H1 := hid hD1
    rw [← hD1] at l1
    have C1 := hid c1
    clear c1 ih hlt hX hD1
    obtain ⟨m1, hm1⟩ : ∃ m, m = n / 10 := ⟨_, rfl⟩
    obtain ⟨m2, hm2⟩ : ∃ m, m = n % 10 := ⟨_, rfl⟩
    rw [← hm1] at hq H1 C1 hq9
    rw [← hm2] at hr hr9 hx0
    have hw : IntKind.i64.wrap (48 + (m2 : Int)) = 48 + (m2 : Int) := by rw [IntKind.wrap_i64]; omega
    have hu : IntKind.u8.wrap (48 + (m2 : Int)) = 48 + (m2 : Int) := by simp [IntKind.wrap, IntKind.bits, IntKind.signed]; omega
    have hcv := fun (w' : World) (b : Nat) (h : w'.cell? ⟨b, 0, none⟩ = some (.int .u8 (48 + (m2 : Int)))) => byte_text w' b X (48 + (m2 : Int)) (by rw [hx0]; omega) h
    obtain ⟨XS, hXS⟩ : ∃ XS, XS = [X] := ⟨_, rfl⟩
    have hxl : XS.length ≤ 1 := by rw [hXS]; simp
    rw [← hXS] at HDD
    simp only [← hXS] at hcv
    have hs : ¬ D1.length + XS.length > 9223372036854775807 := by omega
    clear hXS
    have hbd : Below w.heap.size w w.drew := (Below.refl _ _).drew
    clear hm1 hm2 hx0 hr9
    have hwm : IntKind.i64.wrap (m1 : Int) = (m1 : Int) := by rw [IntKind.wrap_i64]; omega
    unfold tx at hcv
    have HCV := hid hcv
    clear hcv
    have px := At.new w 5 #[.int .u8 (48 + (m2 : Int))]
    have pd := px.drew
    have hcA := HCV.out _ _ (pd.cell 0)
    have pd2 : At (w.drew.alloc (.cells #[.int .u8 (48 + (m2 : Int))] 5)) w.heap.size 5 #[.int .u8 (48 + (m2 : Int))] := At.newAt _ _ rfl
    have hcA2 := HCV.out _ _ (pd2.cell 0)
    have hcA3 := HCV.out _ _ (px.cell 0)
    go_enter Try.func56, Try.ntmps56
    go_wp2_with fail
    go_region_with (first
        | (go_at_call 56; (with_reducible refine (C1.out w.drew hq9).mono ?_); rintro e w1 ⟨he, hb1⟩; rw [← H1.out] at he; subst he; unfold tx; have p1 := At.new w1 5 #[.int .u8 (48 + (m2 : Int))]; have hcC := HCV.out _ _ (p1.cell 0); have hbf := hbd.trans hb1)
        | (go_at_call 56; (with_reducible refine (C1.out (w.alloc (.cells #[.int .u8 (48 + (m2 : Int))] 5)).drew hq9).mono ?_); rintro e w1 ⟨he, hb1⟩; rw [← H1.out] at he; subst he; unfold tx; have p1 := pd.below hb1 pd.lt; have hcC := HCV.out _ _ (p1.cell 0); have hbf := (((Below.refl w.heap.size w).alloc (Nat.le_refl _) _).drew).trans (hb1.mono (by simp)))
        | fail)
    all_goals
      go_wp2
      go_ret
      exact ⟨by rw [HDD.out, ByteArray.mk_append_mk]; rfl, by first | exact hbf | exact hbf.alloc hbf.size _⟩

end Go.Proofs.Ytehdbllpiokbnaa

/-
  What the program's joinTexts answers. Condition: the texts lie in memory.
-/
namespace Go.Proofs.Ytehdbllpiokbnaa
open Go.RowKit Txt

theorem tx_app (a b : List UInt8) : (ByteArray.mk a.toArray ++ ByteArray.mk b.toArray) = ByteArray.mk (a ++ b).toArray := ByteArray.mk_append_mk a b
/-- Texts in memory. -/
def tcell (x : List UInt8) : List Value := [tx x]
theorem tcell_ln : ∀ x, (tcell x).length = 1 := fun _ => rfl
theorem strInfo : (Try.prog.info? 9).map (fun i => (i.zero, i.size, i.bytes)) = some (some (.string ⟨#[]⟩), 1, 16) := by kernel_rfl
set_option maxHeartbeats 2000000 in
theorem joinTexts_any (A : Option Addr) (c m : Nat) (ls : List (List UInt8)) (w : World) (h : Sees w w.heap.size A (strip tcell ls)) (hn : ls.length ≤ 4194304) (hm : ∀ l ∈ ls, l.length ≤ m) (hm2 : m ≤ 1000) :
    Calls Try.prog 59 #[.slice A ls.length c] w fun e w' => e = .returned (tx (jn ls ls.length)) ∧ Below w.heap.size w w' := by
  have HN := hid hn
  have HL := hid (fun k => jn_len hm k)
  have HM := hid hm
  clear hn hm
  go_enter Try.func59, Try.ntmps59
  go_wp2
  go_loopw [3, 8] (fun v i wr => ∃ (k : Nat) (T : List UInt8), k ≤ ls.length ∧ i = .int .i64 k ∧ v = .string (ByteArray.mk T.toArray) ∧ Hid (jn ls k = T) ∧ Below w.heap.size w wr) (fun _ i _ => ls.length - (intOf i).toNat)
  case atStart => exact ⟨0, [], Nat.zero_le _, rfl, rfl, hid rfl, Below.refl _ _⟩
  case round =>
    obtain ⟨k, T, hk, rfl, rfl, HT, hb⟩ := hrel
    have hn := HN.out
    by_cases hlt : k < ls.length
    · have hi : (k : Int) < (ls.length : Int) := by omega
      obtain ⟨b, o, rfl, hbl, e0⟩ := Sees.elem (f := tcell) (s := 1) tcell_ln (by decide) (h.below hb) hlt
      have e0 := e0 0 (tx ls[k]) rfl
      rw [Nat.mul_one, Nat.add_zero] at e0
      have hz := hb.size
      have hxl := HM.out _ (List.getElem_mem hlt)
      have hT := HL.out k
      rw [HT.out] at hT
      have HG := hid (show ls.getD k [] = ls[k] by simp [List.getD_eq_getElem?_getD, hlt])
      obtain ⟨X, hX⟩ : ∃ X, X = ls[k] := ⟨_, rfl⟩
      rw [← hX] at e0 hxl HG
      unfold tx at e0
      have hTl : T.length ≤ 4198604304 := Nat.le_trans hT (Nat.le_trans (Nat.mul_le_mul (show m + 1 ≤ 1001 by omega) hk) (by omega))
      clear hX hT
      by_cases hk0 : k = 0
      · have HS := hid (show jn ls (k + 1) = T ++ X by rw [← HT.out, hk0, jn_one, jn_zero, List.nil_append, ← HG.out, hk0])
        have hkg : ¬ (k : Int) > 0 := by omega
        have hs : ¬ T.length + X.length > 9223372036854775807 := by omega
        clear hk0
        go_wp2
        go_roundw
        case rel => exact ⟨k + 1, T ++ X, by omega, by go_num, by rw [ByteArray.mk_append_mk], HS, hb⟩
        case measure => simp [intOf]; omega
      · have HS := hid (show jn ls (k + 1) = T ++ [44] ++ X by rw [jn_succ ls hk0, HT.out, HG.out])
        have hkg : (k : Int) > 0 := by omega
        have hs : ¬ T.length + 1 > 9223372036854775807 := by omega
        have hs2 : ¬ T.length + 1 + X.length > 9223372036854775807 := by omega
        clear hk0
        go_wp2
        go_roundw
        case rel => exact ⟨k + 1, T ++ [44] ++ X, by omega, by go_num, by rw [← ByteArray.mk_append_mk, ← ByteArray.mk_append_mk], HS, hb⟩
        case measure => simp [intOf]; omega
    · have hi : ¬ (k : Int) < (ls.length : Int) := by omega
      have hke : k = ls.length := by omega
      subst hke
      go_wp2
      go_ret
      exact ⟨by rw [HT.out]; rfl, hb⟩
end Go.Proofs.Ytehdbllpiokbnaa

/-
  What the functions answer that write connections and their holders, the program's and the model's. Condition: the list lies in memory, its numbers are from 0 to 9999.
-/
namespace Go.Proofs.Ytehdbllpiokbnaa
open Go.RowKit Txt Pol

def holT (x : Ho) : List UInt8 := dec x.c.toNat ++ [58] ++ dec x.o.toNat
def holTs (l : List Ho) : List (List UInt8) := l.map holT
def hols (l : List Ho) : List UInt8 := jn (holTs l) l.length
theorem holTs_at {l : List Ho} {k : Nat} (h : k < l.length) : (holTs l).getD k [] = holT l[k] := by unfold holTs; simp [List.getD_eq_getElem?_getD, h]
def HoOk (x : Ho) : Prop := (0 ≤ x.c ∧ x.c ≤ 9999) ∧ 0 ≤ x.o ∧ x.o ≤ 9999
theorem holT_len {x : Ho} (h : HoOk x) : ∃ a b : Nat, x.c = a ∧ x.o = b ∧ a ≤ 9999 ∧ b ≤ 9999 ∧ (dec a).length ≤ 4 ∧ (dec b).length ≤ 4 ∧ holT x = dec a ++ [58] ++ dec b := by
  obtain ⟨⟨h1, h2⟩, h3, h4⟩ := h
  exact ⟨x.c.toNat, x.o.toNat, by omega, by omega, by omega, by omega, dec_len 3 _ (by omega), dec_len 3 _ (by omega), rfl⟩
theorem holTs_len {l : List Ho} (h : ∀ x ∈ l, HoOk x) : ∀ t ∈ holTs l, t.length ≤ 9 := fun t ht => by
  obtain ⟨x, hx, rfl⟩ := List.mem_map.1 ht
  obtain ⟨a, b, _, _, _, _, h1, h2, e⟩ := holT_len (h x hx)
  rw [e, List.length_append, List.length_append, List.length_singleton]; omega
theorem Sees.hol {w : World} {B : Nat} {A : Option Addr} {l : List Ho} (h : Sees w B A (strip hcells l)) {k : Nat} (hk : k < l.length) : ∃ b o, A = some ⟨b, o, none⟩ ∧ b < B ∧ w.cell? ⟨b, o + k * 2, none⟩ = some (.int .i64 l[k].c) ∧ w.cell? ⟨b, o + k * 2 + 1, none⟩ = some (.int .i64 l[k].o) := by
  obtain ⟨b, o, e, hb, hc⟩ := Sees.elem hcells_len (by decide) h hk
  exact ⟨b, o, e, hb, by simpa [Nat.add_assoc] using hc 0 _ rfl, by simpa [Nat.add_assoc] using hc 1 _ rfl⟩
set_option maxHeartbeats 4000000 in
set_option maxRecDepth 16384 in
theorem iholdsText_any (A : Option Addr) (c : Nat) (l : List Ho) (w : World) (h : Sees w w.heap.size A (strip hcells l)) (hn : l.length ≤ 4194304) (hx : ∀ x ∈ l, HoOk x) :
    Calls Try.prog 40 #[.slice A l.length c] w fun e w' => e = .returned (tx (hols l)) ∧ Below w.heap.size w w' := by
  obtain ⟨i0, hi0, hz0, hz1, hz2⟩ := info_parts strInfo
  have HN := hid hn
  have HTL := hid (holTs_len hx)
  have HOKS := hid hx
  have HLN : Hid ((holTs l).length = l.length) := hid (by unfold holTs; simp)
  clear hn hx
  go_enter Try.func40, Try.ntmps40
  go_wp2
  go_loopw [3, 8] (fun v i wr => ∃ k : Nat, k ≤ l.length ∧ i = .int .i64 k ∧ OwnS 9 1 tcell wr w.heap.size v ((holTs l).take k) ∧ Below w.heap.size w wr) (fun _ i _ => l.length - (intOf i).toNat)
  case atStart => exact ⟨0, Nat.zero_le _, rfl, OwnS.none_ _ _, Below.refl _ _⟩
  case round =>
    obtain ⟨k, hk, rfl, ho, hb⟩ := hrel
    have hn := HN.out
    by_cases hlt : k < l.length
    · have hi : (k : Int) < (l.length : Int) := by omega
      obtain ⟨b, o, rfl, hbl, e0, e1⟩ := (h.below hb).hol hlt
      have HT : Hid ((holTs l).take (k + 1) = (holTs l).take k ++ [holT l[k]]) := hid (by
        rw [List.take_succ_eq_append_getElem (by rw [HLN.out]; exact hlt)]
        rw [show (holTs l)[k]'(by rw [HLN.out]; exact hlt) = holT l[k] by unfold holTs; rw [List.getElem_map]])
      have HKL : Hid (((holTs l).take k).length = k) := hid (by rw [List.length_take, HLN.out]; omega)
      have hok := HOKS.out _ (List.getElem_mem hlt)
      obtain ⟨x, hx⟩ : ∃ x, x = l[k] := ⟨_, rfl⟩
      rw [← hx] at e0 e1 HT hok
      obtain ⟨a, d, ea, ed, ha, hd, la, ld, es⟩ := holT_len hok
      rw [ea] at e0
      rw [ed] at e1
      rw [es] at HT
      clear hx hok es ea ed
      obtain ⟨D1, hD1⟩ : ∃ D, D = dec a := ⟨_, rfl⟩
      obtain ⟨D2, hD2⟩ : ∃ D, D = dec d := ⟨_, rfl⟩
      have H1 := hid hD1
      have H2 := hid hD2
      rw [← hD1] at la HT
      rw [← hD2] at ld HT
      clear hD1 hD2
      have hs1 : ¬ D1.length + 1 > 9223372036854775807 := by omega
      have hs2 : ¬ D1.length + 1 + D2.length > 9223372036854775807 := by omega
      have hs3 : ¬ 9223372036854775807 ≤ D1.length := by omega
      have hs4 : D1.length + 1 ≤ 9223372036854775807 := by omega
      have hs5 : D1.length + 1 + D2.length ≤ 9223372036854775807 := by omega
      have hz := hb.size
      have px := At.new wr 91 #[.int .i64 (a : Int), .int .i64 (d : Int)]
      have hba := hb.alloc hz (.cells #[.int .i64 (a : Int), .int .i64 (d : Int)] 91)
      have hoo := OwnS.below ho ((Below.refl _ _).alloc (Nat.le_refl _) (.cells #[.int .i64 (a : Int), .int .i64 (d : Int)] 91))
      obtain ⟨p0, p1⟩ := (⟨px.cell 0, px.cell 1⟩ : _ ∧ _)
      have pl := px.lt
      have ha9 : a ≤ 1000000000 := by omega
      have hd9 : d ≤ 1000000000 := by omega
      clear ho hb la ld
      go_wp2_with fail
      obtain ⟨W, hW⟩ : ∃ W, W = wr.alloc (.cells #[.int .i64 (a : Int), .int .i64 (d : Int)] 91) := ⟨_, rfl⟩
      rw [← hW] at hba hoo px p0 p1 pl ⊢
      clear hW
      have hzW := hba.size
      have hown : OwnS 9 1 tcell W.drew w.heap.size _ ((holTs l).take k) := OwnS.below hoo (Below.refl _ _).drew
      unfold OwnS at hown
      rw [HKL.out] at hown
      have pxd := px.drew
      go_region_held_law (fun w' => w'.cell? ⟨wr.heap.size, 0, none⟩ = some (.int .i64 (a : Int)) ∧ w'.cell? ⟨wr.heap.size, 1, none⟩ = some (.int .i64 (d : Int)))
        (first | with_reducible exact ⟨p0, p1⟩ | with_reducible exact ⟨q0, q1⟩ | go_keep)
        (first
          | (go_at_call 38; (with_reducible refine (numberText_any a _ ha9).mono ?_); rintro e w' ⟨he, rfl⟩; rw [← H1.out] at he; subst he; unfold tx)
          | (go_at_call 38; (with_reducible refine (numberText_any d _ hd9).mono ?_); rintro e w' ⟨he, rfl⟩; rw [← H2.out] at he; subst he; unfold tx)
          | (refine step_append_own _ (by rfl) _ _ 48 (by rfl) w.heap.size 9 i0 (.string ⟨#[]⟩) 1 16 Try.underlying48 hi0 hz0 hz1 hz2 rfl (by decide) _ k (strip tcell ((holTs l).take k)) (by rfl) (own_alloc hown _) ⟨W.heap.size, 0, none⟩ 1 1 [.string (ByteArray.mk D1.toArray ++ ByteArray.mk #[58] ++ ByteArray.mk D2.toArray)] (by rfl) (by rfl) (by exact cells_new W.drew _ _) (fun u hu => by rw [List.mem_singleton.1 hu]; rfl) (by unfold maxLen; omega) (by omega) (by simp; omega) ?_; intro v2 w4 h2 hg2; have hbx : Below w.heap.size W w4 := ((Below.refl _ _).drew.alloc (by simpa using hzW) _).grown hg2 (by simp; omega) (fun q hq => (hown.lt q hq).1); have pq := (pxd.alloc _).beside (own_alloc hown _) (by decide) hg2; have q0 := pq.cell 0; have q1 := pq.cell 1)
          | fail)
      all_goals
        have ho2 : OwnS 9 1 tcell w4 w.heap.size v2 ((holTs l).take (k + 1)) := by
          rw [HT.out]
          unfold OwnS
          rw [List.length_append, HKL.out, strip_snoc]
          have e : tcell (D1 ++ [58] ++ D2) = [.string (ByteArray.mk D1.toArray ++ ByteArray.mk #[58] ++ ByteArray.mk D2.toArray)] := by
            unfold tcell tx
            rw [show (ByteArray.mk #[58]) = ByteArray.mk ([58] : List UInt8).toArray from rfl, tx_app, tx_app]
          rw [e]
          exact h2
        have hb2 : Below w.heap.size w w4 := hba.trans hbx
        clear h2 hg2 hbx pq q0 q1 p0 p1 px pxd hown
        go_wp2
        go_roundw
        case rel => exact ⟨k + 1, by omega, by go_num, ho2, hb2⟩
        case measure => simp [intOf]; omega
    · have hi : ¬ (k : Int) < (l.length : Int) := by omega
      have hke : k = l.length := by omega
      subst hke
      have HTK := hid (show (holTs l).take l.length = holTs l from List.take_of_length_le (by rw [HLN.out]; exact Nat.le_refl _))
      rw [HTK.out] at ho
      obtain ⟨A3, c3, rfl, _, _, hs3⟩ := OwnS.form ho
      have hl4 : (holTs l).length ≤ 4194304 := by rw [HLN.out]; exact hn
      have HTLo := HTL.out
      have E := hid (show hols l = jn (holTs l) (holTs l).length by unfold hols; rw [HLN.out])
      rw [show l.length = (holTs l).length from HLN.out.symm]
      obtain ⟨Q, hQ⟩ : ∃ Q, Q = holTs l := ⟨_, rfl⟩
      rw [← hQ] at hs3 hl4 E HTLo ⊢
      clear hQ ho HTK HLN HTL
      go_wp2_with fail
      with_reducible refine (joinTexts_any A3 c3 9 Q _ hs3 hl4 HTLo (by decide)).mono ?_
      rintro e w5 ⟨rfl, hb5⟩
      unfold tx
      go_wp2
      go_ret
      exact ⟨by rw [E.out]; rfl, hb.trans (hb5.mono hb.size)⟩

set_option maxHeartbeats 4000000 in
set_option maxRecDepth 16384 in
theorem sholdsText_any (A : Option Addr) (c : Nat) (l : List Ho) (w : World) (h : Sees w w.heap.size A (strip hcells l)) (hn : l.length ≤ 4194304) (hx : ∀ x ∈ l, HoOk x) :
    Calls Try.prog 69 #[.slice A l.length c] w fun e w' => e = .returned (tx (hols l)) ∧ Below w.heap.size w w' := by
  have HN := hid hn
  have HTL := hid (fun k => jn_len (holTs_len hx) k)
  have HOKS := hid hx
  clear hn hx
  go_enter Try.func69, Try.ntmps69
  go_wp2
  go_loopw [3, 4] (fun v i wr => ∃ (k : Nat) (T : List UInt8), k ≤ l.length ∧ i = .int .i64 k ∧ v = .string (ByteArray.mk T.toArray) ∧ Hid (jn (holTs l) k = T) ∧ Below w.heap.size w wr) (fun _ i _ => l.length - (intOf i).toNat)
  case atStart => exact ⟨0, [], Nat.zero_le _, rfl, rfl, hid rfl, Below.refl _ _⟩
  case round =>
    obtain ⟨k, T, hk, rfl, rfl, HT, hb⟩ := hrel
    have hn := HN.out
    by_cases hlt : k < l.length
    · have hi : (k : Int) < (l.length : Int) := by omega
      have hi0 : (0 : Int) ≤ (k : Int) := by omega
      obtain ⟨b, o, rfl, hbl, e0, e1⟩ := (h.below hb).hol hlt
      have HAT := hid (holTs_at hlt)
      have hok := HOKS.out _ (List.getElem_mem hlt)
      obtain ⟨x, hx⟩ : ∃ x, x = l[k] := ⟨_, rfl⟩
      rw [← hx] at e0 e1 HAT hok
      obtain ⟨a, d, ea, ed, ha, hd, la, ld, es⟩ := holT_len hok
      rw [ea] at e0
      rw [ed] at e1
      rw [es] at HAT
      clear hx hok es ea ed
      obtain ⟨D1, hD1⟩ : ∃ D, D = dec a := ⟨_, rfl⟩
      obtain ⟨D2, hD2⟩ : ∃ D, D = dec d := ⟨_, rfl⟩
      have H1 := hid hD1
      have H2 := hid hD2
      rw [← hD1] at la HAT
      rw [← hD2] at ld HAT
      clear hD1 hD2
      have hT := HTL.out k
      rw [HT.out] at hT
      have ha9 : a ≤ 1000000000 := by omega
      have hd9 : d ≤ 1000000000 := by omega
      have hz := hb.size
      have hbd : Below w.heap.size w wr.drew := hb.drew
      have hlt1 : b < wr.drew.heap.size := Nat.lt_of_lt_of_le hbl hbd.size
      have hTl : T.length ≤ 41943040 := by omega
      obtain ⟨U, hU, hUl, HS⟩ : ∃ U, U = (if k = 0 then T else T ++ [44]) ∧ U.length ≤ 41943041 ∧ Hid (jn (holTs l) (k + 1) = U ++ D1 ++ [58] ++ D2) := by
        refine ⟨_, rfl, ?_, hid ?_⟩
        · split
          · omega
          · simp; omega
        · by_cases hk0 : k = 0
          · subst hk0
            rw [if_pos rfl, jn_one, HAT.out, ← HT.out, jn_zero]
            simp
          · rw [if_neg hk0, jn_succ _ hk0, HT.out, HAT.out]
            simp
      have hs1 : ¬ U.length + D1.length > 9223372036854775807 := by omega
      have hs2 : ¬ U.length + D1.length + 1 > 9223372036854775807 := by omega
      have hs3 : ¬ U.length + D1.length + 1 + D2.length > 9223372036854775807 := by omega
      have hs0 : ¬ T.length + 1 > 9223372036854775807 := by omega
      have HK := hid (fun (q : Unit) => hk)
      rcases Nat.eq_zero_or_pos k with hk0 | hk0
      · have hkg : ¬ (k : Int) > 0 := by omega
        rw [if_pos hk0] at hU
        subst hU
        clear hk0 hTl hT hs0
        go_wp2_with fail
        go_region_held3 (fun w' => w'.cell? ⟨b, o + k * 2, none⟩ = some (.int .i64 (a : Int)) ∧ w'.cell? ⟨b, o + k * 2 + 1, none⟩ = some (.int .i64 (d : Int)))
          (first | with_reducible exact ⟨e0, e1⟩ | with_reducible exact ⟨p0, p1⟩ | with_reducible exact ⟨q0, q1⟩ | go_keep)
          (first
            | (go_at_call 56; (with_reducible refine (decimal_any a wr.drew ha9).mono ?_); rintro e w2 ⟨he, hb2⟩; rw [← H1.out] at he; subst he; have hbw2 := hbd.trans (hb2.mono hbd.size); have p0 := ((below_cell hb2).1 b (o + k * 2) hlt1).trans e0; have p1 := ((below_cell hb2).1 b (o + k * 2 + 1) hlt1).trans e1; have hlt2 := Nat.lt_of_lt_of_le hlt1 hb2.size; unfold tx)
            | (go_at_call 56; (with_reducible refine (decimal_any d w2 hd9).mono ?_); rintro e w3 ⟨he, hb3⟩; rw [← H2.out] at he; subst he; have hbw3 := hbw2.trans (hb3.mono hbw2.size); have q0 := ((below_cell hb3).1 b (o + k * 2) hlt2).trans p0; have q1 := ((below_cell hb3).1 b (o + k * 2 + 1) hlt2).trans p1; unfold tx)
            | fail)
        all_goals
          clear p0 p1 q0 q1 e0 e1
          go_wp2
          go_roundw
          case rel => exact ⟨k + 1, U ++ D1 ++ [58] ++ D2, by omega, by go_num, by rw [← tx_app, ← tx_app, ← tx_app], HS, hbw3⟩
          case measure => simp [intOf]; omega
      · have hkg : (k : Int) > 0 := by omega
        rw [if_neg (by omega)] at hU
        clear hk0 hTl hT
        go_wp2_with fail
        rw [show (ByteArray.mk #[44]) = ByteArray.mk ([44] : List UInt8).toArray from rfl]
        simp only [tx_app, ← hU]
        have HU := hid hU
        clear hU
        go_region_held3 (fun w' => w'.cell? ⟨b, o + k * 2, none⟩ = some (.int .i64 (a : Int)) ∧ w'.cell? ⟨b, o + k * 2 + 1, none⟩ = some (.int .i64 (d : Int)))
          (first | with_reducible exact ⟨e0, e1⟩ | with_reducible exact ⟨p0, p1⟩ | with_reducible exact ⟨q0, q1⟩ | go_keep)
          (first
            | (go_at_call 56; (with_reducible refine (decimal_any a wr.drew ha9).mono ?_); rintro e w2 ⟨he, hb2⟩; rw [← H1.out] at he; subst he; have hbw2 := hbd.trans (hb2.mono hbd.size); have p0 := ((below_cell hb2).1 b (o + k * 2) hlt1).trans e0; have p1 := ((below_cell hb2).1 b (o + k * 2 + 1) hlt1).trans e1; have hlt2 := Nat.lt_of_lt_of_le hlt1 hb2.size; unfold tx)
            | (go_at_call 56; (with_reducible refine (decimal_any d w2 hd9).mono ?_); rintro e w3 ⟨he, hb3⟩; rw [← H2.out] at he; subst he; have hbw3 := hbw2.trans (hb3.mono hbw2.size); have q0 := ((below_cell hb3).1 b (o + k * 2) hlt2).trans p0; have q1 := ((below_cell hb3).1 b (o + k * 2 + 1) hlt2).trans p1; unfold tx)
            | fail)
        all_goals
          clear p0 p1 q0 q1 e0 e1
          go_wp2
          go_roundw
          case rel => exact ⟨k + 1, U ++ D1 ++ [58] ++ D2, by omega, by go_num, by rw [← tx_app, ← tx_app, ← tx_app], HS, hbw3⟩
          case measure => simp [intOf]; omega
    · have hi : ¬ (k : Int) < (l.length : Int) := by omega
      have hke : k = l.length := by omega
      subst hke
      have E := hid (show hols l = T from HT.out)
      go_wp2
      go_ret
      exact ⟨by rw [E.out]; rfl, hb⟩

end Go.Proofs.Ytehdbllpiokbnaa

/-
  What the functions answer that write lists of numbers, the program's and the model's. Condition: the list lies in memory, its numbers are from 0 to 9999.
-/
namespace Go.Proofs.Ytehdbllpiokbnaa
open Go.RowKit Txt

def numTs (l : List Int) : List (List UInt8) := l.map fun x => dec x.toNat
def nums (l : List Int) : List UInt8 := jn (numTs l) l.length
theorem numTs_at {l : List Int} {k : Nat} (h : k < l.length) : (numTs l).getD k [] = dec l[k].toNat := by unfold numTs; simp [List.getD_eq_getElem?_getD, h]
theorem numTs_len {l : List Int} (h : ∀ x ∈ l, 0 ≤ x ∧ x ≤ 9999) : ∀ t ∈ numTs l, t.length ≤ 4 := fun t ht => by
  obtain ⟨x, hx, rfl⟩ := List.mem_map.1 ht
  exact dec_len 3 _ (by have := h x hx; omega)
set_option maxHeartbeats 4000000 in
theorem numbersText_any (A : Option Addr) (c : Nat) (l : List Int) (w : World) (h : Sees w w.heap.size A (ints l)) (hn : l.length ≤ 4194304) (hx : ∀ x ∈ l, 0 ≤ x ∧ x ≤ 9999) :
    Calls Try.prog 39 #[.slice A l.length c] w fun e w' => e = .returned (tx (nums l)) ∧ Below w.heap.size w w' := by
  obtain ⟨i0, hi0, hz0, hz1, hz2⟩ := info_parts strInfo
  have HN := hid hn
  have HX := hid hx
  have HTL := hid (numTs_len hx)
  have HLN : Hid ((numTs l).length = l.length) := hid (by unfold numTs; simp)
  clear hn hx
  go_enter Try.func39, Try.ntmps39
  go_wp2
  go_loopw [3, 8] (fun v i wr => ∃ k : Nat, k ≤ l.length ∧ i = .int .i64 k ∧ OwnS 9 1 tcell wr w.heap.size v ((numTs l).take k) ∧ Below w.heap.size w wr) (fun _ i _ => l.length - (intOf i).toNat)
  case atStart => exact ⟨0, Nat.zero_le _, rfl, OwnS.none_ _ _, Below.refl _ _⟩
  case round =>
    obtain ⟨k, hk, rfl, ho, hb⟩ := hrel
    have hn := HN.out
    by_cases hlt : k < l.length
    · have hi : (k : Int) < (l.length : Int) := by omega
      obtain ⟨b, o, rfl, hbl, e0⟩ := (h.below hb).int hlt
      have hr := HX.out _ (List.getElem_mem hlt)
      have HT : Hid ((numTs l).take (k + 1) = (numTs l).take k ++ [dec l[k].toNat]) := hid (by
        rw [List.take_succ_eq_append_getElem (by rw [HLN.out]; exact hlt)]
        rw [show (numTs l)[k]'(by rw [HLN.out]; exact hlt) = dec l[k].toNat by unfold numTs; rw [List.getElem_map]])
      have HKL : Hid (((numTs l).take k).length = k) := hid (by rw [List.length_take, HLN.out]; omega)
      obtain ⟨x, hx⟩ : ∃ x, x = l[k] := ⟨_, rfl⟩
      rw [← hx] at e0 HT hr
      obtain ⟨a, rfl⟩ : ∃ a : Nat, x = a := ⟨x.toNat, by omega⟩
      rw [Int.toNat_natCast] at HT
      have ha9 : a ≤ 1000000000 := by omega
      clear hx hr
      have hz := hb.size
      have hlow := ho.lt
      go_wp2_with fail
      with_reducible refine (numberText_any a _ ha9).mono ?_
      rintro e w' ⟨rfl, rfl⟩
      unfold OwnS at ho
      rw [HKL.out] at ho
      have HTX := hid (show tcell (dec a) = [.string (ByteArray.mk (dec a).toArray)] from rfl)
      unfold tx
      obtain ⟨D, hD⟩ : ∃ D, D = ByteArray.mk (dec a).toArray := ⟨_, rfl⟩
      rw [← hD] at HTX ⊢
      clear hD
      go_wp2_with (at_builtin; refine wpList_append_own _ rfl _ _ 48 rfl w.heap.size 9 i0 (.string ⟨#[]⟩) 1 16 Try.underlying48 hi0 hz0 hz1 hz2 rfl (by decide) _ _ _ rfl (own_alloc ho _) ⟨wr.heap.size, 0, none⟩ 1 1 [.string D] rfl rfl (cell_one_new _ _ _) ?c2 ?c3 ?c4 ?c5 ?_)
      case c2 => exact fun u hu => by rw [List.mem_singleton.1 hu]; rfl
      case c3 => unfold maxLen; omega
      case c4 => omega
      case c5 => simp; omega
      case _ =>
        intro v4 w4 h4 hg4 _
        have ho4 : OwnS 9 1 tcell w4 w.heap.size v4 ((numTs l).take (k + 1)) := by
          rw [HT.out]
          unfold OwnS
          rw [List.length_append, HKL.out, strip_snoc, HTX.out]
          exact h4
        have hb4 : Below w.heap.size (wr.alloc (.cells #[.string D] 9)) w4 := (Below.refl _ _).grown hg4 (by simp; omega) (fun q hq => (hlow q hq).1)
        have hb5 := (hb.alloc hz (.cells #[.string D] 9)).trans hb4
        clear h4 hg4 hb4 hb ho hlow
        go_wp2
        go_roundw
        case rel => exact ⟨k + 1, by omega, by go_num, ho4, hb5⟩
        case measure => simp [intOf]; omega
    · have hi : ¬ (k : Int) < (l.length : Int) := by omega
      have hke : k = l.length := by omega
      subst hke
      have HTK := hid (show (numTs l).take l.length = numTs l from List.take_of_length_le (by rw [HLN.out]; exact Nat.le_refl _))
      rw [HTK.out] at ho
      obtain ⟨A3, c3, rfl, _, _, hs3⟩ := OwnS.form ho
      have hl4 : (numTs l).length ≤ 4194304 := by rw [HLN.out]; exact hn
      have HTLo := HTL.out
      have E := hid (show nums l = jn (numTs l) (numTs l).length by unfold nums; rw [HLN.out])
      obtain ⟨Q, hQ⟩ : ∃ Q, Q = numTs l := ⟨_, rfl⟩
      rw [← hQ] at hs3 hl4 E HTLo ⊢
      clear hQ ho HTK HLN HTL
      go_wp2_with fail
      with_reducible refine (joinTexts_any A3 c3 4 Q _ hs3 hl4 HTLo (by decide)).mono ?_
      rintro e w5 ⟨rfl, hb5⟩
      unfold tx
      go_wp2
      go_ret
      exact ⟨by rw [E.out]; rfl, hb.trans (hb5.mono hb.size)⟩

end Go.Proofs.Ytehdbllpiokbnaa

/-
  What FormatPool answers, the program's. Condition: the pool's lists lie in memory.
-/
namespace Go.Proofs.Ytehdbllpiokbnaa
open Go.RowKit Txt Pol

def fmtP (p : Pl) : List UInt8 := if okB p = true then dec p.mx.toNat ++ [32] ++ nums p.idle ++ [124] ++ hols p.held ++ [124] ++ nums p.wait else []
theorem fmtP_yes {p : Pl} (h : okB p = true) : fmtP p = dec p.mx.toNat ++ [32] ++ nums p.idle ++ [124] ++ hols p.held ++ [124] ++ nums p.wait := if_pos h
theorem fmtP_no {p : Pl} (h : okB p = false) : fmtP p = [] := if_neg (by simp [h])
theorem ok_nums {p : Pl} (h : Ok p) : (∀ x ∈ p.idle, 0 ≤ x ∧ x ≤ 9999) ∧ (∀ x ∈ p.held, HoOk x) ∧ ∀ x ∈ p.wait, 0 ≤ x ∧ x ≤ 9999 := by
  obtain ⟨⟨h0, h1⟩, _, h3, h4, _, h6, _⟩ := h
  refine ⟨fun x hx => ?_, fun x hx => ?_, fun x hx => ?_⟩
  · have := h3 x (by unfold opens; simp [hx]); omega
  · have a := h3 x.c (by unfold opens; exact List.mem_append.2 (.inr (List.mem_map_of_mem hx)))
    have b := h4 x.o (List.mem_map_of_mem hx)
    exact ⟨⟨by omega, by omega⟩, by omega, by omega⟩
  · have := h6 x hx; omega
theorem nums_len {l : List Int} (h : ∀ x ∈ l, 0 ≤ x ∧ x ≤ 9999) : (nums l).length ≤ 5 * l.length := jn_len (numTs_len h) l.length
theorem hols_len {l : List Ho} (h : ∀ x ∈ l, HoOk x) : (hols l).length ≤ 10 * l.length := jn_len (holTs_len h) l.length
set_option maxHeartbeats 4000000 in
set_option maxRecDepth 16384 in
theorem iFormatPool_any (p : Pl) (A1 A2 A3 : Option Addr) (c1 c2 c3 : Nat) (w : World) (h : SeesP w w.heap.size A1 A2 A3 p) (h1 : p.idle.length ≤ 2097152) (h2 : p.held.length ≤ 2097152) (h3 : p.wait.length ≤ 2097152) :
    Calls Try.prog 11 #[.agg #[.int .i64 p.mx, .slice A1 p.idle.length c1, .slice A2 p.held.length c2, .slice A3 p.wait.length c3]] w fun e w' => e = .returned (tx (fmtP p)) ∧ Below w.heap.size w w' := by
  have px := At.new w 30 #[.int .i64 p.mx, .slice A1 p.idle.length c1, .slice A2 p.held.length c2, .slice A3 p.wait.length c3]
  have hb0 := (Below.refl w.heap.size w).alloc (Nat.le_refl _) (.cells #[.int .i64 p.mx, .slice A1 p.idle.length c1, .slice A2 p.held.length c2, .slice A3 p.wait.length c3] 30)
  have hs0 := h.on hb0
  obtain ⟨y0, y1, y2, y3⟩ := (⟨px.cell 0, px.cell 1, px.cell 2, px.cell 3⟩ : _ ∧ _ ∧ _ ∧ _)
  rcases hv : okB p with _ | _
  · have E := hid (fmtP_no hv)
    have HV := hid hv
    clear hv
    go_enter Try.func11, Try.ntmps11
    go_wp2_with fail
    with_reducible refine (iValidPool_any p A1 A2 A3 c1 c2 c3 _ hs0 h1 h2 (Nat.le_trans h3 (by decide))).mono ?_
    rintro e w1 ⟨he, hb1⟩
    rw [HV.out] at he
    subst he
    go_wp2
    go_ret
    exact ⟨by rw [E.out]; rfl, hb0.trans (hb1.mono hb0.size)⟩
  have hok := okB_iff.1 hv
  obtain ⟨k1, k2, k3⟩ := ok_nums hok
  obtain ⟨z1, z2, z3⟩ := hok.small
  have E := hid (fmtP_yes hv)
  have HV := hid hv
  have l1 := nums_len k1
  have l2 := hols_len k2
  have l3 := nums_len k3
  obtain ⟨m, hm⟩ : ∃ m : Nat, p.mx = m := ⟨p.mx.toNat, by have := hok.1; omega⟩
  have hm6 : m ≤ 6 := by have := hok.1; omega
  have hm9 : m ≤ 1000000000 := by omega
  have l0 := dec_len 0 m (by omega)
  have K1 := hid k1
  have K2 := hid k2
  have K3 := hid k3
  have e0 : p.mx.toNat = m := by omega
  rw [e0] at E
  obtain ⟨D0, hD0⟩ : ∃ D, D = dec m := ⟨_, rfl⟩
  obtain ⟨D1, hD1⟩ : ∃ D, D = nums p.idle := ⟨_, rfl⟩
  obtain ⟨D2, hD2⟩ : ∃ D, D = hols p.held := ⟨_, rfl⟩
  obtain ⟨D3, hD3⟩ : ∃ D, D = nums p.wait := ⟨_, rfl⟩
  rw [← hD0, ← hD1, ← hD2, ← hD3] at E
  rw [← hD0] at l0
  rw [← hD1] at l1
  rw [← hD2] at l2
  rw [← hD3] at l3
  have H0 := hid hD0
  have H1 := hid hD1
  have H2 := hid hD2
  have H3 := hid hD3
  have s1 : ¬ D0.length + 1 > 9223372036854775807 := by omega
  have s2 : ¬ D0.length + 1 + D1.length > 9223372036854775807 := by omega
  have s3 : ¬ D0.length + 1 + D1.length + 1 > 9223372036854775807 := by omega
  have s4 : ¬ D0.length + 1 + D1.length + 1 + D2.length > 9223372036854775807 := by omega
  have s5 : ¬ D0.length + 1 + D1.length + 1 + D2.length + 1 > 9223372036854775807 := by omega
  have s6 : ¬ D0.length + 1 + D1.length + 1 + D2.length + 1 + D3.length > 9223372036854775807 := by omega
  have HMX := hid hm
  clear hv hok k1 k2 k3 l0 l1 l2 l3 hD0 hD1 hD2 hD3 e0 hm6 hm
  have n1 : p.idle.length ≤ 4194304 := by omega
  have n2 : p.held.length ≤ 4194304 := by omega
  have n3 : p.wait.length ≤ 4194304 := by omega
  go_enter Try.func11, Try.ntmps11
  go_wp2_with fail
  with_reducible refine (iValidPool_any p A1 A2 A3 c1 c2 c3 _ hs0 h1 h2 (Nat.le_trans h3 (by decide))).mono ?_
  rintro e w1 ⟨he, hb1⟩
  rw [HV.out] at he
  subst he
  have px1 := px.below hb1 px.lt
  have hbd := (hb0.trans (hb1.mono hb0.size)).drew
  have hsd := (hs0.on hb1).drew
  have pxd := px1.drew
  clear hb0 hs0 px hb1 y0 y1 y2 y3 z1 z2 z3
  obtain ⟨y0, y1, y2, y3⟩ := (⟨px1.cell 0, px1.cell 1, px1.cell 2, px1.cell 3⟩ : _ ∧ _ ∧ _ ∧ _)
  rw [HMX.out] at y0
  go_wp2_with fail
  go_region_held3 (fun w' => w'.cell? ⟨w.heap.size, 0, none⟩ = some (.int .i64 (m : Int)) ∧ w'.cell? ⟨w.heap.size, 1, none⟩ = some (.slice A1 p.idle.length c1) ∧ w'.cell? ⟨w.heap.size, 2, none⟩ = some (.slice A2 p.held.length c2) ∧ w'.cell? ⟨w.heap.size, 3, none⟩ = some (.slice A3 p.wait.length c3))
    (first | with_reducible exact ⟨y0, y1, y2, y3⟩ | with_reducible exact ⟨a0, a1, a2, a3⟩ | with_reducible exact ⟨b0, b1, b2, b3⟩ | with_reducible exact ⟨q0, q1, q2, q3⟩ | go_keep)
    (first
      | (go_at_call 38; (with_reducible refine (numberText_any m _ hm9).mono ?_); rintro e w' ⟨he, rfl⟩; rw [← H0.out] at he; subst he; unfold tx)
      | (go_at_call 39; (with_reducible refine (numbersText_any A1 c1 p.idle w1.drew hsd.idle n1 K1.out).mono ?_); rintro e wa ⟨he, hba⟩; rw [← H1.out] at he; subst he; have pxa := pxd.below hba pxd.lt; have hsa := hsd.on hba; have hbwa := hbd.trans (hba.mono hbd.size); obtain ⟨a0, a1, a2, a3⟩ := (⟨pxa.cell 0, pxa.cell 1, pxa.cell 2, pxa.cell 3⟩ : _ ∧ _ ∧ _ ∧ _); rw [HMX.out] at a0; unfold tx)
      | (go_at_call 40; (with_reducible refine (iholdsText_any A2 c2 p.held wa hsa.held n2 K2.out).mono ?_); rintro e wb ⟨he, hbb⟩; rw [← H2.out] at he; subst he; have pxb := pxa.below hbb pxa.lt; have hsb := hsa.on hbb; have hbwb := hbwa.trans (hbb.mono hbwa.size); obtain ⟨b0, b1, b2, b3⟩ := (⟨pxb.cell 0, pxb.cell 1, pxb.cell 2, pxb.cell 3⟩ : _ ∧ _ ∧ _ ∧ _); rw [HMX.out] at b0; unfold tx)
      | (go_at_call 39; (with_reducible refine (numbersText_any A3 c3 p.wait wb hsb.wait n3 K3.out).mono ?_); rintro e wc ⟨he, hbc⟩; rw [← H3.out] at he; subst he; have pxc := pxb.below hbc pxb.lt; have hbwc := hbwb.trans (hbc.mono hbwb.size); obtain ⟨q0, q1, q2, q3⟩ := (⟨pxc.cell 0, pxc.cell 1, pxc.cell 2, pxc.cell 3⟩ : _ ∧ _ ∧ _ ∧ _); rw [HMX.out] at q0; unfold tx)
      | fail)
  all_goals
    clear y0 y1 y2 y3 a0 a1 a2 a3 b0 b1 b2 b3 q0 q1 q2 q3
    go_wp2
    go_ret
    exact ⟨by rw [E.out]; unfold tx; rw [← tx_app, ← tx_app, ← tx_app, ← tx_app, ← tx_app, ← tx_app]; rfl, hbwc⟩

end Go.Proofs.Ytehdbllpiokbnaa

/-
  What the program's functions answer that cut a text at a sign and that read a number. Condition: the text is at most 2^22 bytes long.
-/
namespace Go.Proofs.Ytehdbllpiokbnaa
open Go.RowKit Txt

def splB (S : List UInt8) (c : UInt8) (m : Nat) : Bool := decide (S = [] ∨ (spl c S).length ≤ m)
def splT (S : List UInt8) (c : UInt8) (m : Nat) : List (List UInt8) := if S = [] then [] else if (spl c S).length ≤ m then spl c S else []
theorem splT_nil (c : UInt8) (m : Nat) : splT [] c m = [] := if_pos rfl
theorem splB_nil (c : UInt8) (m : Nat) : splB [] c m = true := by simp [splB]
theorem splT_yes {S : List UInt8} {c : UInt8} {m : Nat} (h : S ≠ []) (hm : (spl c S).length ≤ m) : splT S c m = spl c S ∧ splB S c m = true := ⟨by rw [splT, if_neg h, if_pos hm], by simp [splB, hm]⟩
theorem splT_no {S : List UInt8} {c : UInt8} {m : Nat} (h : S ≠ []) (hm : ¬ (spl c S).length ≤ m) : splT S c m = [] ∧ splB S c m = false := ⟨by rw [splT, if_neg h, if_neg hm], by simp [splB, hm, h]⟩
/-- A byte of a text. -/
theorem byte_at {S : List UInt8} {k : Nat} (hk : k < S.length) : (ByteArray.mk S.toArray)[k]'(by simpa [ByteArray.size] using hk) = S[k] := rfl
set_option maxHeartbeats 4000000 in
set_option maxRecDepth 16384 in
theorem splitText_any (S : List UInt8) (c : UInt8) (cz : Int) (m : Nat) (w : World) (hcz : cz = (c.toNat : Int)) (hS : S.length ≤ 4194304) (hm : m ≤ 1000) :
    Calls Try.prog 47 #[tx S, .int .u8 cz, .int .i64 (m : Int)] w fun e w' => ∃ v, e = .returned (.tuple #[v, .bool (splB S c m)]) ∧ OwnS 9 1 tcell w' w.heap.size v (splT S c m) ∧ Below w.heap.size w w' := by
  obtain ⟨i0, hi0, hz0, hz1, hz2⟩ := info_parts strInfo
  by_cases h0 : S = []
  · subst h0
    have E := hid (splB_nil c m)
    have E2 := hid (splT_nil c m)
    unfold tx
    go_enter Try.func47, Try.ntmps47
    go_wp2
    go_ret2
    refine ⟨_, by rw [E.out]; rfl, ?_, Below.refl _ _⟩
    rw [E2.out]; exact OwnS.none_ _ _
  · have hS0 : (S == []) = false := by simpa using h0
    have HYES := hid (fun h => splT_yes (c := c) (m := m) h0 h)
    have HNO := hid (fun h => splT_no (c := c) (m := m) h0 h)
    have HL := hid (fun P cur l => splF_len c l P cur)
    have HSL := hid hS
    have HCZ := hid hcz
    clear h0 hS hcz
    unfold tx
    go_enter Try.func47, Try.ntmps47
    go_wp2
    go_loopw [8, 9, 10] (fun v f i wr => ∃ (k b : Nat) (P : List (List UInt8)), i = .int .i64 k ∧ f = .int .i64 b ∧ OwnS 9 1 tcell wr w.heap.size v P ∧ P.length ≤ m ∧ b ≤ k ∧ ((k ≤ S.length ∧ Hid (splF c P ((S.drop b).take (k - b)) (S.drop k) = spl c S)) ∨ (k = S.length + 1 ∧ Hid (P = spl c S))) ∧ Below w.heap.size w wr) (fun _ _ i _ => S.length + 1 - (intOf i).toNat)
    case atStart => exact ⟨0, 0, [], rfl, rfl, OwnS.none_ _ _, Nat.zero_le _, Nat.le_refl _, .inl ⟨Nat.zero_le _, hid (by simp [spl])⟩, Below.refl _ _⟩
    case round =>
      obtain ⟨k, b, P, rfl, rfl, ho, hP, hbk, hcase, hb⟩ := hrel
      have hSL := HSL.out
      rcases hcase with ⟨hk, HI⟩ | ⟨hk, HI⟩
      · have hi : (k : Int) ≤ (S.length : Int) := by omega
        by_cases hother : ∃ h : k < S.length, S[k] ≠ c
        · obtain ⟨hlt, hne⟩ := hother
          have hi2 : (k : Int) < (S.length : Int) := by omega
          have hk0 : (0 : Int) ≤ (k : Int) := by omega
          have HN := hid (splF_at hlt hbk hne HI.out)
          have hnb : ((S[k].toNat : Int) != cz) = true := by
            rw [HCZ.out]
            simp only [bne_iff_ne, ne_eq]
            intro e
            exact hne (UInt8.toNat_inj.1 (by omega))
          have hat := byte_at hlt
          clear hne
          go_wp2
          go_roundw
          case rel => exact ⟨k + 1, b, P, by go_num, rfl, ho, hP, by omega, .inl ⟨by omega, HN⟩, hb⟩
          case measure => simp [intOf]; omega
        · have hstop : ¬ ((k : Int) < (S.length : Int)) ∨ ∃ h : k < S.length, S[k] = c := by
            by_cases hlt : k < S.length
            · exact .inr ⟨hlt, Decidable.byContradiction fun e => hother ⟨hlt, e⟩⟩
            · exact .inl (by omega)
          clear hother
          by_cases hfull : P.length = m
          · have hfb : ((P.length : Int) == (m : Int)) = true := by rw [hfull]; simp
            have hbig : ¬ (spl c S).length ≤ m := by
              have := HL.out P ((S.drop b).take (k - b)) (S.drop k)
              rw [HI.out] at this
              omega
            have E := HNO.out hbig
            have E1 := hid E.1
            have E2 := hid E.2
            obtain ⟨A, c1, rfl, _, _, _⟩ := OwnS.form ho
            clear E hfull hbig HI
            rcases hstop with hi2 | ⟨hlt, heq⟩
            · go_wp2
              go_ret2
              refine ⟨_, by rw [E2.out]; rfl, ?_, hb⟩
              rw [E1.out]; exact OwnS.none_ _ _
            · have hi2 : (k : Int) < (S.length : Int) := by omega
              have hk0 : (0 : Int) ≤ (k : Int) := by omega
              have hnb : ((S[k].toNat : Int) != cz) = false := by
                rw [HCZ.out, heq]; simp
              have hat := byte_at hlt
              clear heq
              go_wp2
              go_ret2
              refine ⟨_, by rw [E2.out]; rfl, ?_, hb⟩
              rw [E1.out]; exact OwnS.none_ _ _
          · have hfb : ((P.length : Int) == (m : Int)) = false := by
              simp only [beq_eq_false_iff_ne, ne_eq]; omega
            obtain ⟨A, c1, rfl, _, _, _⟩ := OwnS.form ho
            have HNX : (k + 1 ≤ S.length ∧ Hid (splF c (P ++ [(S.drop b).take (k - b)]) ((S.drop (k + 1)).take (k + 1 - (k + 1))) (S.drop (k + 1)) = spl c S)) ∨ (k + 1 = S.length + 1 ∧ Hid (P ++ [(S.drop b).take (k - b)] = spl c S)) := by
              rcases hstop with e | ⟨hlt, heq⟩
              · have e2 : k = S.length := by omega
                exact .inr ⟨by omega, hid (by rw [e2]; exact splF_end (by rw [← e2]; rw [e2]; have := HI.out; rw [e2] at this; exact this))⟩
              · exact .inl ⟨hlt, hid (splF_cut hlt heq HI.out)⟩
            have hstop2 : ¬ ((k : Int) < (S.length : Int)) ∨ ∃ h : k < S.length, (S[k].toNat : Int) = cz := by
              rcases hstop with e | ⟨hlt, heq⟩
              · exact .inl e
              · exact .inr ⟨hlt, by rw [HCZ.out, heq]⟩
            clear hstop HI
            have HNX := hid HNX
            have HFB := hid hfb
            rcases hstop2 with hi2 | ⟨hlt, heq⟩
            · skip
              have hbi : (b : Int) ≤ (k : Int) := by omega
              have hb0 : (0 : Int) ≤ (b : Int) := by omega
              have hz := hb.size
              have hlow := ho.lt
              have hPm : P.length ≤ 1000 := by omega
              obtain ⟨T, hT⟩ : ∃ T, T = (S.drop b).take (k - b) := ⟨_, rfl⟩
              have HT := hid (show (ByteArray.mk S.toArray).extract b k = ByteArray.mk T.toArray by rw [hT]; exact ByteArray.extract_mk S b k)
              have ho2 := ho
              unfold OwnS at ho2
              have HPC := hid hT.symm
              clear hT
              obtain ⟨D, hD⟩ : ∃ D, D = (ByteArray.mk S.toArray).extract b k := ⟨_, rfl⟩
              have HTX := hid (show tcell T = [.string D] by rw [hD, HT.out]; rfl)
              have hD' := hD.symm
              clear hD HT
              go_wp2_with (at_builtin; refine wpList_append_own _ rfl _ _ 48 rfl w.heap.size 9 i0 (.string ⟨#[]⟩) 1 16 Try.underlying48 hi0 hz0 hz1 hz2 rfl (by decide) _ _ _ rfl (own_alloc ho2 _) ⟨wr.heap.size, 0, none⟩ 1 1 [.string D] rfl rfl (cell_one_new _ _ _) ?c2 ?c3 ?c4 ?c5 ?_)
              case c2 => simp [Value.oneCell']
              case c3 => unfold maxLen; omega
              case c4 => omega
              case c5 => first | omega | (simp; omega) | (simp; done)
              case _ =>
                intro v4 w4 h4 hg4 _
                have ho4 : OwnS 9 1 tcell w4 w.heap.size v4 (P ++ [T]) := by
                  unfold OwnS
                  rw [List.length_append, strip_snoc, HTX.out]
                  exact h4
                have hb4 : Below w.heap.size (wr.alloc (.cells #[.string D] 9)) w4 := (Below.refl _ _).grown hg4 (by simp; omega) (fun q hq => (hlow q hq).1)
                have hb5 := (hb.alloc hz (.cells #[.string D] 9)).trans hb4
                clear h4 hg4 hb4 hb ho ho2 hlow
                go_wp2
                go_roundw
                case rel => exact ⟨k + 1, k + 1, P ++ [T], by go_num, by go_num, ho4, by rw [List.length_append, List.length_singleton]; omega, Nat.le_refl _, (by rw [← HPC.out]; exact HNX.out), hb5⟩
                case measure => simp [intOf]; omega
            · have hi2 : (k : Int) < (S.length : Int) := by omega
              have hk0 : (0 : Int) ≤ (k : Int) := by omega
              have hnb : ((S[k].toNat : Int) != cz) = false := by
                rw [heq]; simp
              have hat := byte_at hlt
              clear heq
              have hbi : (b : Int) ≤ (k : Int) := by omega
              have hb0 : (0 : Int) ≤ (b : Int) := by omega
              have hz := hb.size
              have hlow := ho.lt
              have hPm : P.length ≤ 1000 := by omega
              obtain ⟨T, hT⟩ : ∃ T, T = (S.drop b).take (k - b) := ⟨_, rfl⟩
              have HT := hid (show (ByteArray.mk S.toArray).extract b k = ByteArray.mk T.toArray by rw [hT]; exact ByteArray.extract_mk S b k)
              have ho2 := ho
              unfold OwnS at ho2
              have HPC := hid hT.symm
              clear hT
              obtain ⟨D, hD⟩ : ∃ D, D = (ByteArray.mk S.toArray).extract b k := ⟨_, rfl⟩
              have HTX := hid (show tcell T = [.string D] by rw [hD, HT.out]; rfl)
              have hD' := hD.symm
              clear hD HT
              go_wp2_with (at_builtin; refine wpList_append_own _ rfl _ _ 48 rfl w.heap.size 9 i0 (.string ⟨#[]⟩) 1 16 Try.underlying48 hi0 hz0 hz1 hz2 rfl (by decide) _ _ _ rfl (own_alloc ho2 _) ⟨wr.heap.size, 0, none⟩ 1 1 [.string D] rfl rfl (cell_one_new _ _ _) ?c2 ?c3 ?c4 ?c5 ?_)
              case c2 => simp [Value.oneCell']
              case c3 => unfold maxLen; omega
              case c4 => omega
              case c5 => first | omega | (simp; omega) | (simp; done)
              case _ =>
                intro v4 w4 h4 hg4 _
                have ho4 : OwnS 9 1 tcell w4 w.heap.size v4 (P ++ [T]) := by
                  unfold OwnS
                  rw [List.length_append, strip_snoc, HTX.out]
                  exact h4
                have hb4 : Below w.heap.size (wr.alloc (.cells #[.string D] 9)) w4 := (Below.refl _ _).grown hg4 (by simp; omega) (fun q hq => (hlow q hq).1)
                have hb5 := (hb.alloc hz (.cells #[.string D] 9)).trans hb4
                clear h4 hg4 hb4 hb ho ho2 hlow
                go_wp2
                go_roundw
                case rel => exact ⟨k + 1, k + 1, P ++ [T], by go_num, by go_num, ho4, by rw [List.length_append, List.length_singleton]; omega, Nat.le_refl _, (by rw [← HPC.out]; exact HNX.out), hb5⟩
                case measure => simp [intOf]; omega
      · have hi : ¬ (k : Int) ≤ (S.length : Int) := by omega
        have E := HYES.out (by rw [← HI.out]; exact hP)
        have E1 := hid E.1
        have E2 := hid E.2
        clear E hk
        obtain ⟨A, c1, rfl, _, _, _⟩ := OwnS.form ho
        rw [show spl c S = P from HI.out.symm] at E1
        go_wp2
        go_ret2
        refine ⟨_, by rw [E2.out]; rfl, ?_, hb⟩
        rw [E1.out]; exact ho

theorem splitText_z (S : List UInt8) (c : UInt8) (cz mz : Int) (m : Nat) (w : World) (hcz : cz = (c.toNat : Int)) (hmz : mz = (m : Int)) (hS : S.length ≤ 4194304) (hm : m ≤ 1000) :
    Calls Try.prog 47 #[tx S, .int .u8 cz, .int .i64 mz] w fun e w' => ∃ v, e = .returned (.tuple #[v, .bool (splB S c m)]) ∧ OwnS 9 1 tcell w' w.heap.size v (splT S c m) ∧ Below w.heap.size w w' := by
  subst hmz; exact splitText_any S c cz m w hcz hS hm

end Go.Proofs.Ytehdbllpiokbnaa

/-
  What the program's function answers that reads a number. Condition: the text is at most 2^22 bytes long.
-/
namespace Go.Proofs.Ytehdbllpiokbnaa
open Go.RowKit Txt

theorem num_short {l : List UInt8} (h : l.length < 1) : num l = -1 := num_no fun e => by have := e.1.1; omega
theorem num_long {l : List UInt8} (h : 4 < l.length) : num l = -1 := num_no fun e => by have := e.1.2; omega
theorem head_at {l : List UInt8} (h : 0 < l.length) : l.head? = some l[0] := by cases l with | nil => simp at h | cons a b => rfl
theorem num_zero {l : List UInt8} (h : 1 < l.length) (h0 : (l[0]'(by omega)).toNat = 48) : num l = -1 := num_no fun e => e.2.2 ⟨h, by rw [head_at (by omega)]; exact congrArg some (UInt8.toNat_inj.1 h0)⟩
theorem num_sign {l : List UInt8} {k : Nat} (hk : k < l.length) (h : ¬ Dig l[k]) : num l = -1 := num_no fun e => h (e.2.1 _ (List.getElem_mem hk))
theorem dig_succ {l : List UInt8} {k : Nat} (hk : k < l.length) (h : ∀ x ∈ l.take k, Dig x) (h1 : Dig l[k]) : ∀ x ∈ l.take (k + 1), Dig x := by
  rw [List.take_succ_eq_append_getElem hk]
  intro x hx
  rw [List.mem_append, List.mem_singleton] at hx
  rcases hx with hx | rfl
  · exact h x hx
  · exact h1
theorem valN_take {l : List UInt8} {k : Nat} (hk : k < l.length) : valN (l.take (k + 1)) = valN (l.take k) * 10 + (l[k].toNat - 48) := by rw [List.take_succ_eq_append_getElem hk, valN_snoc]
theorem byte0 {S : List UInt8} (hk : 0 < S.length) : (ByteArray.mk S.toArray)[0]'(by simpa [ByteArray.size] using hk) = S[0] := rfl
set_option maxHeartbeats 4000000 in
theorem parseNumber_any (l : List UInt8) (w : World) (hl : l.length ≤ 4194304) :
    Calls Try.prog 50 #[tx l] w fun e w' => e = .returned (.int .i64 (num l)) ∧ w = w' := by
  have HLN := hid hl
  clear hl
  unfold tx
  by_cases h1 : l.length < 1
  · have E := hid (num_short h1)
    have h2 : (l.length : Int) < 1 := by omega
    clear h1
    go_enter Try.func50, Try.ntmps50
    go_wp2
    go_ret
    exact ⟨ret_int E.out.symm, rfl⟩
  by_cases h4 : 4 < l.length
  · have E := hid (num_long h4)
    have h2 : ¬ (l.length : Int) < 1 := by omega
    have h3 : (l.length : Int) > 4 := by omega
    clear h1 h4
    go_enter Try.func50, Try.ntmps50
    go_wp2
    go_ret
    exact ⟨ret_int E.out.symm, rfl⟩
  have h2 : ¬ (l.length : Int) < 1 := by omega
  have h3 : ¬ (l.length : Int) > 4 := by omega
  have hp : 0 < l.length := by omega
  have hat0 := byte0 hp
  by_cases hz : 1 < l.length ∧ (l[0].toNat = 48)
  · have E := hid (num_zero hz.1 hz.2)
    have h5 : (l.length : Int) > 1 := by omega
    have h6 : ((l[0].toNat : Int) == 48) = true := by rw [hz.2]; rfl
    clear hz h1 h4
    go_enter Try.func50, Try.ntmps50
    go_wp2
    go_ret
    exact ⟨ret_int E.out.symm, rfl⟩
  have HOK := hid (fun (hd : ∀ x ∈ l, Dig x) => (num_yes ⟨⟨by omega, by omega⟩, hd, fun e => hz ⟨e.1, by have := e.2; rw [head_at hp] at this; injection this with this; rw [this]; rfl⟩⟩ : num l = valN l))
  have hl4 : l.length ≤ 4 := by omega
  have HV := hid (fun k (hd : ∀ x ∈ l.take k, Dig x) => valN_small (l := l.take k) (by rw [List.length_take]; omega) hd)
  have hz2 : ¬ (l.length : Int) > 1 ∨ (l.length : Int) > 1 ∧ ((l[0].toNat : Int) == 48) = false := by
    by_cases h5 : 1 < l.length
    · refine .inr ⟨by omega, ?_⟩
      simp only [beq_eq_false_iff_ne, ne_eq]
      intro e
      exact hz ⟨h5, by omega⟩
    · exact .inl (by omega)
  have HSG := hid (fun k hk h => num_sign (l := l) (k := k) hk h)
  clear hz h1 h4 HLN
  rcases hz2 with h5 | ⟨h5, h6⟩
  all_goals
    go_enter Try.func50, Try.ntmps50
    go_wp2
    go_loop [3, 4] (fun v i => ∃ k : Nat, k ≤ l.length ∧ i = .int .i64 k ∧ v = .int .i64 (valN (l.take k) : Int) ∧ Hid (∀ x ∈ l.take k, Dig x)) (fun _ i => l.length - (intOf i).toNat)
    case atStart => exact ⟨0, Nat.zero_le _, rfl, rfl, hid (by simp)⟩
    case round =>
      obtain ⟨k, hk, rfl, rfl, HD⟩ := hrel
      by_cases hlt : k < l.length
      · have hi : (k : Int) < (l.length : Int) := by omega
        have hk0 : (0 : Int) ≤ (k : Int) := by omega
        have hat := byte_at hlt
        by_cases hd : Dig l[k]
        · have HD2 := hid (dig_succ hlt HD.out hd)
          have HT := hid (valN_take hlt)
          have hv := HV.out k HD.out
          have hx1 : ¬ ((l[k].toNat : Int) < 48) := by have := hd.1; omega
          have hx2 : ¬ ((l[k].toNat : Int) > 57) := by have := hd.2; omega
          have hdd := hd.2
          have hd1 := hd.1
          obtain ⟨x, hx⟩ : ∃ x : Nat, x = l[k].toNat := ⟨_, rfl⟩
          rw [← hx] at HT hdd hd1
          have hu : IntKind.u8.wrap ((l[k].toNat : Int) - 48) = ((x - 48 : Nat) : Int) := by
            rw [← hx]
            simp [IntKind.wrap, IntKind.bits, IntKind.signed]; omega
          obtain ⟨V, hV⟩ : ∃ V : Nat, V = valN (l.take k) := ⟨_, rfl⟩
          rw [← hV] at hv HT ⊢
          have hw1 : IntKind.i64.wrap ((V : Int) * 10) = (V : Int) * 10 := by rw [IntKind.wrap_i64]; omega
          have hw2 : IntKind.i64.wrap ((V : Int) * 10 + ((x - 48 : Nat) : Int)) = (V : Int) * 10 + ((x - 48 : Nat) : Int) := by rw [IntKind.wrap_i64]; omega
          have hw3 : IntKind.i64.wrap ((x - 48 : Nat) : Int) = ((x - 48 : Nat) : Int) := by rw [IntKind.wrap_i64]; omega
          clear hd hV hx
          go_wp2
          go_round
          case rel => exact ⟨k + 1, by omega, by go_num, by rw [HT.out]; simp, HD2⟩
          case measure => simp [intOf]; omega
        · have E := hid (HSG.out k hlt hd)
          have hx : (l[k].toNat : Int) < 48 ∨ ¬ (l[k].toNat : Int) < 48 ∧ (l[k].toNat : Int) > 57 := by
            unfold Dig at hd
            omega
          clear hd
          rcases hx with hx1 | ⟨hx1, hx2⟩
          all_goals
            go_wp2
            go_ret
            exact ⟨ret_int E.out.symm, rfl⟩
      · have hi : ¬ (k : Int) < (l.length : Int) := by omega
        have hd := HD.out
        rw [List.take_of_length_le (by omega)] at hd ⊢
        have E := hid (HOK.out hd)
        clear hd
        go_wp2
        go_ret
        exact ⟨ret_int E.out.symm, rfl⟩

end Go.Proofs.Ytehdbllpiokbnaa

/-
  What the program's functions answer that read pairs and lists of numbers. Condition: the text is at most 2^22 bytes long.
-/
namespace Go.Proofs.Ytehdbllpiokbnaa
open Go.RowKit Txt Pol

theorem Sees.word {w : World} {B : Nat} {A : Option Addr} {l : List (List UInt8)} (h : Sees w B A (strip tcell l)) {k : Nat} (hk : k < l.length) : ∃ b o, A = some ⟨b, o, none⟩ ∧ b < B ∧ w.cell? ⟨b, o + k, none⟩ = some (.string (ByteArray.mk l[k].toArray)) := by
  obtain ⟨b, o, e, hb, hc⟩ := Sees.elem tcell_ln (by decide) h hk
  exact ⟨b, o, e, hb, by simpa [tx] using hc 0 _ rfl⟩
theorem splT_len {S t : List UInt8} {c : UInt8} {m : Nat} (h : t ∈ splT S c m) : t.length ≤ S.length := by
  unfold splT at h
  split at h
  · simp at h
  · split at h
    · exact spl_lens h
    · simp at h
theorem splT_many (S : List UInt8) (c : UInt8) (m : Nat) : (splT S c m).length ≤ m := by
  unfold splT
  split
  · simp
  · split
    · assumption
    · simp
theorem splT_two {S : List UInt8} {c : UInt8} {m n : Nat} (hn : 1 < n) (_hm : n ≤ m) : (splT S c m).length = n → splT S c m = spl c S := by
  unfold splT
  split
  · intro h; simp at h; omega
  · split
    · exact fun _ => rfl
    · intro h; simp at h; omega
theorem splT_is {S : List UInt8} {c : UInt8} {m n : Nat} (hn : 1 < n) (hm : n ≤ m) (h : (spl c S).length = n) : splT S c m = spl c S := by
  unfold splT
  rw [if_neg (by rintro rfl; rw [spl_nil] at h; simp at h; omega), if_pos (by omega)]
theorem splT_isnt {S : List UInt8} {c : UInt8} {m n : Nat} (hn : 1 < n) (hm : n ≤ m) (h : (spl c S).length ≠ n) : (splT S c m).length ≠ n := fun e => h (by rw [← splT_two hn hm e]; exact e)
set_option maxHeartbeats 4000000 in
theorem parsePair_any (W : List UInt8) (c : UInt8) (cz : Int) (w : World) (hcz : cz = (c.toNat : Int)) (hS : W.length ≤ 4194304) :
    Calls Try.prog 61 #[tx W, .int .u8 cz] w fun e w' => e = .returned (.tuple #[.int .i64 (pair c W).1, .int .i64 (pair c W).2]) ∧ Below w.heap.size w w' := by
  have HCZ := hid hcz
  clear hcz
  by_cases h2 : (spl c W).length = 2
  · obtain ⟨a, b, e⟩ := two_of h2
    have HT := hid (show splT W c 2 = [a, b] by rw [splT_is (n := 2) (by decide) (Nat.le_refl _) h2, e])
    have HP := hid (pair_of e)
    have la : a.length ≤ 4194304 := Nat.le_trans (spl_lens (c := c) (s := W) (by rw [e]; simp)) hS
    have lb : b.length ≤ 4194304 := Nat.le_trans (spl_lens (c := c) (s := W) (by rw [e]; simp)) hS
    clear e h2
    go_enter Try.func61, Try.ntmps61
    go_wp2_with fail
    with_reducible refine (splitText_z W c cz 2 2 w HCZ.out rfl hS (by decide)).mono ?_
    rintro e w1 ⟨v, rfl, ho, hb⟩
    rw [HT.out] at ho
    obtain ⟨A, c1, rfl, _, _, hs⟩ := OwnS.form ho
    rw [show ([a, b] : List (List UInt8)).length = 2 from rfl]
    obtain ⟨bk, o, rfl, hbl, e0⟩ := hs.word (k := 0) (by simp)
    obtain ⟨bk', o', e', _, e1⟩ := hs.word (k := 1) (by simp)
    injection e' with e'
    injection e' with e2 e3
    subst e2 e3
    rw [Nat.add_zero, show ([a, b] : List (List UInt8))[0] = a from rfl] at e0
    rw [show ([a, b] : List (List UInt8))[1] = b from rfl] at e1
    have c1 := parseNumber_any a
    have c2 := parseNumber_any b
    unfold tx at c1 c2
    have C1 := hid c1
    have C2 := hid c2
    clear c1 c2 ho hs
    go_wp2_with fail
    go_quiet (first
      | (go_at_call 50; with_reducible exact Calls.quiet_of_same ((C1.out _ la).mono fun _ _ ⟨he, hw⟩ => ⟨he, hw.symm⟩))
      | (go_at_call 50; with_reducible exact Calls.quiet_of_same ((C2.out _ lb).mono fun _ _ ⟨he, hw⟩ => ⟨he, hw.symm⟩))
      | fail)
    go_wp2
    go_ret2
    exact ⟨by rw [HP.out]; rfl, below_drewN hb _⟩
  · have HP := hid (pair_no h2)
    have HT := hid (splT_isnt (m := 2) (by decide) (Nat.le_refl _) h2)
    clear h2
    go_enter Try.func61, Try.ntmps61
    go_wp2_with fail
    with_reducible refine (splitText_z W c cz 2 2 w HCZ.out rfl hS (by decide)).mono ?_
    rintro e w1 ⟨v, rfl, ho, hb⟩
    obtain ⟨A, c1, rfl, _, _, hs⟩ := OwnS.form ho
    have hlb : (((splT W c 2).length : Int) != 2) = true := by
      have := HT.out
      simp only [bne_iff_ne, ne_eq]; omega
    clear ho hs
    go_wp2
    go_ret2
    exact ⟨by rw [HP.out]; rfl, hb⟩

theorem numM_len (l : List (List UInt8)) (k : Nat) : (((l.take k).map num).length) ≤ k := by rw [List.length_map, List.length_take]; omega
set_option maxHeartbeats 4000000 in
set_option maxRecDepth 16384 in
theorem parseNumbers_any (S : List UInt8) (mz : Int) (m : Nat) (w : World) (hmz : mz = (m : Int)) (hS : S.length ≤ 4194304) (hm : m ≤ 1000) :
    Calls Try.prog 48 #[tx S, .int .i64 mz] w fun e w' => ∃ v, e = .returned (.tuple #[v, .bool (splB S 44 m)]) ∧ Own w' w.heap.size v ((splT S 44 m).map num) ∧ Below w.heap.size w w' := by
  obtain ⟨i0, hi0, hz0, hz1, hz2⟩ := info_parts intInfo
  have HMZ := hid hmz
  clear hmz
  have HWL := hid (fun t ht => Nat.le_trans (splT_len (S := S) (c := 44) (m := m) (t := t) ht) hS)
  have HWN := hid (Nat.le_trans (splT_many S 44 m) hm)
  go_enter Try.func48, Try.ntmps48
  go_wp2_with fail
  with_reducible refine (splitText_z S 44 44 mz m w rfl HMZ.out hS hm).mono ?_
  rintro e w1 ⟨v, rfl, ho, hb1⟩
  obtain ⟨W, hW⟩ : ∃ W, W = splT S 44 m := ⟨_, rfl⟩
  have HW := hid hW.symm
  obtain ⟨b, hbb⟩ : ∃ b, b = splB S 44 m := ⟨_, rfl⟩
  have HB := hid hbb.symm
  rw [← hW] at ho HWL HWN
  rw [← hbb]
  clear hW hbb
  obtain ⟨A, c1, rfl, _, _, hs⟩ := OwnS.form ho
  clear ho
  go_wp2
  go_loopw [8, 19] (fun v i wr => ∃ k : Nat, k ≤ W.length ∧ i = .int .i64 k ∧ Own wr w1.heap.size v ((W.take k).map num) ∧ Below w1.heap.size w1 wr) (fun _ i _ => W.length - (intOf i).toNat)
  case atStart => exact ⟨0, Nat.zero_le _, rfl, Own.none_ _ _, Below.refl _ _⟩
  case round =>
    obtain ⟨k, hk, rfl, ho, hb⟩ := hrel
    have hwn := HWN.out
    by_cases hlt : k < W.length
    · have hi : (k : Int) < (W.length : Int) := by omega
      obtain ⟨bk, o, rfl, hbl, e0⟩ := (hs.below hb).word hlt
      have hxl := HWL.out _ (List.getElem_mem hlt)
      have HT := hid (show (W.take (k + 1)).map num = (W.take k).map num ++ [num W[k]] by rw [List.take_succ_eq_append_getElem hlt, List.map_append]; rfl)
      have hkl := numM_len W k
      obtain ⟨x, hx⟩ : ∃ x, x = W[k] := ⟨_, rfl⟩
      rw [← hx] at e0 hxl HT
      clear hx
      have c0 := parseNumber_any x
      unfold tx at c0
      have C0 := hid c0
      clear c0
      have hz := hb.size
      have hlow := fun q hq => (ho.out.lt q hq).1
      go_wp2_with fail
      with_reducible refine (C0.out _ hxl).mono ?_
      rintro e w' ⟨rfl, rfl⟩
      obtain ⟨n, hn⟩ : ∃ n, n = num x := ⟨_, rfl⟩
      rw [← hn] at HT ⊢
      obtain ⟨R, hR⟩ : ∃ R, R = (W.take k).map num := ⟨_, rfl⟩
      rw [← hR] at HT ho hkl
      clear hn hR C0
      go_wp2_with (at_builtin; refine wpList_append_own _ rfl _ _ 22 rfl w1.heap.size 3 i0 (.int .i64 0) 1 8 Try.underlying22 hi0 hz0 hz1 hz2 rfl (by decide) _ _ _ rfl (ho.below ((Below.refl _ _).alloc (Nat.le_refl _) _)).out ⟨wr.heap.size, 0, none⟩ 1 1 [.int .i64 n] rfl rfl (cell_one_new _ _ _) ?c2 ?c3 ?c4 ?c5 ?_)
      case c2 => simp [Value.oneCell']
      case c3 => unfold maxLen; omega
      case c4 => omega
      case c5 => first | omega | (simp; omega) | (simp; done)
      case _ =>
        intro v4 w4 h4 hg4 _
        have ho4 : Own w4 w1.heap.size v4 ((W.take (k + 1)).map num) := by
          rw [HT.out]
          unfold Own
          rw [List.length_append, List.length_singleton, ints_app]
          exact h4
        have hb4 : Below w1.heap.size (wr.alloc (.cells #[.int .i64 n] 3)) w4 := (Below.refl _ _).grown hg4 (by simp; omega) hlow
        have hb5 := (hb.alloc hz (.cells #[.int .i64 n] 3)).trans hb4
        clear h4 hg4 hb4 hb ho hlow
        go_wp2
        go_roundw
        case rel => exact ⟨k + 1, by omega, by go_num, ho4, hb5⟩
        case measure => simp [intOf]; omega
    · have hi : ¬ (k : Int) < (W.length : Int) := by omega
      rw [List.take_of_length_le (by omega)] at ho
      go_wp2
      go_ret2
      refine ⟨_, by rw [HB.out]; rfl, ?_, hb1.trans (hb.mono hb1.size)⟩
      rw [HW.out]; exact ho.mono hb1.size

end Go.Proofs.Ytehdbllpiokbnaa

/-
  What the model's functions answer that cut a text at a sign and that read a number. Condition: the text is at most 2^22 bytes long.
-/
namespace Go.Proofs.Ytehdbllpiokbnaa
open Go.RowKit Txt

theorem tail_take (S : List UInt8) (b : Nat) : (S.drop b).take (S.length - b) = S.drop b := List.take_of_length_le (by rw [List.length_drop]; exact Nat.le_refl _)
set_option maxHeartbeats 4000000 in
set_option maxRecDepth 16384 in
theorem splitAt_any (S : List UInt8) (c : UInt8) (cz : Int) (w : World) (hcz : cz = (c.toNat : Int)) (hS : S.length ≤ 4194304) :
    Calls Try.prog 43 #[tx S, .int .u8 cz] w fun e w' => ∃ v, e = .returned v ∧ OwnS 9 1 tcell w' w.heap.size v (spl c S) ∧ Below w.heap.size w w' := by
  obtain ⟨i0, hi0, hz0, hz1, hz2⟩ := info_parts strInfo
  have HSL := hid hS
  have HCZ := hid hcz
  clear hS hcz
  have hm0 : OwnS 9 1 tcell (w.alloc (.cells #[] 9)) w.heap.size (.slice (some ⟨w.heap.size, 0, none⟩) 0 0) [] := OwnS.made w (Nat.le_refl _)
  have hbm := (Below.refl w.heap.size w).alloc (Nat.le_refl _) (.cells #[] 9)
  unfold tx
  go_enter Try.func43, Try.ntmps43
  go_wp2
  go_loopw [5, 6, 7] (fun v f i wr => ∃ (k b : Nat) (P : List (List UInt8)), i = .int .i64 k ∧ f = .int .i64 b ∧ OwnS 9 1 tcell wr w.heap.size v P ∧ P.length ≤ k ∧ b ≤ k ∧ k ≤ S.length ∧ Hid (splF c P ((S.drop b).take (k - b)) (S.drop k) = spl c S) ∧ Below w.heap.size w wr) (fun _ _ i _ => S.length - (intOf i).toNat)
  case atStart => exact ⟨0, 0, [], rfl, rfl, hm0, Nat.zero_le _, Nat.le_refl _, Nat.zero_le _, hid (by simp [spl]), hbm⟩
  case round =>
    clear hm0 hbm
    obtain ⟨k, b, P, rfl, rfl, ho, hP, hbk, hk, HI, hb⟩ := hrel
    have hSL := HSL.out
    have hz := hb.size
    have hlow := ho.lt
    have ho2 := ho
    unfold OwnS at ho2
    have hb0 : (0 : Int) ≤ (b : Int) := by omega
    by_cases hlt : k < S.length
    · have hi : (k : Int) < (S.length : Int) := by omega
      have hk0 : (0 : Int) ≤ (k : Int) := by omega
      have hat := byte_at hlt
      by_cases hne : S[k] = c
      · have hnb : ((S[k].toNat : Int) == cz) = true := by rw [HCZ.out, hne]; simp
        have HN := hid (splF_cut (b := b) hlt hne HI.out)
        clear hne HI
        have hbi : (b : Int) ≤ (k : Int) := by omega
        have hki : (k : Int) ≤ (S.length : Int) := by omega
        obtain ⟨T, hT⟩ : ∃ T, T = (S.drop b).take (k - b) := ⟨_, rfl⟩
        have HT := hid (show (ByteArray.mk S.toArray).extract b k = ByteArray.mk T.toArray by rw [hT]; exact ByteArray.extract_mk S b k)
        rw [← hT] at HN
        obtain ⟨D, hD⟩ : ∃ D, D = (ByteArray.mk S.toArray).extract b k := ⟨_, rfl⟩
        have HTX := hid (show tcell T = [.string D] by rw [hD, HT.out]; rfl)
        have hD' := hD.symm
        clear hD HT hT
        go_wp2_with (at_builtin; refine wpList_append_own _ rfl _ _ 48 rfl w.heap.size 9 i0 (.string ⟨#[]⟩) 1 16 Try.underlying48 hi0 hz0 hz1 hz2 rfl (by decide) _ _ _ rfl (own_alloc ho2 _) ⟨wr.heap.size, 0, none⟩ 1 1 [.string D] rfl rfl (cell_one_new _ _ _) ?c2 ?c3 ?c4 ?c5 ?_)
        case c2 => simp [Value.oneCell']
        case c3 => unfold maxLen; omega
        case c4 => omega
        case c5 => first | omega | (simp; omega) | (simp; done)
        case _ =>
          intro v4 w4 h4 hg4 _
          have ho4 : OwnS 9 1 tcell w4 w.heap.size v4 (P ++ [T]) := by
            unfold OwnS
            rw [List.length_append, strip_snoc, HTX.out]
            exact h4
          have hb4 : Below w.heap.size (wr.alloc (.cells #[.string D] 9)) w4 := (Below.refl _ _).grown hg4 (by simp; omega) (fun q hq => (hlow q hq).1)
          have hb5 := (hb.alloc hz (.cells #[.string D] 9)).trans hb4
          clear h4 hg4 hb4 hb ho ho2 hlow
          go_wp2
          go_roundw
          case rel => exact ⟨k + 1, k + 1, P ++ [T], by go_num, by go_num, ho4, by rw [List.length_append, List.length_singleton]; omega, Nat.le_refl _, by omega, HN, hb5⟩
          case measure => simp [intOf]; omega
      · have hnb : ((S[k].toNat : Int) == cz) = false := by
          rw [HCZ.out]
          simp only [beq_eq_false_iff_ne, ne_eq]
          intro e
          exact hne (UInt8.toNat_inj.1 (by omega))
        have HN := hid (splF_at hlt hbk hne HI.out)
        clear hne HI hlow ho2
        go_wp2
        go_roundw
        case rel => exact ⟨k + 1, b, P, by go_num, rfl, ho, by omega, by omega, by omega, HN, hb⟩
        case measure => simp [intOf]; omega
    · have hi : ¬ (k : Int) < (S.length : Int) := by omega
      have hke : k = S.length := by omega
      have HE := hid (by have := HI.out; rw [hke] at this; exact splF_end this : P ++ [(S.drop b).take (S.length - b)] = spl c S)
      have hbi : (b : Int) ≤ (S.length : Int) := by omega
      have hPl : P.length ≤ 4194304 := by omega
      clear HI hke hk hP
      rw [tail_take] at HE
      obtain ⟨T, hT⟩ : ∃ T, T = S.drop b := ⟨_, rfl⟩
      have HT := hid (show (ByteArray.mk S.toArray).extract b S.length = ByteArray.mk T.toArray by rw [hT, ByteArray.extract_mk, tail_take])
      rw [← hT] at HE
      obtain ⟨D, hD⟩ : ∃ D, D = (ByteArray.mk S.toArray).extract b S.length := ⟨_, rfl⟩
      have HTX := hid (show tcell T = [.string D] by rw [hD, HT.out]; rfl)
      have hD' := hD.symm
      clear hD HT hT
      go_wp2_with (at_builtin; refine wpList_append_own _ rfl _ _ 48 rfl w.heap.size 9 i0 (.string ⟨#[]⟩) 1 16 Try.underlying48 hi0 hz0 hz1 hz2 rfl (by decide) _ _ _ rfl (own_alloc ho2 _) ⟨wr.heap.size, 0, none⟩ 1 1 [.string D] rfl rfl (cell_one_new _ _ _) ?d2 ?d3 ?d4 ?d5 ?_)
      case d2 => simp [Value.oneCell']
      case d3 => unfold maxLen; omega
      case d4 => omega
      case d5 => first | omega | (simp; omega) | (simp; done)
      case _ =>
        intro v4 w4 h4 hg4 _
        have ho4 : OwnS 9 1 tcell w4 w.heap.size v4 (P ++ [T]) := by
          unfold OwnS
          rw [List.length_append, strip_snoc, HTX.out]
          exact h4
        have hb4 : Below w.heap.size (wr.alloc (.cells #[.string D] 9)) w4 := (Below.refl _ _).grown hg4 (by simp; omega) (fun q hq => (hlow q hq).1)
        have hb5 := (hb.alloc hz (.cells #[.string D] 9)).trans hb4
        clear h4 hg4 hb4 hb ho ho2 hlow
        rw [HE.out] at ho4
        go_wp2
        go_ret
        exact ⟨_, rfl, ho4, hb5⟩

set_option maxHeartbeats 4000000 in
set_option maxRecDepth 16384 in
theorem parseInt_any (l : List UInt8) (w : World) (hl : l.length ≤ 4194304) :
    Calls Try.prog 46 #[tx l] w fun e w' => e = .returned (.int .i64 (num l)) ∧ Below w.heap.size w w' := by
  have HLN := hid hl
  clear hl
  unfold tx
  by_cases h1 : l.length < 1
  · have E := hid (num_short h1)
    have h2 : ((l.length : Int) == 0) = true := by simp only [beq_iff_eq]; omega
    clear h1
    go_enter Try.func46, Try.ntmps46
    go_wp2
    go_ret
    exact ⟨ret_int E.out.symm, Below.refl _ _⟩
  by_cases h4 : 4 < l.length
  · have E := hid (num_long h4)
    have h2 : ((l.length : Int) == 0) = false := by simp only [beq_eq_false_iff_ne, ne_eq]; omega
    have h3 : (l.length : Int) > 4 := by omega
    clear h1 h4
    go_enter Try.func46, Try.ntmps46
    go_wp2
    go_ret
    exact ⟨ret_int E.out.symm, Below.refl _ _⟩
  have h2 : ((l.length : Int) == 0) = false := by simp only [beq_eq_false_iff_ne, ne_eq]; omega
  have h3 : ¬ (l.length : Int) > 4 := by omega
  have hp : 1 ≤ l.length := by omega
  have hl4 : l.length ≤ 4 := by omega
  have HNO := hid (fun (hd : ∀ x ∈ l, Dig x) (e : dec (valN l) ≠ l) => (num_no (fun q => e ((dec_iff hp hd).2 q.2.2)) : num l = -1))
  have HYES := hid (fun (hd : ∀ x ∈ l, Dig x) (e : dec (valN l) = l) => (num_yes ⟨⟨hp, hl4⟩, hd, (dec_iff hp hd).1 e⟩ : num l = valN l))
  have HV := hid (fun k (hd : ∀ x ∈ l.take k, Dig x) => valN_small (l := l.take k) (by rw [List.length_take]; omega) hd)
  have HSG := hid (fun k hk h => num_sign (l := l) (k := k) hk h)
  clear h1 h4 HLN hp
  go_enter Try.func46, Try.ntmps46
  go_wp2
  go_loop [3, 4] (fun v i => ∃ k : Nat, k ≤ l.length ∧ i = .int .i64 k ∧ v = .int .i64 (valN (l.take k) : Int) ∧ Hid (∀ x ∈ l.take k, Dig x)) (fun _ i => l.length - (intOf i).toNat)
  case atStart => exact ⟨0, Nat.zero_le _, rfl, rfl, hid (by simp)⟩
  case round =>
    obtain ⟨k, hk, rfl, rfl, HD⟩ := hrel
    by_cases hlt : k < l.length
    · have hi : (k : Int) < (l.length : Int) := by omega
      have hk0 : (0 : Int) ≤ (k : Int) := by omega
      have hat := byte_at hlt
      have hwx : IntKind.i64.wrap (l[k].toNat : Int) = (l[k].toNat : Int) := by
        have := l[k].toNat_lt
        rw [IntKind.wrap_i64]; omega
      by_cases hd : Dig l[k]
      · have HD2 := hid (dig_succ hlt HD.out hd)
        have HT := hid (valN_take hlt)
        have hv := HV.out k HD.out
        have HIN := hid (inB_iff.2 ⟨by have := hd.1; omega, by have := hd.2; omega⟩ : inB (l[k].toNat : Int) 48 57 = true)
        have hdd := hd.2
        have hd1 := hd.1
        obtain ⟨V, hV⟩ : ∃ V : Nat, V = valN (l.take k) := ⟨_, rfl⟩
        rw [← hV] at hv HT ⊢
        have hw1 : IntKind.i64.wrap (10 * (V : Int)) = 10 * (V : Int) := by rw [IntKind.wrap_i64]; omega
        have hw2 : IntKind.i64.wrap (10 * (V : Int) + (l[k].toNat : Int)) = 10 * (V : Int) + (l[k].toNat : Int) := by rw [IntKind.wrap_i64]; omega
        have hw3 : IntKind.i64.wrap (10 * (V : Int) + (l[k].toNat : Int) - 48) = 10 * (V : Int) + (l[k].toNat : Int) - 48 := by rw [IntKind.wrap_i64]; omega
        have HR := hid (show 10 * (V : Int) + (l[k].toNat : Int) - 48 = ((valN (l.take (k + 1)) : Nat) : Int) by rw [HT.out]; omega)
        clear hd hV hdd hd1 HT
        go_wp2_with fail
        with_reducible refine (inRange_any _ _ _ _).mono ?_
        rintro e w' ⟨he, rfl⟩
        rw [HIN.out] at he
        subst he
        go_wp2
        go_round
        case rel => exact ⟨k + 1, by omega, by go_num, by rw [← HR.out], HD2⟩
        case measure => simp [intOf]; omega
      · have E := hid (HSG.out k hlt hd)
        have HIN := hid (Bool.eq_false_iff.2 fun e => hd ⟨by have := inB_iff.1 e; omega, by have := inB_iff.1 e; omega⟩ : inB (l[k].toNat : Int) 48 57 = false)
        clear hd
        go_wp2_with fail
        with_reducible refine (inRange_any _ _ _ _).mono ?_
        rintro e w' ⟨he, rfl⟩
        rw [HIN.out] at he
        subst he
        go_wp2
        go_ret
        exact ⟨ret_int E.out.symm, Below.refl _ _⟩
    · have hi : ¬ (k : Int) < (l.length : Int) := by omega
      have hd := HD.out
      have hv := HV.out k HD.out
      rw [List.take_of_length_le (by omega)] at hd hv ⊢
      have hv9 : valN l ≤ 1000000000 := by omega
      by_cases he : dec (valN l) = l
      · have E := hid (HYES.out hd he)
        have HEQ := hid he
        have hnb : (!(l == l)) = false := by simp
        clear hd he hv
        obtain ⟨V, hV⟩ : ∃ V : Nat, V = valN l := ⟨_, rfl⟩
        rw [← hV] at hv9 E HEQ ⊢
        clear hV
        go_wp2_with fail
        with_reducible refine (decimal_any V _ hv9).mono ?_
        rintro e w2 ⟨he, hb⟩
        rw [HEQ.out] at he
        subst he
        unfold tx
        go_wp2
        go_ret
        exact ⟨ret_int E.out.symm, hb⟩
      · have E := hid (HNO.out hd he)
        obtain ⟨V, hV⟩ : ∃ V : Nat, V = valN l := ⟨_, rfl⟩
        rw [← hV] at hv9 he ⊢
        obtain ⟨D, hD⟩ : ∃ D, D = dec V := ⟨_, rfl⟩
        have HEQ := hid hD.symm
        have hnb : (D == l) = false := by rw [hD]; simpa using he
        clear hd he hv hV hD
        go_wp2_with fail
        with_reducible refine (decimal_any V _ hv9).mono ?_
        rintro e w2 ⟨he, hb⟩
        rw [HEQ.out] at he
        subst he
        unfold tx
        go_wp2
        go_ret
        exact ⟨ret_int E.out.symm, hb⟩

end Go.Proofs.Ytehdbllpiokbnaa

/-
  What the model's listText answers. Condition: the list lies in memory, its numbers are from 0 to 9999.
-/
namespace Go.Proofs.Ytehdbllpiokbnaa
open Go.RowKit Txt

set_option maxHeartbeats 4000000 in
set_option maxRecDepth 16384 in
theorem listText_any (A : Option Addr) (c : Nat) (l : List Int) (w : World) (h : Sees w w.heap.size A (ints l)) (hn : l.length ≤ 4194304) (hx : ∀ x ∈ l, 0 ≤ x ∧ x ≤ 9999) :
    Calls Try.prog 68 #[.slice A l.length c] w fun e w' => e = .returned (tx (nums l)) ∧ Below w.heap.size w w' := by
  have HN := hid hn
  have HX := hid hx
  have HTL := hid (fun k => jn_len (numTs_len hx) k)
  clear hn hx
  go_enter Try.func68, Try.ntmps68
  go_wp2
  go_loopw [3, 4] (fun v i wr => ∃ (k : Nat) (T : List UInt8), k ≤ l.length ∧ i = .int .i64 k ∧ v = .string (ByteArray.mk T.toArray) ∧ Hid (jn (numTs l) k = T) ∧ Below w.heap.size w wr) (fun _ i _ => l.length - (intOf i).toNat)
  case atStart => exact ⟨0, [], Nat.zero_le _, rfl, rfl, hid rfl, Below.refl _ _⟩
  case round =>
    obtain ⟨k, T, hk, rfl, rfl, HT, hb⟩ := hrel
    have hn := HN.out
    by_cases hlt : k < l.length
    · have hi : (k : Int) < (l.length : Int) := by omega
      have hi0 : (0 : Int) ≤ (k : Int) := by omega
      obtain ⟨b, o, rfl, hbl, e0⟩ := (h.below hb).int hlt
      have hr := HX.out _ (List.getElem_mem hlt)
      have HAT := hid (numTs_at hlt)
      obtain ⟨x, hx⟩ : ∃ x, x = l[k] := ⟨_, rfl⟩
      rw [← hx] at e0 HAT hr
      obtain ⟨a, rfl⟩ : ∃ a : Nat, x = a := ⟨x.toNat, by omega⟩
      rw [Int.toNat_natCast] at HAT
      have ha9 : a ≤ 1000000000 := by omega
      have la := dec_len 3 a (by omega)
      obtain ⟨D1, hD1⟩ : ∃ D, D = dec a := ⟨_, rfl⟩
      have H1 := hid hD1
      rw [← hD1] at la HAT
      clear hx hr hD1
      have hT := HTL.out k
      rw [HT.out] at hT
      have hTl : T.length ≤ 20971520 := by omega
      have hz := hb.size
      rcases Nat.eq_zero_or_pos k with hk0 | hk0
      · have HS := hid (show jn (numTs l) (k + 1) = T ++ D1 by rw [← HT.out, hk0, jn_one, jn_zero, List.nil_append, ← HAT.out, hk0])
        have hkg : ¬ (k : Int) > 0 := by omega
        have hs1 : ¬ T.length + D1.length > 9223372036854775807 := by omega
        clear hk0 hT
        go_wp2_with fail
        with_reducible refine (decimal_any a _ ha9).mono ?_
        rintro e w2 ⟨he, hb2⟩
        rw [← H1.out] at he
        subst he
        have hbb := hb.trans (hb2.mono hz)
        unfold tx
        go_wp2
        go_roundw
        case rel => exact ⟨k + 1, T ++ D1, by omega, by go_num, by rw [tx_app], HS, hbb⟩
        case measure => simp [intOf]; omega
      · have HS := hid (show jn (numTs l) (k + 1) = T ++ [44] ++ D1 by rw [jn_succ _ (by omega), HT.out, HAT.out])
        have hkg : (k : Int) > 0 := by omega
        have hs0 : ¬ T.length + 1 > 9223372036854775807 := by omega
        have hs1 : ¬ T.length + 1 + D1.length > 9223372036854775807 := by omega
        clear hk0 hT
        go_wp2_with fail
        with_reducible refine (decimal_any a _ ha9).mono ?_
        rintro e w2 ⟨he, hb2⟩
        rw [← H1.out] at he
        subst he
        have hbb := hb.trans (hb2.mono hz)
        unfold tx
        go_wp2
        go_roundw
        case rel => exact ⟨k + 1, T ++ [44] ++ D1, by omega, by go_num, by rw [← tx_app, ← tx_app], HS, hbb⟩
        case measure => simp [intOf]; omega
    · have hi : ¬ (k : Int) < (l.length : Int) := by omega
      have hke : k = l.length := by omega
      subst hke
      have E := hid (show nums l = T from HT.out)
      go_wp2
      go_ret
      exact ⟨by rw [E.out]; rfl, hb⟩

end Go.Proofs.Ytehdbllpiokbnaa

/-
  What the model's FormatPool answers. Condition: the pool's lists lie in memory.
-/
namespace Go.Proofs.Ytehdbllpiokbnaa
open Go.RowKit Txt Pol

set_option maxHeartbeats 4000000 in
set_option maxRecDepth 16384 in
theorem sformatPool_any (p : Pl) (A1 A2 A3 : Option Addr) (c1 c2 c3 : Nat) (w : World) (h : SeesP w w.heap.size A1 A2 A3 p) (h1 : p.idle.length ≤ 2097152) (h2 : p.held.length ≤ 2097152) (h3 : p.wait.length ≤ 2097152) (hv : okB p = true) :
    Calls Try.prog 34 #[.agg #[.int .i64 p.mx, .slice A1 p.idle.length c1, .slice A2 p.held.length c2, .slice A3 p.wait.length c3]] w fun e w' => e = .returned (tx (fmtP p)) ∧ Below w.heap.size w w' := by
  have px := At.new w 30 #[.int .i64 p.mx, .slice A1 p.idle.length c1, .slice A2 p.held.length c2, .slice A3 p.wait.length c3]
  have hb0 := (Below.refl w.heap.size w).alloc (Nat.le_refl _) (.cells #[.int .i64 p.mx, .slice A1 p.idle.length c1, .slice A2 p.held.length c2, .slice A3 p.wait.length c3] 30)
  have hs0 := h.on hb0
  obtain ⟨y0, y1, y2, y3⟩ := (⟨px.cell 0, px.cell 1, px.cell 2, px.cell 3⟩ : _ ∧ _ ∧ _ ∧ _)
  have hok := okB_iff.1 hv
  obtain ⟨k1, k2, k3⟩ := ok_nums hok
  obtain ⟨z1, z2, z3⟩ := hok.small
  have E := hid (fmtP_yes hv)
  have l1 := nums_len k1
  have l2 := hols_len k2
  have l3 := nums_len k3
  obtain ⟨m, hm⟩ : ∃ m : Nat, p.mx = m := ⟨p.mx.toNat, by have := hok.1; omega⟩
  have hm6 : m ≤ 6 := by have := hok.1; omega
  have hm9 : m ≤ 1000000000 := by omega
  have l0 := dec_len 0 m (by omega)
  have K1 := hid k1
  have K2 := hid k2
  have K3 := hid k3
  have e0 : p.mx.toNat = m := by omega
  rw [e0] at E
  obtain ⟨D0, hD0⟩ : ∃ D, D = dec m := ⟨_, rfl⟩
  obtain ⟨D1, hD1⟩ : ∃ D, D = nums p.idle := ⟨_, rfl⟩
  obtain ⟨D2, hD2⟩ : ∃ D, D = hols p.held := ⟨_, rfl⟩
  obtain ⟨D3, hD3⟩ : ∃ D, D = nums p.wait := ⟨_, rfl⟩
  rw [← hD0, ← hD1, ← hD2, ← hD3] at E
  rw [← hD0] at l0
  rw [← hD1] at l1
  rw [← hD2] at l2
  rw [← hD3] at l3
  have H0 := hid hD0
  have H1 := hid hD1
  have H2 := hid hD2
  have H3 := hid hD3
  have s1 : ¬ D0.length + 1 > 9223372036854775807 := by omega
  have s2 : ¬ D0.length + 1 + D1.length > 9223372036854775807 := by omega
  have s3 : ¬ D0.length + 1 + D1.length + 1 > 9223372036854775807 := by omega
  have s4 : ¬ D0.length + 1 + D1.length + 1 + D2.length > 9223372036854775807 := by omega
  have s5 : ¬ D0.length + 1 + D1.length + 1 + D2.length + 1 > 9223372036854775807 := by omega
  have s6 : ¬ D0.length + 1 + D1.length + 1 + D2.length + 1 + D3.length > 9223372036854775807 := by omega
  have HMX := hid hm
  clear hv hok k1 k2 k3 l0 l1 l2 l3 hD0 hD1 hD2 hD3 e0 hm6 hm
  have n1 : p.idle.length ≤ 4194304 := by omega
  have n2 : p.held.length ≤ 4194304 := by omega
  have n3 : p.wait.length ≤ 4194304 := by omega
  go_enter Try.func34, Try.ntmps34
  have px1 := px
  have hbd := hb0.drew
  have hsd := hs0.drew
  have pxd := px1.drew
  obtain ⟨w1, hw1⟩ : ∃ w1, w1 = w.alloc (.cells #[.int .i64 p.mx, .slice A1 p.idle.length c1, .slice A2 p.held.length c2, .slice A3 p.wait.length c3] 30) := ⟨_, rfl⟩
  go_wp2_with fail
  rw [← hw1] at px1 hbd hsd pxd ⊢
  clear hb0 hs0 px y0 y1 y2 y3 z1 z2 z3 hw1
  obtain ⟨y0, y1, y2, y3⟩ := (⟨px1.cell 0, px1.cell 1, px1.cell 2, px1.cell 3⟩ : _ ∧ _ ∧ _ ∧ _)
  rw [HMX.out] at y0
  go_region_held3 (fun w' => w'.cell? ⟨w.heap.size, 0, none⟩ = some (.int .i64 (m : Int)) ∧ w'.cell? ⟨w.heap.size, 1, none⟩ = some (.slice A1 p.idle.length c1) ∧ w'.cell? ⟨w.heap.size, 2, none⟩ = some (.slice A2 p.held.length c2) ∧ w'.cell? ⟨w.heap.size, 3, none⟩ = some (.slice A3 p.wait.length c3))
    (first | with_reducible exact ⟨y0, y1, y2, y3⟩ | with_reducible exact ⟨d0, d1, d2, d3⟩ | with_reducible exact ⟨a0, a1, a2, a3⟩ | with_reducible exact ⟨b0, b1, b2, b3⟩ | with_reducible exact ⟨q0, q1, q2, q3⟩ | go_keep)
    (first
      | (go_at_call 56; (with_reducible refine (decimal_any m w1.drew hm9).mono ?_); rintro e wz ⟨he, hbz⟩; rw [← H0.out] at he; subst he; have pxz := pxd.below hbz pxd.lt; have hsz := hsd.on hbz; have hbwz := hbd.trans (hbz.mono hbd.size); obtain ⟨d0, d1, d2, d3⟩ := (⟨pxz.cell 0, pxz.cell 1, pxz.cell 2, pxz.cell 3⟩ : _ ∧ _ ∧ _ ∧ _); rw [HMX.out] at d0; unfold tx)
      | (go_at_call 68; (with_reducible refine (listText_any A1 c1 p.idle wz hsz.idle n1 K1.out).mono ?_); rintro e wa ⟨he, hba⟩; rw [← H1.out] at he; subst he; have pxa := pxz.below hba pxz.lt; have hsa := hsz.on hba; have hbwa := hbwz.trans (hba.mono hbwz.size); obtain ⟨a0, a1, a2, a3⟩ := (⟨pxa.cell 0, pxa.cell 1, pxa.cell 2, pxa.cell 3⟩ : _ ∧ _ ∧ _ ∧ _); rw [HMX.out] at a0; unfold tx)
      | (go_at_call 69; (with_reducible refine (sholdsText_any A2 c2 p.held wa hsa.held n2 K2.out).mono ?_); rintro e wb ⟨he, hbb⟩; rw [← H2.out] at he; subst he; have pxb := pxa.below hbb pxa.lt; have hsb := hsa.on hbb; have hbwb := hbwa.trans (hbb.mono hbwa.size); obtain ⟨b0, b1, b2, b3⟩ := (⟨pxb.cell 0, pxb.cell 1, pxb.cell 2, pxb.cell 3⟩ : _ ∧ _ ∧ _ ∧ _); rw [HMX.out] at b0; unfold tx)
      | (go_at_call 68; (with_reducible refine (listText_any A3 c3 p.wait wb hsb.wait n3 K3.out).mono ?_); rintro e wc ⟨he, hbc⟩; rw [← H3.out] at he; subst he; have pxc := pxb.below hbc pxb.lt; have hsc := hsb.on hbc; have hbwc := hbwb.trans (hbc.mono hbwb.size); obtain ⟨q0, q1, q2, q3⟩ := (⟨pxc.cell 0, pxc.cell 1, pxc.cell 2, pxc.cell 3⟩ : _ ∧ _ ∧ _ ∧ _); rw [HMX.out] at q0; unfold tx)
      | fail)
  all_goals
    clear y0 y1 y2 y3 d0 d1 d2 d3 a0 a1 a2 a3 b0 b1 b2 b3 q0 q1 q2 q3
    go_wp2
    go_ret
    exact ⟨by rw [E.out]; unfold tx; rw [← tx_app, ← tx_app, ← tx_app, ← tx_app, ← tx_app, ← tx_app]; rfl, hbwc⟩

set_option maxHeartbeats 4000000 in
theorem sFormatPool_any (p : Pl) (A1 A2 A3 : Option Addr) (c1 c2 c3 : Nat) (w : World) (h : SeesP w w.heap.size A1 A2 A3 p) (h1 : p.idle.length ≤ 2097152) (h2 : p.held.length ≤ 2097152) (h3 : p.wait.length ≤ 2097152) :
    Calls Try.prog 9 #[.agg #[.int .i64 p.mx, .slice A1 p.idle.length c1, .slice A2 p.held.length c2, .slice A3 p.wait.length c3]] w fun e w' => e = .returned (tx (fmtP p)) ∧ Below w.heap.size w w' := by
  have px := At.new w 30 #[.int .i64 p.mx, .slice A1 p.idle.length c1, .slice A2 p.held.length c2, .slice A3 p.wait.length c3]
  have hb0 := (Below.refl w.heap.size w).alloc (Nat.le_refl _) (.cells #[.int .i64 p.mx, .slice A1 p.idle.length c1, .slice A2 p.held.length c2, .slice A3 p.wait.length c3] 30)
  have hs0 := h.on hb0
  obtain ⟨y0, y1, y2, y3⟩ := (⟨px.cell 0, px.cell 1, px.cell 2, px.cell 3⟩ : _ ∧ _ ∧ _ ∧ _)
  rcases hv : okB p with _ | _
  · have E := hid (fmtP_no hv)
    have HV := hid hv
    clear hv
    go_enter Try.func9, Try.ntmps9
    go_wp2_with fail
    with_reducible refine (svalidPool_any p A1 A2 A3 c1 c2 c3 _ hs0 h1 h2 (Nat.le_trans h3 (by decide))).mono ?_
    rintro e w1 ⟨he, hb1⟩
    rw [HV.out] at he
    subst he
    go_wp2
    go_ret
    exact ⟨by rw [E.out]; rfl, hb0.trans (hb1.mono hb0.size)⟩
  have HV := hid hv
  have HO := hid hv
  clear hv
  go_enter Try.func9, Try.ntmps9
  go_wp2_with fail
  with_reducible refine (svalidPool_any p A1 A2 A3 c1 c2 c3 _ hs0 h1 h2 (Nat.le_trans h3 (by decide))).mono ?_
  rintro e w1 ⟨he, hb1⟩
  rw [HV.out] at he
  subst he
  have px1 := px.below hb1 px.lt
  have hB1 := hb0.trans (hb1.mono hb0.size)
  have hs1 := hs0.on hb1
  clear px hb0 hs0 hb1 y0 y1 y2 y3
  obtain ⟨y0, y1, y2, y3⟩ := (⟨px1.cell 0, px1.cell 1, px1.cell 2, px1.cell 3⟩ : _ ∧ _ ∧ _ ∧ _)
  go_wp2_with fail
  with_reducible refine (sformatPool_any p A1 A2 A3 c1 c2 c3 _ hs1 h1 h2 h3 HO.out).mono ?_
  rintro e w2 ⟨rfl, hb2⟩
  go_wp2
  go_ret
  exact ⟨rfl, hB1.trans (hb2.mono hB1.size)⟩

end Go.Proofs.Ytehdbllpiokbnaa

/-
  Plain facts on places ordered by numbers. No condition; nothing of the program's text is used here.
-/
import Derived.Test.YtmpiigjkmodekaaLineMath
namespace Go.Proofs.Ytmpiigjkmodekaa.Lse

/-! Places, ordered by numbers. -/
def frN (l : List Int) (i : Nat) : Int := l.getD i 0
theorem frN_at {l : List Int} {i : Nat} (h : i < l.length) : frN l i = l[i] := by simp [frN, h]
def RpN (l : List Int) (a b : Nat) : Prop := frN l a < frN l b ∨ (frN l a = frN l b ∧ a < b)
def ats (K : List Nat) (i : Nat) : Nat := K.getD i 0
theorem ats_get {K : List Nat} {i : Nat} (h : i < K.length) : ats K i = K[i] := by simp [ats, h]
theorem ats_set {K : List Nat} {i j v : Nat} (h : i < K.length) : ats (K.set i v) j = if i = j then v else ats K j := by
  unfold ats
  rw [List.getD_eq_getElem?_getD, List.getElem?_set, List.getD_eq_getElem?_getD]
  split
  · rename_i e; subst e; rfl
  · rfl
/-- All places below n, in order. -/
def OrdN (l : List Int) (n : Nat) (K : List Nat) : Prop := K.length = n ∧ K.Nodup ∧ (∀ x ∈ K, x < n) ∧ ∀ a b, a < b → b < n → RpN l (ats K a) (ats K b)
theorem OrdN.nil (l : List Int) : OrdN l 0 [] := ⟨rfl, List.nodup_nil, by simp, by omega⟩
/-- The last place n sinks: it stands at i. -/
def SinkN (l : List Int) (n i : Nat) (K : List Nat) : Prop := K.length = n + 1 ∧ K.Nodup ∧ (∀ x ∈ K, x < n + 1) ∧ i ≤ n ∧ ats K i = n ∧
  (∀ a b, a < b → b ≤ n → a ≠ i → b ≠ i → RpN l (ats K a) (ats K b)) ∧ ∀ b, i < b → b ≤ n → frN l n < frN l (ats K b)
theorem sinkN_start {l : List Int} {n : Nat} {K : List Nat} (h : OrdN l n K) : SinkN l n n (K ++ [n]) := by
  obtain ⟨h1, h2, h3, h4⟩ := h
  have ha : ∀ a, a < n → ats (K ++ [n]) a = ats K a := fun a ha => by
    unfold ats
    rw [List.getD_eq_getElem?_getD, List.getD_eq_getElem?_getD, List.getElem?_append_left (by omega)]
  refine ⟨by simp [h1], ?_, ?_, Nat.le_refl _, ?_, ?_, fun b hb1 hb2 => by omega⟩
  · refine List.nodup_append.2 ⟨h2, by simp, ?_⟩
    intro x hx y hy
    rw [List.mem_singleton.1 hy]
    have := h3 x hx
    omega
  · intro x hx
    rcases List.mem_append.1 hx with hx | hx
    · have := h3 x hx; omega
    · rw [List.mem_singleton.1 hx]; omega
  · unfold ats
    rw [List.getD_eq_getElem?_getD, List.getElem?_append_right (by omega), h1, Nat.sub_self]; rfl
  · intro a b hab hbn ha1 hb1
    rw [ha a (by omega), ha b (by omega)]
    exact h4 a b hab (by omega)
def swp (K : List Nat) (i : Nat) : List Nat := (K.set (i - 1) (ats K i)).set i (ats K (i - 1))
theorem swp_perm {K : List Nat} {i : Nat} (h0 : 0 < i) (hi : i < K.length) : (swp K i).Perm K := by
  have h := List.set_set_perm (as := K) (i := i - 1) (j := i) (by omega) hi
  unfold swp
  rw [ats_get hi, ats_get (show i - 1 < K.length by omega)]
  exact h
theorem sinkN_step {l : List Int} {n i : Nat} {K : List Nat} (h : SinkN l n i K) (h0 : 0 < i) (hlt : frN l n < frN l (ats K (i - 1))) : SinkN l n (i - 1) (swp K i) := by
  obtain ⟨h1, h2, h3, h4, h5, h6, h7⟩ := h
  have hp := swp_perm h0 (show i < K.length by omega)
  have e : ∀ j, ats (swp K i) j = if i = j then ats K (i - 1) else if i - 1 = j then ats K i else ats K j := fun j => by
    unfold swp
    rw [ats_set (by rw [List.length_set]; omega), ats_set (by omega)]
  refine ⟨by rw [hp.length_eq, h1], hp.nodup_iff.2 h2, fun x hx => h3 x (hp.mem_iff.1 hx), by omega, ?_, ?_, ?_⟩
  · rw [e, if_neg (by omega), if_pos rfl]; exact h5
  · intro a b hab hbn ha hb
    rw [e, e]
    by_cases c1 : i = a
    · subst c1
      rw [if_pos rfl, if_neg (by omega), if_neg (by omega)]
      exact h6 (i - 1) b (by omega) hbn (by omega) (by omega)
    · rw [if_neg c1, if_neg (by omega)]
      by_cases c2 : i = b
      · subst c2
        rw [if_pos rfl]
        exact h6 a (i - 1) (by omega) (by omega) (by omega) (by omega)
      · rw [if_neg c2, if_neg (by omega)]
        exact h6 a b hab hbn (fun e => c1 e.symm) (fun e => c2 e.symm)
  · intro b hb1 hb2
    rw [e]
    by_cases c1 : i = b
    · rw [if_pos c1]; exact hlt
    · rw [if_neg c1, if_neg (by omega)]; exact h7 b (by omega) hb2
theorem sinkN_end {l : List Int} {n i : Nat} {K : List Nat} (h : SinkN l n i K) (he : i = 0 ∨ ¬ frN l n < frN l (ats K (i - 1))) : OrdN l (n + 1) K := by
  obtain ⟨h1, h2, h3, h4, h5, h6, h7⟩ := h
  refine ⟨h1, h2, h3, fun a b hab hbn => ?_⟩
  by_cases ca : a = i
  · subst ca; rw [h5]; exact .inl (h7 b hab (by omega))
  · by_cases cb : b = i
    · subst cb
      rw [h5]
      have hle : frN l (ats K (b - 1)) ≤ frN l n := by
        rcases he with e | e
        · omega
        · omega
      have hab2 : frN l (ats K a) ≤ frN l (ats K (b - 1)) := by
        by_cases c : a = b - 1
        · rw [c]; exact Int.le_refl _
        · rcases h6 a (b - 1) (by omega) (by omega) (by omega) (by omega) with r | ⟨r, _⟩ <;> omega
      have hne : ats K a ≠ n := by
        intro e
        rw [← h5] at e
        have ha := ats_get (K := K) (i := a) (by omega)
        have hb := ats_get (K := K) (i := b) (by omega)
        rw [ha, hb] at e
        have := (List.getElem_inj h2).1 e
        omega
      have hm : ats K a < n + 1 := h3 _ (by rw [ats_get (by omega)]; exact List.getElem_mem _)
      rcases Int.lt_or_le (frN l (ats K a)) (frN l n) with r | r
      · exact .inl r
      · exact .inr ⟨by omega, by omega⟩
    · exact h6 a b hab (by omega) ca cb
theorem OrdN.lt {l : List Int} {n : Nat} {K : List Nat} (h : OrdN l n K) {i : Nat} (hi : i < n) : ats K i < n := h.2.2.1 _ (by rw [ats_get (by rw [h.1]; exact hi)]; exact List.getElem_mem _)
theorem OrdN.le {l : List Int} {n : Nat} {K : List Nat} (h : OrdN l n K) {a b : Nat} (hab : a ≤ b) (hb : b < n) : frN l (ats K a) ≤ frN l (ats K b) := by
  rcases Nat.eq_or_lt_of_le hab with e | e
  · subst e; exact Int.le_refl _
  · rcases h.2.2.2 a b e hb with r | ⟨r, _⟩ <;> omega
theorem ordN_sink {l : List Int} {n : Nat} : ∀ (i : Nat) (K : List Nat), SinkN l n i K → ∃ K', OrdN l (n + 1) K'
  | 0, K, h => ⟨K, sinkN_end h (.inl rfl)⟩
  | i + 1, K, h => by
    by_cases hlt : frN l n < frN l (ats K i)
    · exact ordN_sink i _ (sinkN_step h (Nat.succ_pos i) hlt)
    · exact ⟨K, sinkN_end h (.inr hlt)⟩
theorem ordN_some (l : List Int) : ∀ n, ∃ K, OrdN l n K
  | 0 => ⟨[], OrdN.nil l⟩
  | n + 1 => by
    obtain ⟨K, h⟩ := ordN_some l n
    exact ordN_sink n _ (sinkN_start h)
end Go.Proofs.Ytmpiigjkmodekaa.Lse

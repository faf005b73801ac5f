/-
  Plain facts on leases ordered by their beginnings, and on how many have a time in common. No condition; nothing of the program's text is used here.
-/
import Derived.Test.YtmaocmgnkdieeaaLeaseMath
import Derived.Test.YtmaocmgnkdieeaaOrdMath
namespace Go.Proofs.Ytmaocmgnkdieeaa.Lse

/-- How many leases have a time. -/
def over (l : List L) (t : Int) : Nat := l.countP fun x => decide (x.f ≤ t ∧ t < x.u)
def mostV (l : List L) : Nat := (l.map fun x => over l x.f).foldl max 0
def mostOf (l : List L) : Int := if validB l = true then (mostV l : Int) else -1
theorem foldl_max : ∀ (xs : List Nat) (m : Nat), m ≤ xs.foldl max m ∧ (∀ x ∈ xs, x ≤ xs.foldl max m) ∧ (xs.foldl max m = m ∨ xs.foldl max m ∈ xs)
  | [], m => by simp
  | x :: xs, m => by
    obtain ⟨h1, h2, h3⟩ := foldl_max xs (max m x)
    simp only [List.foldl_cons]
    refine ⟨by omega, fun y hy => ?_, ?_⟩
    · rcases List.mem_cons.1 hy with e | hy
      · subst e; omega
      · exact h2 y hy
    · rcases h3 with h3 | h3
      · rcases Nat.le_total m x with e | e
        · right; rw [h3, Nat.max_eq_right e]; simp
        · left; rw [h3, Nat.max_eq_left e]
      · exact .inr (List.mem_cons_of_mem _ h3)
theorem most_ge {l : List L} {x : L} (h : x ∈ l) : over l x.f ≤ mostV l := (foldl_max _ 0).2.1 _ (List.mem_map.2 ⟨x, h, rfl⟩)
theorem most_some (l : List L) : mostV l = 0 ∨ ∃ x ∈ l, over l x.f = mostV l := by
  rcases (foldl_max (l.map fun x => over l x.f) 0).2.2 with h | h
  · exact .inl h
  · obtain ⟨x, hx, e⟩ := List.mem_map.1 h
    exact .inr ⟨x, hx, e⟩
/-- The number that is at least all and is one of them. -/
theorem most_is {l : List L} {M : Nat} (h1 : ∀ x ∈ l, over l x.f ≤ M) (h2 : M = 0 ∨ ∃ x ∈ l, over l x.f = M) : mostV l = M := by
  have a : mostV l ≤ M := by
    rcases most_some l with e | ⟨x, hx, e⟩
    · omega
    · have := h1 x hx; omega
  rcases h2 with e | ⟨x, hx, e⟩
  · omega
  · have := most_ge hx; omega
theorem over_le (l : List L) (t : Int) : over l t ≤ l.length := List.countP_le_length
theorem most_le (l : List L) : mostV l ≤ l.length := by
  rcases most_some l with e | ⟨x, _, e⟩
  · omega
  · rw [← e]; exact over_le l _

/-! Places, ordered by the beginnings. -/
def fr (l : List L) (i : Nat) : Int := frN (l.map L.f) i
theorem fr_at {l : List L} {i : Nat} (h : i < l.length) : fr l i = l[i].f := by simp [fr, frN, h]
def Rp (l : List L) (a b : Nat) : Prop := fr l a < fr l b ∨ (fr l a = fr l b ∧ a < b)
/-- All places below n, in order. -/
def Ord (l : List L) (n : Nat) (K : List Nat) : Prop := K.length = n ∧ K.Nodup ∧ (∀ x ∈ K, x < n) ∧ ∀ a b, a < b → b < n → Rp l (ats K a) (ats K b)
theorem ord_of {l : List L} {n : Nat} {K : List Nat} (h : OrdN (l.map L.f) n K) : Ord l n K := h
theorem Ord.lt {l : List L} {n : Nat} {K : List Nat} (h : Ord l n K) {i : Nat} (hi : i < n) : ats K i < n := h.2.2.1 _ (by rw [ats_get (by rw [h.1]; exact hi)]; exact List.getElem_mem _)
theorem Ord.le {l : List L} {n : Nat} {K : List Nat} (h : Ord l n K) {a b : Nat} (hab : a ≤ b) (hb : b < n) : fr l (ats K a) ≤ fr l (ats K b) := by
  rcases Nat.eq_or_lt_of_le hab with e | e
  · subst e; exact Int.le_refl _
  · rcases h.2.2.2 a b e hb with r | ⟨r, _⟩ <;> omega
/-- The leases in that order. -/
def leasesAt (l : List L) (K : List Nat) : List L := K.map fun i => l.getD i ⟨0, 0, 0, 0⟩
theorem leases_perm {l : List L} {K : List Nat} (h : Ord l l.length K) : (leasesAt l K).Perm l := by
  obtain ⟨h1, h2, h3, _⟩ := h
  have hp : K.Perm (List.range l.length) := by
    refine (List.perm_ext_iff_of_nodup h2 List.nodup_range).2 fun x => ?_
    rw [List.mem_range]
    refine ⟨h3 x, fun hx => ?_⟩
    refine Classical.byContradiction fun hn => ?_
    have hs : (x :: K).Nodup := List.nodup_cons.2 ⟨hn, h2⟩
    have hle : (x :: K).length ≤ (List.range l.length).length := by
      have hsub : ∀ y ∈ x :: K, y ∈ List.range l.length := fun y hy => List.mem_range.2 ((List.mem_cons.1 hy).elim (fun e => e ▸ hx) (h3 y))
      exact List.Nodup.length_le_of_subset hs hsub
    simp only [List.length_cons, List.length_range, h1] at hle
    omega
  have := hp.map fun i => l.getD i (⟨0, 0, 0, 0⟩ : L)
  refine this.trans ?_
  have e : (List.range l.length).map (fun i => l.getD i (⟨0, 0, 0, 0⟩ : L)) = l := by
    apply List.ext_getElem
    · simp
    · intro i h1 h2
      simp at h1 ⊢
      simp [h1]
  rw [e]
/-- The leases that end later than a time. -/
def beyond (l : List L) (t : Int) : List L := l.filter fun x => decide (t < x.u)
theorem beyond_yes {l : List L} {k : Nat} (hk : k < l.length) {t : Int} (h : t < l[k].u) : beyond (l.take (k + 1)) t = beyond (l.take k) t ++ [l[k]] := by
  unfold beyond; rw [List.take_succ_eq_append_getElem hk, List.filter_append]; simp [h]
theorem beyond_no {l : List L} {k : Nat} (hk : k < l.length) {t : Int} (h : ¬ t < l[k].u) : beyond (l.take (k + 1)) t = beyond (l.take k) t := by
  unfold beyond; rw [List.take_succ_eq_append_getElem hk, List.filter_append]; simp [h]
theorem beyond_len (l : List L) (t : Int) : (beyond l t).length ≤ l.length := List.length_filter_le _ _
theorem fr_lease {l : List L} {i : Nat} (h : i < l.length) : (l.getD i ⟨0, 0, 0, 0⟩).f = fr l i := by
  rw [fr_at h]; simp [h]

/-! The sweep over the leases in order. -/
theorem sorted_at {l : List L} {K : List Nat} (h : Ord l l.length K) : (leasesAt l K).Pairwise fun x y => x.f ≤ y.f := by
  refine List.pairwise_iff_getElem.2 fun i j hi hj hij => ?_
  have hj' : j < K.length := by simpa [leasesAt] using hj
  have hi' : i < K.length := by simpa [leasesAt] using hi
  have hn := h.1
  have e : ∀ k (hk : k < K.length) (hk2 : k < (leasesAt l K).length), ((leasesAt l K)[k]).f = fr l (ats K k) := fun k hk hk2 => by
    have : (leasesAt l K)[k] = l.getD (ats K k) ⟨0, 0, 0, 0⟩ := by rw [ats_get hk]; simp [leasesAt]
    rw [this]
    exact fr_lease (h.lt (by omega))
  rw [e i hi' hi, e j hj' hj]
  exact h.le (by omega) (by omega)
theorem beyond_twice (l : List L) {s t : Int} (h : s ≤ t) : beyond (beyond l s) t = beyond l t := by
  unfold beyond
  rw [List.filter_filter]
  refine List.filter_congr fun x _ => ?_
  rw [Bool.eq_iff_iff, Bool.and_eq_true, decide_eq_true_eq, decide_eq_true_eq]
  omega
theorem over_app (a b : List L) (t : Int) : over (a ++ b) t = over a t + over b t := by unfold over; exact List.countP_append
theorem beyond_over {l : List L} {t : Int} (h : ∀ x ∈ l, x.f ≤ t) : (beyond l t).length = over l t := by
  unfold beyond over
  rw [← List.countP_eq_length_filter]
  refine List.countP_congr fun x hx => ?_
  have := h x hx
  rw [decide_eq_true_eq, decide_eq_true_eq]
  omega
theorem over_zero {l : List L} {t : Int} (h : ∀ x ∈ l, t < x.f) : over l t = 0 := by
  unfold over
  rw [List.countP_eq_zero]
  intro x hx
  have := h x hx
  rw [decide_eq_true_eq]
  omega
theorem cut_at (t : Int) : ∀ (P : List L), P.Pairwise (fun x y => x.f ≤ y.f) → ∃ m, m ≤ P.length ∧ (∀ x ∈ P.take m, x.f ≤ t) ∧ ∀ x ∈ P.drop m, t < x.f
  | [], _ => ⟨0, by simp, by simp, by simp⟩
  | x :: P, h => by
    rw [List.pairwise_cons] at h
    by_cases hx : x.f ≤ t
    · obtain ⟨m, h1, h2, h3⟩ := cut_at t P h.2
      refine ⟨m + 1, by rw [List.length_cons]; omega, fun y hy => ?_, by simpa using h3⟩
      rw [List.take_succ_cons] at hy
      rcases List.mem_cons.1 hy with e | hy
      · rw [e]; exact hx
      · exact h2 y hy
    · refine ⟨0, by omega, by simp, fun y hy => ?_⟩
      rw [List.drop_zero] at hy
      rcases List.mem_cons.1 hy with e | hy
      · rw [e]; omega
      · have := h.1 y hy; omega
/-- How many of the first leases the sweep holds behind the lease i. -/
def swc (P : List L) (i : Nat) : Nat := (beyond (P.take (i + 1)) (P.getD i ⟨0, 0, 0, 0⟩).f).length
theorem take_le {P : List L} (h : P.Pairwise fun x y => x.f ≤ y.f) {i : Nat} (hi : i < P.length) : ∀ x ∈ P.take (i + 1), x.f ≤ P[i].f := by
  intro x hx
  obtain ⟨j, hj, rfl⟩ := List.getElem_of_mem hx
  rw [List.getElem_take]
  rw [List.length_take] at hj
  rcases Nat.eq_or_lt_of_le (show j ≤ i by omega) with e | e
  · subst e; exact Int.le_refl _
  · exact List.pairwise_iff_getElem.1 h j i (by omega) hi e
theorem swc_over {P : List L} (h : P.Pairwise fun x y => x.f ≤ y.f) {i : Nat} (hi : i < P.length) : swc P i = over (P.take (i + 1)) P[i].f := by
  unfold swc
  have e : P.getD i ⟨0, 0, 0, 0⟩ = P[i] := by simp [hi]
  rw [e]
  exact beyond_over (take_le h hi)
theorem swc_le {P : List L} (h : P.Pairwise fun x y => x.f ≤ y.f) {i : Nat} (hi : i < P.length) : swc P i ≤ over P P[i].f := by
  rw [swc_over h hi]
  have := over_app (P.take (i + 1)) (P.drop (i + 1)) P[i].f
  rw [List.take_append_drop] at this
  omega
theorem swc_some {P : List L} (h : P.Pairwise fun x y => x.f ≤ y.f) {x : L} (hx : x ∈ P) : ∃ i, i < P.length ∧ swc P i = over P x.f := by
  obtain ⟨m, h1, h2, h3⟩ := cut_at x.f P h
  have hxm : x ∈ P.take m := by
    rw [← List.take_append_drop m P] at hx
    rcases List.mem_append.1 hx with hx | hx
    · exact hx
    · have := h3 x hx; omega
  have hm : 0 < m := by
    rcases Nat.eq_zero_or_pos m with e | e
    · subst e; simp at hxm
    · exact e
  obtain ⟨i, rfl⟩ : ∃ i, m = i + 1 := ⟨m - 1, by omega⟩
  have hi : i < P.length := by omega
  have hf : P[i].f = x.f := by
    have a := take_le h hi x hxm
    have b := h2 P[i] (by rw [List.take_succ_eq_append_getElem hi]; exact List.mem_append_right _ (List.mem_singleton.2 rfl))
    omega
  refine ⟨i, hi, ?_⟩
  rw [swc_over h hi, hf]
  have := over_app (P.take (i + 1)) (P.drop (i + 1)) x.f
  rw [List.take_append_drop, over_zero h3] at this
  omega
/-- The sweep has passed k leases, holds the list C, and has held M at most. -/
def Swp (P : List L) (k : Nat) (C : List L) (M : Nat) : Prop := k ≤ P.length ∧ C.length ≤ k ∧ (∀ t, (∀ x ∈ P.take k, x.f ≤ t) → beyond C t = beyond (P.take k) t) ∧ (∀ i, i < k → swc P i ≤ M) ∧ (M = 0 ∨ ∃ i, i < k ∧ swc P i = M)
theorem Swp.nil (P : List L) : Swp P 0 [] 0 := ⟨Nat.zero_le _, by simp, fun t _ => by simp [beyond], by omega, .inl rfl⟩
theorem swp_step {P : List L} {k : Nat} {C : List L} {M : Nat} (hs : P.Pairwise fun x y => x.f ≤ y.f) (h : Swp P k C M) (hk : k < P.length) (hok : P[k].f < P[k].u) :
    Swp P (k + 1) (beyond C P[k].f ++ [P[k]]) (max M (beyond C P[k].f ++ [P[k]]).length) := by
  obtain ⟨h1, h2, h3, h4, h5⟩ := h
  have ht : ∀ x ∈ P.take k, x.f ≤ P[k].f := fun x hx => take_le hs hk x (by rw [List.take_succ_eq_append_getElem hk]; exact List.mem_append_left _ hx)
  have e : beyond C P[k].f ++ [P[k]] = beyond (P.take (k + 1)) P[k].f := by rw [h3 _ ht, beyond_yes hk hok]
  have hg : P.getD k ⟨0, 0, 0, 0⟩ = P[k] := by simp [hk]
  have ec : (beyond (P.take (k + 1)) P[k].f).length = swc P k := by unfold swc; rw [hg]
  rw [e, ec]
  refine ⟨by omega, ?_, fun t hh => ?_, fun i hi => ?_, ?_⟩
  · have := beyond_len (P.take (k + 1)) P[k].f
    rw [List.length_take] at this
    omega
  · exact beyond_twice _ (hh _ (by rw [List.take_succ_eq_append_getElem hk]; exact List.mem_append_right _ (List.mem_singleton.2 rfl)))
  · rcases Nat.eq_or_lt_of_le (show i ≤ k by omega) with c | c
    · subst c; omega
    · have := h4 i c; omega
  · rcases Nat.le_total M (swc P k) with c | c
    · exact .inr ⟨k, by omega, by omega⟩
    · rcases h5 with c2 | ⟨i, hi, c2⟩
      · left; omega
      · right; exact ⟨i, by omega, by omega⟩
theorem swp_end {l : List L} {K : List Nat} {C : List L} {M : Nat} (hK : Ord l l.length K) (h : Swp (leasesAt l K) l.length C M) : mostV l = M := by
  obtain ⟨h1, h2, h3, h4, h5⟩ := h
  have hp := leases_perm hK
  have hs := sorted_at hK
  have hlen := hp.length_eq
  have ho : ∀ t, over (leasesAt l K) t = over l t := fun t => by unfold over; exact hp.countP_eq _
  have hle : ∀ x ∈ l, over l x.f ≤ M := fun x hx => by
    obtain ⟨i, hi, e⟩ := swc_some hs (hp.mem_iff.2 hx)
    rw [← ho, ← e]
    exact h4 i (by omega)
  refine most_is hle ?_
  rcases h5 with e | ⟨i, hi, e⟩
  · exact .inl e
  · right
    have hi' : i < (leasesAt l K).length := by omega
    have hm := hp.mem_iff.1 (List.getElem_mem hi')
    refine ⟨_, hm, ?_⟩
    have a := swc_le hs hi'
    have b := hle _ hm
    rw [ho] at a
    omega
end Go.Proofs.Ytmaocmgnkdieeaa.Lse

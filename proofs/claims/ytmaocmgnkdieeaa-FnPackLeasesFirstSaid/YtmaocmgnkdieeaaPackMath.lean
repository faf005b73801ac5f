/-
  Plain facts on packing: leases in order, each with the least connection that is free. No condition.
-/
import Derived.Test.YtmaocmgnkdieeaaSzM
import Derived.Test.YtmaocmgnkdieeaaAddMath
namespace Go.Proofs.Ytmaocmgnkdieeaa
open Lse

def at0 (l : List L) (p : Nat) : L := l.getD p ⟨0, 0, 0, 0⟩
theorem at0_at {l : List L} {p : Nat} (h : p < l.length) : at0 l p = l[p] := by simp [at0, h]
def put (x : L) (c : Int) : L := ⟨c, x.o, x.f, x.u⟩
def fu (x : L) : Int × Int := (x.f, x.u)
def pk1 (l : List L) (s : List L × List L) (p : Nat) : List L × List L :=
  (s.1.set p (put (at0 l p) (leastFree s.2 (at0 l p).f (at0 l p).u 6)), s.2 ++ [put (at0 l p) (leastFree s.2 (at0 l p).f (at0 l p).u 6)])
def packs (l : List L) (K : List Nat) : List L × List L := K.foldl (pk1 l) (l, [])
theorem packs_snoc (l : List L) (K : List Nat) (p : Nat) : packs l (K ++ [p]) = pk1 l (packs l K) p := by simp [packs]
theorem ats_take {K : List Nat} {k : Nat} (h : k < K.length) : K.take (k + 1) = K.take k ++ [ats K k] := by rw [ats_get h]; exact List.take_succ_eq_append_getElem h
theorem over_fu (l : List L) (t : Int) : over l t = (l.map fu).countP fun q => decide (q.1 ≤ t ∧ t < q.2) := by
  unfold over; rw [List.countP_map]; rfl
structure Pak (l : List L) (K : List Nat) (k : Nat) (O D : List L) : Prop where
  len : O.length = l.length
  done : D = leasesAt O (K.take k)
  same : ∀ p, p < l.length → (at0 O p).o = (at0 l p).o ∧ (at0 O p).f = (at0 l p).f ∧ (at0 O p).u = (at0 l p).u
  fus : D.map fu = ((leasesAt l K).take k).map fu
  fine : Fine D
theorem leasesAt_set {O : List L} {K : List Nat} {p : Nat} {y : L} (h : p ∉ K) : leasesAt (O.set p y) K = leasesAt O K := by
  unfold leasesAt
  refine List.map_congr_left fun i hi => ?_
  have hne : p ≠ i := fun e => h (e ▸ hi)
  rw [List.getD_eq_getElem?_getD, List.getD_eq_getElem?_getD, List.getElem?_set_ne hne]
theorem at0_set {O : List L} {p q : Nat} {y : L} (h : p < O.length) : at0 (O.set p y) q = if p = q then y else at0 O q := by
  unfold at0
  rw [List.getD_eq_getElem?_getD, List.getElem?_set, List.getD_eq_getElem?_getD]
  split
  · rename_i e; subst e; rfl
  · rfl
theorem ats_new {l : List L} {K : List Nat} (hK : Ord l l.length K) {k : Nat} (hk : k < l.length) : ats K k ∉ K.take k := by
  have hkl : k < K.length := by rw [hK.1]; exact hk
  intro h
  have hs := (List.take_sublist (k + 1) K).nodup hK.2.1
  rw [ats_take hkl] at hs
  exact (List.nodup_append.1 hs).2.2 _ h _ (List.mem_singleton.2 rfl) rfl
/-- One is always free, and it is the least. -/
theorem free_some {l : List L} {K : List Nat} (hv : validB l = true) (hK : Ord l l.length K) {k : Nat} {O D : List L} (h : Pak l K k O D) (hk : k < l.length) :
    ∃ c : Nat, c < 6 ∧ leastFree D (at0 l (ats K k)).f (at0 l (ats K k)).u 6 = c ∧ freeB D c (at0 l (ats K k)).f (at0 l (ats K k)).u = true ∧ ∀ j : Nat, j < c → freeB D j (at0 l (ats K k)).f (at0 l (ats K k)).u = false := by
  rcases least_cases D (at0 l (ats K k)).f (at0 l (ats K k)).u 6 with ⟨_, h2⟩ | ⟨c, h1, h2, h3, h4⟩
  · exfalso
    have hs := sorted_at hK
    have hp := leases_perm hK
    have hPl : k < (leasesAt l K).length := by rw [hp.length_eq]; exact hk
    have hkl : k < K.length := by rw [hK.1]; exact hk
    have hx : (leasesAt l K)[k] = at0 l (ats K k) := by rw [ats_get hkl]; simp [leasesAt, at0]
    have hok := L.ok_iff.1 ((validB_iff.1 hv).2.1 _ (hp.mem_iff.1 (List.getElem_mem hPl)))
    rw [hx] at hok
    obtain ⟨x, hxx⟩ : ∃ x, x = at0 l (ats K k) := ⟨_, rfl⟩
    rw [← hxx] at h2 hok hx
    have hle : ∀ z ∈ D, z.f ≤ x.f := fun z hz => by
      have : fu z ∈ ((leasesAt l K).take k).map fu := by rw [← h.fus]; exact List.mem_map.2 ⟨z, hz, rfl⟩
      obtain ⟨y, hy, e⟩ := List.mem_map.1 this
      have hyf : y.f = z.f := congrArg Prod.fst e
      have := take_le hs hPl y (by rw [List.take_succ_eq_append_getElem hPl]; exact List.mem_append_left _ hy)
      rw [hx] at this
      omega
    have h6 : over l x.f ≤ 6 := by rw [← busy_over hv]; exact busy_len l x.f
    have ho : over (leasesAt l K) x.f = over l x.f := by unfold over; exact hp.countP_eq _
    have hD : over D x.f = over ((leasesAt l K).take k) x.f := by rw [over_fu, over_fu, h.fus]
    have h1 : over ((leasesAt l K).take (k + 1)) x.f = over ((leasesAt l K).take k) x.f + 1 := by
      rw [List.take_succ_eq_append_getElem hPl, over_app, hx]
      have : over [x] x.f = 1 := by
        unfold over; rw [List.countP_singleton, if_pos (decide_eq_true (by omega))]
      rw [this]
    have h3 := over_sub (List.take_sublist (k + 1) (leasesAt l K)) x.f
    have h5 : over D x.f ≤ 5 := by omega
    have hsub : ∀ y ∈ (List.range 6).map fun (c : Nat) => (c : Int), y ∈ (D.filter fun z => decide (z.f ≤ x.f ∧ x.f < z.u)).map L.c := by
      intro y hy
      obtain ⟨c, hc, rfl⟩ := List.mem_map.1 hy
      have hf := h2 c (List.mem_range.1 hc)
      have : ¬ ∀ z ∈ D, ¬ hits z c x.f x.u := by rw [← freeB_iff, hf]; simp
      refine Classical.byContradiction fun hn => this fun z hz ht => hn ?_
      refine List.mem_map.2 ⟨z, List.mem_filter.2 ⟨hz, decide_eq_true ⟨hle z hz, ht.2.2⟩⟩, ht.1⟩
    have hnd : ((List.range 6).map fun (c : Nat) => (c : Int)).Nodup := by decide
    have := List.Nodup.length_le_of_subset hnd hsub
    rw [List.length_map, List.length_map, List.length_range, ← List.countP_eq_length_filter] at this
    unfold over at h5
    omega
  · exact ⟨c, h1, h2, h3, h4⟩
theorem pak_step {l : List L} {K : List Nat} (hv : validB l = true) (hK : Ord l l.length K) {k : Nat} {O D : List L} (h : Pak l K k O D) (hk : k < l.length) :
    Pak l K (k + 1) (pk1 l (O, D) (ats K k)).1 (pk1 l (O, D) (ats K k)).2 := by
  obtain ⟨c, c1, c2, c3, c4⟩ := free_some hv hK h hk
  have hkl : k < K.length := by rw [hK.1]; exact hk
  have hpl := hK.lt hk
  have hp := leases_perm hK
  have hPl : k < (leasesAt l K).length := by rw [hp.length_eq]; exact hk
  have hx : (leasesAt l K)[k] = at0 l (ats K k) := by rw [ats_get hkl]; simp [leasesAt, at0]
  have hok := L.ok_iff.1 ((validB_iff.1 hv).2.1 _ (hp.mem_iff.1 (List.getElem_mem hPl)))
  rw [hx] at hok
  unfold pk1
  simp only []
  rw [c2]
  refine ⟨by rw [List.length_set]; exact h.len, ?_, fun p hp => ?_, ?_, ?_⟩
  · rw [ats_take hkl]
    have e : ∀ (X : List L) (a : List Nat) (b : Nat), leasesAt X (a ++ [b]) = leasesAt X a ++ [at0 X b] := fun X a b => by simp [leasesAt, at0]
    rw [e, leasesAt_set (ats_new hK hk), at0_set (by rw [h.len]; exact hpl), if_pos rfl, ← h.done]
  · rw [at0_set (by rw [h.len]; exact hpl)]
    split
    · rename_i e; subst e; exact ⟨rfl, rfl, rfl⟩
    · exact h.same p hp
  · rw [List.map_append, h.fus, List.take_succ_eq_append_getElem hPl, List.map_append, hx]; rfl
  · refine fine_snoc.2 ⟨h.fine, L.ok_iff.2 ?_, c3⟩
    unfold put
    simp only []
    omega
theorem pak_zero (l : List L) (K : List Nat) : Pak l K 0 l [] := ⟨rfl, by simp [leasesAt], fun _ _ => ⟨rfl, rfl, rfl⟩, by simp, Fine.nil⟩
/-- There is one order only. -/
theorem ord_one {l : List L} {K K' : List Nat} (h : Ord l l.length K) (h' : Ord l l.length K') : K = K' := by
  have irr : ∀ a, ¬ Rp l a a := fun a h => by rcases h with h | h <;> omega
  have key : ∀ (K : List Nat), Ord l l.length K → K.Pairwise (Rp l) := fun K h => by
    refine List.pairwise_iff_getElem.2 fun i j hi hj hij => ?_
    rw [← ats_get hi, ← ats_get hj]
    exact h.2.2.2 i j hij (by rw [← h.1]; exact hj)
  have hall : ∀ (K : List Nat), Ord l l.length K → K.Perm (List.range l.length) := fun K h => by
    obtain ⟨h1, h2, h3, _⟩ := h
    refine (List.perm_ext_iff_of_nodup h2 List.nodup_range).2 fun x => ?_
    rw [List.mem_range]
    refine ⟨h3 x, fun hx => Classical.byContradiction fun hn => ?_⟩
    have hs : (x :: K).Nodup := List.nodup_cons.2 ⟨hn, h2⟩
    have hle := List.Nodup.length_le_of_subset hs (l₂ := List.range l.length) (fun y hy => List.mem_range.2 ((List.mem_cons.1 hy).elim (fun e => e ▸ hx) (h3 y)))
    simp only [List.length_cons, List.length_range, h1] at hle
    omega
  refine List.Perm.eq_of_pairwise (le := Rp l) ?_ (key K h) (key K' h') ((hall K h).trans (hall K' h').symm)
  intro a b _ _ h1 h2
  rcases h1 with h1 | h1 <;> rcases h2 with h2 | h2 <;> omega
/-- The least of the places not done, of those below j. -/
def Best (l : List L) (d : List Nat) (j : Nat) (a : Int) : Prop :=
  (a = -1 ∧ ∀ i, i < j → i ∈ d) ∨ ∃ b : Nat, a = b ∧ b < j ∧ b ∉ d ∧ ∀ i, i < j → i ∉ d → fr l b < fr l i ∨ (fr l b = fr l i ∧ b ≤ i)
theorem Best.nil (l : List L) (d : List Nat) : Best l d 0 (-1) := .inl ⟨rfl, by omega⟩
theorem best_done {l : List L} {d : List Nat} {j : Nat} {a : Int} (h : Best l d j a) (hj : j ∈ d) : Best l d (j + 1) a := by
  rcases h with ⟨h1, h2⟩ | ⟨b, h1, h2, h3, h4⟩
  · refine .inl ⟨h1, fun i hi => ?_⟩
    rcases Nat.eq_or_lt_of_le (show i ≤ j by omega) with e | e
    · subst e; exact hj
    · exact h2 i e
  · refine .inr ⟨b, h1, by omega, h3, fun i hi hd => ?_⟩
    rcases Nat.eq_or_lt_of_le (show i ≤ j by omega) with e | e
    · subst e; exact absurd hj hd
    · exact h4 i e hd
theorem best_first {l : List L} {d : List Nat} {j : Nat} {a : Int} (h : Best l d j a) (ha : a < 0) (hj : j ∉ d) : Best l d (j + 1) j := by
  rcases h with ⟨h1, h2⟩ | ⟨b, h1, h2, h3, h4⟩
  · refine .inr ⟨j, rfl, by omega, hj, fun i hi hd => ?_⟩
    rcases Nat.eq_or_lt_of_le (show i ≤ j by omega) with e | e
    · subst e; exact .inr ⟨rfl, Nat.le_refl _⟩
    · exact absurd (h2 i e) hd
  · omega
theorem best_next {l : List L} {d : List Nat} {j b : Nat} (h : Best l d j b) (hj : j ∉ d) : Best l d (j + 1) (if fr l j < fr l b then (j : Int) else (b : Int)) := by
  rcases h with ⟨h1, h2⟩ | ⟨b', h1, h2, h3, h4⟩
  · omega
  · have e : b' = b := by omega
    subst e
    split
    · rename_i hlt
      refine .inr ⟨j, rfl, by omega, hj, fun i hi hd => ?_⟩
      rcases Nat.eq_or_lt_of_le (show i ≤ j by omega) with e | e
      · subst e; exact .inr ⟨rfl, Nat.le_refl _⟩
      · have := h4 i e hd; omega
    · rename_i hlt
      refine .inr ⟨b', rfl, by omega, h3, fun i hi hd => ?_⟩
      rcases Nat.eq_or_lt_of_le (show i ≤ j by omega) with e | e
      · subst e; omega
      · exact h4 i e hd
theorem best_end {l : List L} {K : List Nat} (hK : Ord l l.length K) {k : Nat} (hk : k < l.length) {a : Int} (h : Best l (K.take k) l.length a) : a = (ats K k : Int) := by
  have hn := ats_new hK hk
  have hlt := hK.lt hk
  rcases h with ⟨_, h2⟩ | ⟨b, h1, h2, h3, h4⟩
  · exact absurd (h2 _ hlt) hn
  · have hb := h4 _ hlt hn
    have hmem : b ∈ K := by
      have h' := leases_perm hK
      refine Classical.byContradiction fun hnn => ?_
      have hs : (b :: K).Nodup := List.nodup_cons.2 ⟨hnn, hK.2.1⟩
      have hle := List.Nodup.length_le_of_subset hs (l₂ := List.range l.length) (fun y hy => List.mem_range.2 ((List.mem_cons.1 hy).elim (fun e => e ▸ h2) (hK.2.2.1 y)))
      simp only [List.length_cons, List.length_range, hK.1] at hle
      omega
    obtain ⟨i, hi, e⟩ := List.getElem_of_mem hmem
    rw [← ats_get hi] at e
    have hi' : i < l.length := by rw [← hK.1]; exact hi
    rcases Nat.lt_or_ge i k with c | c
    · exact absurd (by rw [← e, ats_get hi]; exact List.mem_take_iff_getElem.2 ⟨i, by omega, rfl⟩) h3
    · rcases Nat.eq_or_lt_of_le c with c | c
      · rw [h1, ← e, c]
      · have := hK.2.2.2 k i c hi'
        rw [e] at this
        unfold Rp at this
        omega
theorem ord_some (l : List L) (n : Nat) : ∃ K, Ord l n K := ordN_some (l.map L.f) n
end Go.Proofs.Ytmaocmgnkdieeaa

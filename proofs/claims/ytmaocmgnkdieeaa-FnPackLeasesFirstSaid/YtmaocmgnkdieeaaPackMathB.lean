/-
  Plain facts on packing for the drawn laws: who got which connection, and why. No condition.
-/
import Derived.Test.YtmaocmgnkdieeaaPackMath
namespace Go.Proofs.Ytmaocmgnkdieeaa
open Lse

theorem pak_le {l : List L} {K : List Nat} (hK : Ord l l.length K) {k : Nat} {O D : List L} (h : Pak l K k O D) (hk : k < l.length) : ∀ z ∈ D, z.f ≤ (at0 l (ats K k)).f := by
  have hs := sorted_at hK
  have hp := leases_perm hK
  have hPl : k < (leasesAt l K).length := by rw [hp.length_eq]; exact hk
  have hkl : k < K.length := by rw [hK.1]; exact hk
  have hx : (leasesAt l K)[k] = at0 l (ats K k) := by rw [ats_get hkl]; simp [leasesAt, at0]
  intro z hz
  have : fu z ∈ ((leasesAt l K).take k).map fu := by rw [← h.fus]; exact List.mem_map.2 ⟨z, hz, rfl⟩
  obtain ⟨y, hy, e⟩ := List.mem_map.1 this
  have hyf : y.f = z.f := congrArg Prod.fst e
  have := take_le hs hPl y (by rw [List.take_succ_eq_append_getElem hPl]; exact List.mem_append_left _ hy)
  rw [hx] at this
  omega
/-- What the j-th one done got: a connection such that all lesser ones were in use. -/
def Got (l : List L) (K : List Nat) (O : List L) (j : Nat) : Prop :=
  ∃ c : Nat, at0 O (ats K j) = put (at0 l (ats K j)) c ∧ ∀ i : Nat, i < c → ∃ z ∈ leasesAt O (K.take j), z.c = (i : Int) ∧ z.f ≤ (at0 l (ats K j)).f ∧ (at0 l (ats K j)).f < z.u
theorem got_step {l : List L} {K : List Nat} (hv : validB l = true) (hK : Ord l l.length K) {k : Nat} {O D : List L} (h : Pak l K k O D) (hk : k < l.length) (hg : ∀ j, j < k → Got l K O j) :
    ∀ j, j < k + 1 → Got l K (pk1 l (O, D) (ats K k)).1 j := by
  obtain ⟨c, c1, c2, c3, c4⟩ := free_some hv hK h hk
  have hnew := ats_new hK hk
  have hle := pak_le hK h hk
  have hpl : ats K k < O.length := by rw [h.len]; exact hK.lt hk
  have hkl : k < K.length := by rw [hK.1]; exact hk
  unfold pk1
  simp only []
  rw [c2]
  intro j hj
  by_cases e : j = k
  · subst e
    refine ⟨c, by rw [at0_set hpl, if_pos rfl], fun i hi => ?_⟩
    have hf := c4 i hi
    have hn : ¬ ∀ z ∈ D, ¬ hits z i (at0 l (ats K j)).f (at0 l (ats K j)).u := by rw [← freeB_iff, hf]; simp
    obtain ⟨z, hz, ht⟩ : ∃ z ∈ D, hits z i (at0 l (ats K j)).f (at0 l (ats K j)).u := Classical.byContradiction fun hh => hn fun z hz ht => hh ⟨z, hz, ht⟩
    exact ⟨z, by rw [leasesAt_set hnew, ← h.done]; exact hz, ht.1, hle z hz, ht.2.2⟩
  · have hjk : j < k := by omega
    obtain ⟨c', e1, e2⟩ := hg j hjk
    have hm : ats K j ∈ K.take k := by rw [ats_get (by omega)]; exact List.mem_take_iff_getElem.2 ⟨j, by omega, rfl⟩
    have hne : ats K k ≠ ats K j := fun e => hnew (e ▸ hm)
    refine ⟨c', by rw [at0_set hpl, if_neg hne, e1], fun i hi => ?_⟩
    have hnj : ats K k ∉ K.take j := fun hh => hnew (by rw [show K.take j = (K.take k).take j by rw [List.take_take, Nat.min_eq_left (by omega)]] at hh; exact List.mem_of_mem_take hh)
    rw [leasesAt_set hnj]
    exact e2 i hi
theorem got_all {l : List L} {K : List Nat} (hv : validB l = true) (hK : Ord l l.length K) : ∀ k, k ≤ l.length → Pak l K k (packs l (K.take k)).1 (packs l (K.take k)).2 ∧ ∀ j, j < k → Got l K (packs l (K.take k)).1 j
  | 0, _ => ⟨by simpa [packs] using pak_zero l K, fun j hj => absurd hj (by omega)⟩
  | k + 1, hk => by
    obtain ⟨h, hg⟩ := got_all hv hK k (by omega)
    have h1 := pak_step hv hK h (show k < l.length by omega)
    have h2 := got_step hv hK h (show k < l.length by omega) hg
    rw [ats_take (show k < K.length by rw [hK.1]; omega), packs_snoc]
    exact ⟨h1, h2⟩
theorem at_mem {l : List L} {K : List Nat} (hK : Ord l l.length K) {p : Nat} (hp : p < l.length) : ∃ j, j < l.length ∧ ats K j = p := by
  have hm : p ∈ K := by
    refine Classical.byContradiction fun hnn => ?_
    have hs : (p :: K).Nodup := List.nodup_cons.2 ⟨hnn, hK.2.1⟩
    have hle := List.Nodup.length_le_of_subset hs (l₂ := List.range l.length) (fun y hy => List.mem_range.2 ((List.mem_cons.1 hy).elim (fun e => e ▸ hp) (hK.2.2.1 y)))
    simp only [List.length_cons, List.length_range, hK.1] at hle
    omega
  obtain ⟨j, hj, e⟩ := List.getElem_of_mem hm
  exact ⟨j, by rw [← hK.1]; exact hj, by rw [ats_get hj]; exact e⟩
theorem mem_at {l O : List L} {K : List Nat} (hK : Ord l l.length K) {j : Nat} {z : L} (hz : z ∈ leasesAt O (K.take j)) : ∃ q, q < l.length ∧ z = at0 O q := by
  unfold leasesAt at hz
  obtain ⟨q, hq, e⟩ := List.mem_map.1 hz
  exact ⟨q, hK.2.2.1 q (List.mem_of_mem_take hq), e.symm⟩
theorem list_fu {l O : List L} (hl : O.length = l.length) (hs : ∀ p, p < l.length → (at0 O p).o = (at0 l p).o ∧ (at0 O p).f = (at0 l p).f ∧ (at0 O p).u = (at0 l p).u) : O.map fu = l.map fu := by
  refine List.ext_getElem (by simp [hl]) fun p h1 h2 => ?_
  simp only [List.length_map] at h1 h2
  have := hs p h2
  rw [at0_at h1, at0_at h2] at this
  simp only [List.getElem_map, fu]
  rw [this.2.1, this.2.2]
theorem most_fu {l O : List L} (h : O.map fu = l.map fu) : mostV O = mostV l := by
  have e : ∀ l : List L, mostV l = ((l.map fu).map fun q => (l.map fu).countP fun r => decide (r.1 ≤ q.1 ∧ q.1 < r.2)).foldl max 0 := fun l => by
    unfold mostV
    rw [List.map_map]
    congr 1
    refine List.map_congr_left fun x _ => ?_
    rw [over_fu]
    rfl
  rw [e O, e l, h]
theorem got_lt {l : List L} {K : List Nat} (hv : validB l = true) (hK : Ord l l.length K) {O : List L} (hs : ∀ p, p < l.length → (at0 O p).o = (at0 l p).o ∧ (at0 O p).f = (at0 l p).f ∧ (at0 O p).u = (at0 l p).u)
    {j : Nat} (hj : j < l.length) (hg : Got l K O j) : (at0 O (ats K j)).c < (mostV l : Int) ∧ 0 ≤ (at0 O (ats K j)).c := by
  obtain ⟨c, e, hc⟩ := hg
  rw [e]
  have hkl : j < K.length := by rw [hK.1]; exact hj
  have hp := leases_perm hK
  have hPl : j < (leasesAt l K).length := by rw [hp.length_eq]; exact hj
  have hx : (leasesAt l K)[j] = at0 l (ats K j) := by rw [ats_get hkl]; simp [leasesAt, at0]
  have hok := L.ok_iff.1 ((validB_iff.1 hv).2.1 _ (hp.mem_iff.1 (List.getElem_mem hPl)))
  rw [hx] at hok
  obtain ⟨x, hxx⟩ : ∃ x, x = at0 l (ats K j) := ⟨_, rfl⟩
  rw [← hxx] at hok hx hc ⊢
  show (c : Int) < _ ∧ 0 ≤ (c : Int)
  -- as many lesser ones are in use
  have hsub : ∀ y ∈ (List.range c).map fun (i : Nat) => (i : Int), y ∈ ((leasesAt O (K.take j)).filter fun z => decide (z.f ≤ x.f ∧ x.f < z.u)).map L.c := by
    intro y hy
    obtain ⟨i, hi, rfl⟩ := List.mem_map.1 hy
    obtain ⟨z, hz, z1, z2, z3⟩ := hc i (List.mem_range.1 hi)
    exact List.mem_map.2 ⟨z, List.mem_filter.2 ⟨hz, decide_eq_true ⟨z2, z3⟩⟩, z1⟩
  have hnd : ((List.range c).map fun (i : Nat) => (i : Int)).Nodup := List.Pairwise.map _ (fun a b (h : a ≠ b) => (by omega : (a : Int) ≠ (b : Int))) List.nodup_range
  have hle := List.Nodup.length_le_of_subset hnd hsub
  rw [List.length_map, List.length_map, List.length_range, ← List.countP_eq_length_filter] at hle
  have e1 : over (leasesAt O (K.take j)) x.f = over ((leasesAt l K).take j) x.f := by
    rw [over_fu, over_fu]
    congr 1
    unfold leasesAt
    rw [← List.map_take, List.map_map, List.map_map]
    refine List.map_congr_left fun q hq => ?_
    have := hs q (hK.2.2.1 q (List.mem_of_mem_take hq))
    show fu (at0 O q) = fu (at0 l q)
    unfold fu
    rw [this.2.1, this.2.2]
  have h1 : over ((leasesAt l K).take (j + 1)) x.f = over ((leasesAt l K).take j) x.f + 1 := by
    rw [List.take_succ_eq_append_getElem hPl, over_app, hx]
    have : over [x] x.f = 1 := by
      unfold over; rw [List.countP_singleton, if_pos (decide_eq_true (by omega))]
    rw [this]
  have h3 := over_sub (List.take_sublist (j + 1) (leasesAt l K)) x.f
  have ho : over (leasesAt l K) x.f = over l x.f := by unfold over; exact hp.countP_eq _
  have h4 := over_any l x.f
  have h5 : c ≤ over (leasesAt O (K.take j)) x.f := by unfold over; exact hle
  omega
/-- All of it. -/
theorem pack_facts {l : List L} {K : List Nat} (hv : validB l = true) (hK : Ord l l.length K) : ∃ O, O = (packs l K).1 ∧ O.length = l.length ∧ mostV O = mostV l ∧
    (∀ p, p < l.length → ((at0 O p).o = (at0 l p).o ∧ (at0 O p).f = (at0 l p).f ∧ (at0 O p).u = (at0 l p).u) ∧ (at0 O p).c < (mostV l : Int) ∧ 0 ≤ (at0 O p).c) ∧
    (0 < l.length → ∃ p, p < l.length ∧ (at0 O p).c = 0) ∧
    (∀ p, p < l.length → (at0 O p).c = 0 ∨ ∃ q, q < l.length ∧ (at0 O q).c = (at0 O p).c - 1 ∧ (at0 O q).f ≤ (at0 O p).f ∧ (at0 O p).f < (at0 O q).u) := by
  obtain ⟨h, hg⟩ := got_all hv hK l.length (Nat.le_refl _)
  rw [show K.take l.length = K by rw [← hK.1, List.take_length]] at h hg
  obtain ⟨O, hO⟩ : ∃ O, O = (packs l K).1 := ⟨_, rfl⟩
  rw [← hO] at h hg
  refine ⟨O, hO, h.len, most_fu (list_fu h.len h.same), fun p hp => ⟨h.same p hp, ?_⟩, fun h0 => ?_, fun p hp => ?_⟩
  · obtain ⟨j, hj, e⟩ := at_mem hK hp
    have := got_lt hv hK h.same hj (hg j hj)
    rwa [e] at this
  · obtain ⟨c, e, hc⟩ := hg 0 h0
    refine ⟨ats K 0, hK.lt h0, ?_⟩
    rw [e]
    show (c : Int) = 0
    rcases Nat.eq_zero_or_pos c with hz | hz
    · rw [hz]; rfl
    · obtain ⟨z, hz, _⟩ := hc 0 hz
      simp [leasesAt] at hz
  · obtain ⟨j, hj, e⟩ := at_mem hK hp
    obtain ⟨c, e1, hc⟩ := hg j hj
    rw [e] at e1 hc
    have ec : (at0 O p).c = (c : Int) := by rw [e1]; rfl
    have ef : (at0 O p).f = (at0 l p).f := by rw [e1]; rfl
    rcases Nat.eq_zero_or_pos c with hz | hz
    · left; rw [ec, hz]; rfl
    · right
      obtain ⟨z, hz', z1, z2, z3⟩ := hc (c - 1) (by omega)
      obtain ⟨q, hq, rfl⟩ := mem_at hK hz'
      exact ⟨q, hq, by rw [z1, ec]; omega, by rw [ef]; exact z2, by rw [ef]; exact z3⟩
end Go.Proofs.Ytmaocmgnkdieeaa

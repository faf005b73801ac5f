/-
  How the generator of PackLeases draws; plain facts on packing twice. Condition: the code lies in memory.
-/
import Derived.Test.YtmaocmgnkdieeaaSzK
import Derived.Test.YtmaocmgnkdieeaaSzG
namespace Go.Proofs.Ytmaocmgnkdieeaa
open Go.RowKit Lse

theorem ord_mem {l : List L} {K : List Nat} (hK : Ord l l.length K) {p : Nat} (hp : p < l.length) : p ∈ K := by
  refine Classical.byContradiction fun hnn => ?_
  have hs : (p :: K).Nodup := List.nodup_cons.2 ⟨hnn, hK.2.1⟩
  have hle := List.Nodup.length_le_of_subset hs (l₂ := List.range l.length) (fun y hy => List.mem_range.2 ((List.mem_cons.1 hy).elim (fun e => e ▸ hp) (hK.2.2.1 y)))
  simp only [List.length_cons, List.length_range, hK.1] at hle
  omega
theorem pak_all {l : List L} {K : List Nat} (hv : validB l = true) (hK : Ord l l.length K) : ∀ k, k ≤ l.length → Pak l K k (packs l (K.take k)).1 (packs l (K.take k)).2
  | 0, _ => by simpa [packs] using pak_zero l K
  | k + 1, hk => by
    have h := pak_step hv hK (pak_all hv hK k (by omega)) (show k < l.length by omega)
    rw [ats_take (show k < K.length by rw [hK.1]; omega), packs_snoc]
    exact h
theorem fold_like {l l' : List L} (hs : ∀ p, (at0 l' p).o = (at0 l p).o ∧ (at0 l' p).f = (at0 l p).f ∧ (at0 l' p).u = (at0 l p).u) : ∀ (K : List Nat) (s s' : List L × List L), s'.2 = s.2 → s'.1.length = s.1.length →
    (K.foldl (pk1 l') s').2 = (K.foldl (pk1 l) s).2 ∧ ∀ p, (p ∈ K ∨ s'.1[p]? = s.1[p]?) → (K.foldl (pk1 l') s').1[p]? = (K.foldl (pk1 l) s).1[p]?
  | [], s, s', h1, _ => ⟨h1, fun p hp => by
    rcases hp with hp | hp
    · cases hp
    · exact hp⟩
  | q :: K, s, s', h1, h2 => by
    obtain ⟨e1, e2, e3⟩ := hs q
    have ey : put (at0 l' q) (leastFree s'.2 (at0 l' q).f (at0 l' q).u 6) = put (at0 l q) (leastFree s.2 (at0 l q).f (at0 l q).u 6) := by
      unfold put; rw [h1, e1, e2, e3]
    have ih := fold_like hs K (pk1 l s q) (pk1 l' s' q) (by unfold pk1; simp only []; rw [ey, h1]) (by unfold pk1; simp only [List.length_set]; exact h2)
    refine ⟨ih.1, fun p hp => ih.2 p ?_⟩
    unfold pk1
    simp only []
    rw [ey]
    by_cases hq : q = p
    · subst hq
      right
      rw [List.getElem?_set, List.getElem?_set, if_pos rfl, if_pos rfl, h2]
    · rcases hp with hp | hp
      · rcases List.mem_cons.1 hp with e | hp
        · exact absurd e.symm hq
        · exact .inl hp
      · right
        rw [List.getElem?_set_ne hq, List.getElem?_set_ne hq]
        exact hp
theorem fr_at0 (l : List L) (i : Nat) : fr l i = (at0 l i).f := by
  unfold fr frN at0
  rw [List.getD_eq_getElem?_getD, List.getD_eq_getElem?_getD, List.getElem?_map]
  cases l[i]? <;> rfl
theorem pack_twice {l : List L} (hv : validB l = true) : validB (packE l) = true ∧ packE (packE l) = packE l ∧ (packE l).length = l.length := by
  obtain ⟨K, hK⟩ := ord_some l l.length
  have hp := pak_all hv hK l.length (Nat.le_refl _)
  have e1 : packE l = (packs l K).1 := by rw [packE_is hK]; unfold packL; rw [if_pos hv]
  rw [← hK.1, List.take_length] at hp
  rw [hK.1] at hp
  rw [← e1] at hp
  obtain ⟨O, hO⟩ : ∃ O, O = packE l := ⟨_, rfl⟩
  rw [← hO] at hp e1 ⊢
  have hl := hp.len
  have hs : ∀ p, (at0 O p).o = (at0 l p).o ∧ (at0 O p).f = (at0 l p).f ∧ (at0 O p).u = (at0 l p).u := fun p => by
    rcases Nat.lt_or_ge p l.length with h | h
    · exact hp.same p h
    · have a : at0 O p = ⟨0, 0, 0, 0⟩ := by unfold at0; rw [List.getD_eq_getElem?_getD, List.getElem?_eq_none (by omega)]; rfl
      have b : at0 l p = ⟨0, 0, 0, 0⟩ := by unfold at0; rw [List.getD_eq_getElem?_getD, List.getElem?_eq_none (by omega)]; rfl
      rw [a, b]; exact ⟨rfl, rfl, rfl⟩
  have hfr : ∀ i, fr O i = fr l i := fun i => by rw [fr_at0, fr_at0]; exact (hs i).2.1
  have hKO : Ord O O.length K := by
    obtain ⟨k1, k2, k3, k4⟩ := hK
    rw [hl]
    refine ⟨k1, k2, k3, fun a b hab hb => ?_⟩
    have := k4 a b hab hb
    unfold Rp at this ⊢
    rw [hfr, hfr]; exact this
  have hfine : Fine O := by
    have h1 := hp.fine
    rw [hp.done] at h1
    have e : K.take l.length = K := by rw [← hK.1, List.take_length]
    rw [e] at h1
    exact fine_perm (leases_perm hKO) h1
  have hvO : validB O = true := validB_iff.2 ⟨by rw [hl]; exact (validB_iff.1 hv).1, hfine⟩
  refine ⟨hvO, ?_, hl⟩
  have e2 : packE O = (packs O K).1 := by rw [packE_is hKO]; unfold packL; rw [if_pos hvO]
  rw [e2]
  have hf := (fold_like hs K (l, []) (O, []) rfl hl).2
  have l1 : (packs O K).1.length = O.length := packs_len O K (O, [])
  apply List.ext_getElem?
  intro i
  rcases Nat.lt_or_ge i l.length with h | h
  · have := hf i (.inl (ord_mem hK h))
    exact this.trans (congrArg (fun z : List L => z[i]?) e1.symm)
  · rw [List.getElem?_eq_none (by omega), List.getElem?_eq_none (by omega)]
set_option maxHeartbeats 1000000 in
theorem drawPackLeases_any (A : Option Addr) (n c : Nat) (zs : List Int) (w : World) (h : Sees w w.heap.size A (byts zs)) (hz : ∀ z ∈ zs, 0 ≤ z ∧ z ≤ 255) (hn : zs.length = n) (hc : n ≤ c) (hm : n ≤ 1048576) (hcc : c ≤ maxLen) :
    Calls Try.prog 6 #[.slice A n c] w (Draw0 w) := by
  have HZ := hid hz
  have HE := hid hn
  have HC := hid hcc
  clear hz hn hcc
  go_enter Try.func6, Try.ntmps6
  go_wp2_with fail
  refine (newReader_any A n c zs _ h HZ.out HE.out hc hm HC.out).mono ?_
  rintro e w1 ⟨rfl, hb1, hr1⟩
  go_wp2_with fail
  refine (anyLeases_any w.heap.size 0 _ hr1 (by omega)).mono ?_
  rintro e w2 ⟨A2, c2, l, q, rfl, ho, hl, hg2, hr2, hq⟩
  have gl : GL w1 w2 w.heap.size q (.slice A2 l.length c2) l := ⟨ho, hr2, hg2, hr1.lt⟩
  go_wp2
  go_ret
  exact ⟨A2, c2, l, rfl, DL.of_gl hb1 gl hl⟩

end Go.Proofs.Ytmaocmgnkdieeaa

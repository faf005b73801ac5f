/-
  Plain facts on adding leases. No condition.
-/
import Derived.Test.YtmaocmgnkdieeaaLsH
import Derived.Test.YtmaocmgnkdieeaaLeaseMathB
import Derived.Test.YtmaocmgnkdieeaaLsF
namespace Go.Proofs.Ytmaocmgnkdieeaa
open Go.RowKit Lse

theorem add_order {l : List L} {x y : L} (h : addB l x = true) : addB (l ++ [x]) y = (addB l y && addB (addL l y) x) := by
  have h' := h
  simp only [addB, Bool.and_eq_true] at h'
  obtain ⟨h1, h2⟩ := h'
  have e1 : addB (l ++ [x]) y = validB (l ++ [x] ++ [y]) := by simp only [addB, h2, Bool.true_and]
  have e2 : addB l y = validB (l ++ [y]) := by simp only [addB, h1, Bool.true_and]
  rw [e1, e2]
  rcases hy : validB (l ++ [y]) with _ | _
  · rw [Bool.false_and, Bool.eq_false_iff]
    intro hh
    have hs : (l ++ [y]).Sublist (l ++ [x] ++ [y]) := List.Sublist.append (List.sublist_append_left l [x]) (List.Sublist.refl _)
    rw [valid_sub hh hs] at hy
    cases hy
  · have e3 : addL l y = l ++ [y] := add_yes (by rw [e2, hy])
    rw [Bool.true_and, e3, order_any]
    simp only [addB, hy, Bool.true_and]
theorem least_cases (l : List L) (f u : Int) (m : Nat) : (leastFree l f u m = -1 ∧ ∀ j : Nat, j < m → freeB l j f u = false) ∨ ∃ k : Nat, k < m ∧ leastFree l f u m = k ∧ freeB l k f u = true ∧ ∀ j : Nat, j < k → freeB l j f u = false := by
  induction m with
  | zero => exact .inl ⟨least_no (by omega), by omega⟩
  | succ m ih =>
    rcases ih with ⟨h1, h2⟩ | ⟨k, h1, h2, h3, h4⟩
    · rcases hx : freeB l m f u with _ | _
      · exact .inl ⟨least_no (below_step h2 hx), below_step h2 hx⟩
      · exact .inr ⟨m, by omega, least_at (by omega) h2 hx, hx, h2⟩
    · exact .inr ⟨k, by omega, least_at (by omega) h4 h3, h3, h4⟩
theorem free_ge (l : List L) (m f u : Int) : -1 ≤ freeFor l m f u ∧ freeFor l m f u < 6 := by
  unfold freeFor
  split
  · rename_i h
    simp only [Bool.and_eq_true, inB_iff] at h
    rcases least_cases l f u m.toNat with ⟨h1, _⟩ | ⟨k, h1, h2, _⟩ <;> omega
  · omega
theorem free_found {l : List L} {m f u : Int} (h : 0 ≤ freeFor l m f u) (hl : l.length < 12) : ∃ n : Nat, freeFor l m f u = n ∧ (n : Int) < m ∧ ∀ k : Nat, k ≤ n → addB l ⟨k, 1, f, u⟩ = decide (k = n) := by
  unfold freeFor at h ⊢
  split at h
  · rename_i hh
    rw [if_pos hh]
    simp only [Bool.and_eq_true, inB_iff] at hh
    obtain ⟨hv, ⟨hm1, hm2⟩, ht⟩ := hh
    unfold timesB at ht
    have ht := of_decide_eq_true ht
    rcases least_cases l f u m.toNat with ⟨h1, _⟩ | ⟨n, h1, h2, h3, h4⟩
    · omega
    · refine ⟨n, h2, by omega, fun k hk => ?_⟩
      have e1 : addB l ⟨k, 1, f, u⟩ = validB (l ++ [⟨k, 1, f, u⟩]) := by simp only [addB, hv, Bool.true_and]
      have hok : L.ok ⟨k, 1, f, u⟩ = true := L.ok_iff.2 (by simp only []; omega)
      rw [e1, Bool.eq_iff_iff, validB_iff, fine_snoc, decide_eq_true_eq]
      have hf := (validB_iff.1 hv).2
      constructor
      · rintro ⟨_, _, _, h5⟩
        rcases Nat.lt_or_ge k n with e | e
        · simp only [] at h5; rw [h4 k e] at h5; cases h5
        · omega
      · rintro rfl
        exact ⟨by simp; omega, hf, hok, h3⟩
  · omega
theorem free_none (m f u : Int) : freeFor [] m f u = -1 ∨ freeFor [] m f u = 0 := by
  unfold freeFor
  split
  · rename_i h
    simp only [Bool.and_eq_true, inB_iff] at h
    right
    exact least_at (k := 0) (by omega) (by omega) (freeB_iff.2 (by simp))
  · exact .inl rfl
theorem free_more (l : List L) (m f u : Int) : freeFor [] m f u = 0 → ¬ m = 6 → 1 ≤ m ∧ m ≤ 5 ∧ (¬ freeFor l m f u = -1 → freeFor l (m + 1) f u = freeFor l m f u) := by
  intro h h6
  have hb : inB m 1 6 = true ∧ timesB f u = true := by
    unfold freeFor at h
    split at h
    · rename_i hh
      simp only [Bool.and_eq_true] at hh
      exact ⟨hh.2.1, hh.2.2⟩
    · omega
  obtain ⟨hm, ht⟩ := hb
  have hm' := inB_iff.1 hm
  refine ⟨by omega, by omega, fun hne => ?_⟩
  by_cases hv : validB l = true
  · rw [ff_yes hv hm ht] at hne ⊢
    rw [ff_yes hv (inB_iff.2 ⟨by omega, by omega⟩) ht]
    rcases least_cases l f u m.toNat with ⟨h1, _⟩ | ⟨n, h1, h2, h3, h4⟩
    · exact absurd h1 hne
    · rw [h2]
      exact least_at (by omega) h4 h3
  · exact absurd (ff_no (by simp [hv])) hne
theorem add_owner {l : List L} {x : L} (h1 : validB l = true) (h2 : validB (l ++ [x]) = true) : ownerAt (l ++ [x]) x.c x.f = x.o ∧ ownerAt l x.c x.f = -1 := by
  refine ⟨(owner_ends h2 (by simp)).1, ?_⟩
  have e : ownerAt l x.c x.f = first l x.c x.f := by simp [ownerAt, h1]
  rw [e]
  obtain ⟨_, hok, hfr⟩ := fine_snoc.1 (validB_iff.1 h2).2
  have hx := L.ok_iff.1 hok
  refine first_none fun y hy => ?_
  rw [Bool.eq_false_iff, ne_eq, hasAt_iff]
  rintro ⟨r1, r2, r3⟩
  exact freeB_iff.1 hfr y hy ⟨r1, by omega, by omega⟩
/-- The cells of an element of a list of the call's own, at an address that is known. -/
theorem own_cells {w : World} {base n c : Nat} {b o : Nat} {l : List L} {x : L} {k : Nat} (h : OwnL w base (.slice (some ⟨b, o, none⟩) n c) l) (hk : k < l.length) (hx : l[k] = x) :
    w.cell? ⟨b, o + k * 4, none⟩ = some (.int .i64 x.c) ∧ w.cell? ⟨b, o + k * 4 + 1, none⟩ = some (.int .i64 x.o) ∧ w.cell? ⟨b, o + k * 4 + 2, none⟩ = some (.int .i64 x.f) ∧ w.cell? ⟨b, o + k * 4 + 3, none⟩ = some (.int .i64 x.u) := by
  obtain ⟨b', o', e, _, h0, h1, h2, h3⟩ := (show Sees w w.heap.size (some ⟨b, o, none⟩) (lvals l) from OwnS.sees h).lease hk
  injection e with e
  injection e with e1 e2
  subst e1 e2
  rw [hx] at h0 h1 h2 h3
  exact ⟨h0, h1, h2, h3⟩
end Go.Proofs.Ytmaocmgnkdieeaa

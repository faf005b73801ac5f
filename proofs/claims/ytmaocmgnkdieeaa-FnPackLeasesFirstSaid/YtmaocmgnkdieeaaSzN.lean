/-
  Plain facts on packing for the drawn laws: what was packed. No condition.
-/
import Derived.Test.YtmaocmgnkdieeaaSzL
import Derived.Test.YtmaocmgnkdieeaaPackMathB
import Derived.Test.YtmaocmgnkdieeaaSzD
namespace Go.Proofs.Ytmaocmgnkdieeaa
open Go.RowKit Lse

theorem pack_law {l : List L} (hv : validB l = true) : mostOf (packE l) = mostOf l ∧ (packE l).length = l.length ∧
    ∀ p (h : p < l.length) (h' : p < (packE l).length), (packE l)[p].o = l[p].o ∧ (packE l)[p].f = l[p].f ∧ (packE l)[p].u = l[p].u ∧ (packE l)[p].c < mostOf l := by
  obtain ⟨K, hK⟩ := ord_some l l.length
  obtain ⟨O, e0, h1, h2, h3, _, _⟩ := pack_facts hv hK
  have e1 : packE l = O := by rw [packE_is hK, e0]; unfold packL; rw [if_pos hv]
  have hv2 := (pack_twice hv).1
  rw [e1] at hv2 ⊢
  rw [most_yes hv2, most_yes hv, h2]
  refine ⟨rfl, h1, fun p h h' => ?_⟩
  obtain ⟨⟨a, b, c⟩, d, _⟩ := h3 p h
  rw [at0_at h', at0_at h] at a b c
  rw [at0_at h'] at d
  exact ⟨a, b, c, d⟩
theorem pack_first {l : List L} (hv : validB l = true) : (0 < (packE l).length → ∃ p, ∃ h : p < (packE l).length, (packE l)[p].c = 0) ∧
    ∀ p (h : p < (packE l).length), (0 ≤ (packE l)[p].c ∧ (packE l)[p].c ≤ 12) ∧ ((packE l)[p].c = 0 ∨ ∃ q, ∃ h' : q < (packE l).length, (packE l)[q].c = (packE l)[p].c - 1 ∧ (packE l)[q].f ≤ (packE l)[p].f ∧ (packE l)[p].f < (packE l)[q].u) := by
  obtain ⟨K, hK⟩ := ord_some l l.length
  obtain ⟨O, e0, h1, h2, h3, h4, h5⟩ := pack_facts hv hK
  have e1 : packE l = O := by rw [packE_is hK, e0]; unfold packL; rw [if_pos hv]
  rw [e1]
  have hl := (validB_iff.1 hv).1
  have hm := most_le l
  refine ⟨fun h0 => ?_, fun p h => ?_⟩
  · obtain ⟨p, hp, e⟩ := h4 (by omega)
    refine ⟨p, by omega, ?_⟩
    rwa [at0_at (by omega)] at e
  · obtain ⟨_, d, d'⟩ := h3 p (by omega)
    rw [at0_at h] at d d'
    refine ⟨by omega, ?_⟩
    rcases h5 p (by omega) with e | ⟨q, hq, q1, q2, q3⟩
    · rw [at0_at h] at e; exact .inl e
    · rw [at0_at h, at0_at (show q < O.length by omega)] at q1
      rw [at0_at h, at0_at (show q < O.length by omega)] at q2
      rw [at0_at h, at0_at (show q < O.length by omega)] at q3
      exact .inr ⟨q, by omega, q1, q2, q3⟩
end Go.Proofs.Ytmaocmgnkdieeaa

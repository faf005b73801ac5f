/-
  What the walks of the laws on waits use. No condition.
-/
import Derived.Test.YtiiieollemhjmabWaD
import Derived.Test.YtiiieollemhjmabWaG
namespace Go.Proofs.Ytiiieollemhjmab
open Go.RowKit Wt
theorem topV_at {b : Int} (h : 0 ≤ b ∧ b ≤ 7) : topV b = top b := topV_yes h
theorem bin_law {x : Int} (h : ¬ binV x < 0) : (0 ≤ binV x ∧ binV x ≤ 7) ∧ x ≤ topV (binV x) ∧ (binV x ≠ 0 → topV (binV x - 1) < x) := by
  have hx := binV_pos h
  have hb := bin_range x
  rw [binV_yes hx]
  refine ⟨hb, ?_, fun e => ?_⟩
  · rw [topV_yes hb]; exact bin_le hx
  · rw [topV_yes (by omega)]; exact bin_gt e
theorem bin_more_law {x : Int} (h : ¬ binV x < 0) (h2 : x ≠ 1000) : binV (x + 1) = binV x ∨ binV (x + 1) = binV x + 1 := by
  have hx := binV_pos h
  rw [binV_yes hx, binV_yes (by omega)]
  exact bin_more x
theorem top_law {b : Int} (h : ¬ topV b < 0) : (0 ≤ b ∧ b ≤ 7) ∧ binV (topV b) = b ∧ (b = 7 → topV b = 1000) ∧ (b ≠ 7 → binV (topV b + 1) = b + 1 ∧ topV b ≤ 63) := by
  have hb := topV_pos h
  have ht := top_range b
  rw [topV_yes hb]
  refine ⟨hb, ?_, fun e => by rw [e]; rfl, fun e => ?_⟩
  · rw [binV_yes ht]; exact bin_top hb
  · have := top_small (b := b) (by omega)
    rw [binV_yes (by omega)]
    exact ⟨bin_over (by omega), this⟩
end Go.Proofs.Ytiiieollemhjmab

/-
  What the helpers of the exact laws answer on lists of numbers: szIntS and toIntS; and a store into a list of the call's own. Condition: the list lies in memory and is at most 2^22 long.
-/
import Derived.Test.YtehdbllpiokbnabOwnI
import Derived.Test.YtehdbllpiokbnabOwnB
import Derived.OwnWalk

namespace Go.Proofs.Ytehdbllpiokbnab
open Go.RowKit

/-- A store into a list of the call's own. -/
theorem Own.put {w : World} {base g c i : Nat} {ys : List Int} (h : Own w base (.slice (some ⟨g, 0, none⟩) ys.length c) ys) (x : Int) :
    Own (w.setCell ⟨g, i, none⟩ (.int .i64 x)) base (.slice (some ⟨g, 0, none⟩) (ys.set i x).length c) (ys.set i x) := by
  obtain ⟨h1, h2⟩ := h
  refine ⟨by simp [ints_len], .inr ?_⟩
  rcases h2 with ⟨e, _⟩ | ⟨g', cap, cur, e, hg, hh, h3, h4, h5, h6⟩
  · cases e
  · injection e with e1 e2 e3
    injection e1 with e1
    injection e1 with e1
    subst e1 e3
    refine ⟨g, c, cur.setIfInBounds i (.int .i64 x), by simp, hg, ?_, by simpa using h3, h4, by simpa using h5, ?_⟩
    · simp [World.setCell, Array.getElem?_modify, hh]
    · simp only [Nat.mul_one, List.length_set, Array.toList_setIfInBounds] at h6 ⊢
      rw [List.take_set, h6]
      simp [ints, List.map_set]
theorem Own.thaw {w : World} {base g c : Nat} {ys : List Int} (h : Own w base (.slice (some ⟨g, 0, none⟩) ys.length c) ys) : ∀ i, w.frozen? ⟨g, i, none⟩ = false := fun i => by
  rcases h.2 with ⟨e, _⟩ | ⟨g', cap, cur, e, hg, hh, _⟩
  · cases e
  · injection e with e1 e2 e3
    injection e1 with e1
    injection e1 with e1
    subst e1
    simp [World.frozen?, hh]
theorem Own.at_ {w : World} {base g c i : Nat} {ys : List Int} (h : Own w base (.slice (some ⟨g, 0, none⟩) ys.length c) ys) (hi : i < ys.length) : w.cell? ⟨g, i, none⟩ = some (.int .i64 ys[i]) := by
  obtain ⟨b, o, e, _, hc⟩ := (Sees.of_own h.out).int hi
  injection e with e
  injection e with e1 e2
  subst e1 e2
  simpa using hc
theorem Own.base_le {w : World} {base g c : Nat} {ys : List Int} (h : Own w base (.slice (some ⟨g, 0, none⟩) ys.length c) ys) : base ≤ g := by
  rcases h.2 with ⟨e, _⟩ | ⟨g', cap, cur, e, hg, _⟩
  · cases e
  · injection e with e1 e2 e3
    injection e1 with e1
    injection e1 with e1
    subst e1
    exact hg

theorem made_ints (n : Nat) : (madeCells #[Value.int .i64 0] n).toList = ints (List.replicate n 0) := by
  simp [madeCells, ints, Nat.mod_one, List.map_const']

end Go.Proofs.Ytehdbllpiokbnab

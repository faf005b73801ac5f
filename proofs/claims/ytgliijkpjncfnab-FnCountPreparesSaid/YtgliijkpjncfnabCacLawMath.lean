/-
  Plain facts for the laws on caches. No condition; nothing of the program's text is used here.
-/
import Derived.Test.YtgliijkpjncfnabCacMath
namespace Go.Proofs.Ytgliijkpjncfnab.Cac
open Lea

theorem cache_six {c : Cch} (h : cacheB c = true) : cacheB ⟨6, c.n⟩ = true := by
  obtain ⟨h1, h2, h3, h4⟩ := cacheB_iff.1 h
  exact cacheB_iff.2 ⟨⟨by show (0:Int) ≤ 6; decide, by show (6:Int) ≤ 6; decide⟩, by show (c.n.length : Int) ≤ 6; omega, h3, h4⟩
theorem cache_empty {c : Cch} (h : cacheB c = true) : cacheB ⟨c.r, []⟩ = true := by
  obtain ⟨h1, h2, h3, h4⟩ := cacheB_iff.1 h
  exact cacheB_iff.2 ⟨h1, by simp; exact h1.1, by intro x hx; simp at hx, by simp⟩
theorem useB_of {c : Cch} {x : Int} (h : cacheB c = true) (h0 : ¬ x < 0) (h9 : ¬ x > 9) : useB c x = true := useB_iff.2 ⟨h, by omega, by omega⟩
theorem more_eq (c : Cch) : more c = ⟨c.r + 1, c.n⟩ := rfl
end Go.Proofs.Ytgliijkpjncfnab.Cac

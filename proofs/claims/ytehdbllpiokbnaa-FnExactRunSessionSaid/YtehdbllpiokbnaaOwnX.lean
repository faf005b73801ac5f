/-
  Lists of the call's own beside known blocks that are written. No condition.
-/
import Derived.Test.YtehdbllpiokbnaaStrip

namespace Go.Proofs.Ytehdbllpiokbnaa
open Go.RowKit

theorem row_ne {w : World} {base g size n : Nat} {e t : TypeId} {v : Value} {xs : List Value} {cs : Array Value} (h : w.ownsRow base e size v n xs) (ha : At w g t cs) (ht : t ≠ e) : v.ownBlock ≠ some g := by
  rcases h.2 with ⟨rfl, _⟩ | ⟨g', cap, cur, rfl, _, hg, _⟩
  · simp [Value.ownBlock]
  · intro e'
    have e' : g' = g := by simpa [Value.ownBlock] using e'
    subst e'
    unfold At at ha
    rw [hg] at ha
    injection ha with ha
    injection ha with _ hb
    exact ht hb.symm
theorem row_past {w w' : World} {base g size n : Nat} {e t : TypeId} {v : Value} {xs : List Value} {cs : Array Value} (h : w.ownsRow base e size v n xs) (ha : At w g t cs) (ht : t ≠ e) (hg : w.grownBy w' (some g)) : w'.ownsRow base e size v n xs :=
  row_kept h hg (fun k hk e => row_ne h ha ht (by rw [hk, e]))
/-- What lies in a block of another kind is kept where a list grows. -/
theorem At.beside {w w' : World} {base g size n : Nat} {e t : TypeId} {v : Value} {xs : List Value} {cs : Array Value} (ha : At w g t cs) (h : w.ownsRow base e size v n xs) (ht : t ≠ e) (hg : w.grownBy w' v.ownBlock) : At w' g t cs :=
  ha.grown hg (fun e => row_ne h ha ht e.symm)
theorem below_put {w a : World} {B g : Nat} (h : Below B a w) {w' : World} (hg : w.grownBy w' (some g)) (hB : B ≤ g) (hs : B ≤ w.heap.size) : Below B a w' := h.grown hg hs (fun k hk => by injection hk with hk; omega)
end Go.Proofs.Ytehdbllpiokbnaa

/-
  What the program's ApplySettings and ResetPlan answer. Condition: the lists lie in memory.
-/
import Derived.Test.YtehdbllpiokbnabStB

namespace Go.Proofs.Ytehdbllpiokbnab
open Go.RowKit Stt

theorem Sees.onT {w w' : World} {A : Option Addr} {xs : List Value} (h : Sees w w.heap.size A xs) (hb : Below w.heap.size w w') : Sees w' w'.heap.size A xs := (h.below hb).more hb.size
/-- Settings that a call made, and a truth value. -/
def AppAns (l cs : List Stg) (w : World) (e : Ending) (w' : World) : Prop :=
  ∃ v, e = .returned (.tuple #[v, .bool (applyB l cs)]) ∧ OwnG w' w.heap.size v (applyL l cs) ∧ Below w.heap.size w w'
end Go.Proofs.Ytehdbllpiokbnab

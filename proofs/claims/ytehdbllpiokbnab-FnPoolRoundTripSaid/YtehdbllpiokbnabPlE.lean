/-
  What copyPool answers, the program's and the model's. Condition: the lists lie in memory.
-/
import Derived.Test.YtehdbllpiokbnabPlO
import Derived.Deep.RegionHeld3

namespace Go.Proofs.Ytehdbllpiokbnab
open Go.RowKit Pol

/-- A copy of a pool, which the call itself made. -/
def CopyAns (p : Pl) (w : World) (e : Ending) (w' : World) : Prop := ∃ B1 B2 B3 d1 d2 d3, e = .returned (.agg #[.int .i64 p.mx, .slice B1 p.idle.length d1, .slice B2 p.held.length d2, .slice B3 p.wait.length d3]) ∧ OwnP w' w.heap.size B1 B2 B3 d1 d2 d3 p ∧ Below w.heap.size w w'
end Go.Proofs.Ytehdbllpiokbnab

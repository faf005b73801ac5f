/-
  What the program's joinWait answers. Condition: the lists lie in memory.
-/
import Derived.Test.YtehdbllpiokbnabPlF

namespace Go.Proofs.Ytehdbllpiokbnab
open Go.RowKit Pol

/-- The call answers a pool of its own, a number and a truth value. -/
def PAns3 (R : Pl) (n : Int) (b : Bool) (w : World) (e : Ending) (w' : World) : Prop := ∃ B1 B2 B3 d1 d2 d3, e = .returned (.tuple #[.agg #[.int .i64 R.mx, .slice B1 R.idle.length d1, .slice B2 R.held.length d2, .slice B3 R.wait.length d3], .int .i64 n, .bool b]) ∧ OwnP w' w.heap.size B1 B2 B3 d1 d2 d3 R ∧ Below w.heap.size w w'
def PAns2 (R : Pl) (n : Int) (w : World) (e : Ending) (w' : World) : Prop := ∃ B1 B2 B3 d1 d2 d3, e = .returned (.tuple #[.agg #[.int .i64 R.mx, .slice B1 R.idle.length d1, .slice B2 R.held.length d2, .slice B3 R.wait.length d3], .int .i64 n]) ∧ OwnP w' w.heap.size B1 B2 B3 d1 d2 d3 R ∧ Below w.heap.size w w'
theorem pans3_zero {n : Int} {b : Bool} {w w' : World} (h : Below w.heap.size w w') : PAns3 Pl.zero n b w (.returned (.tuple #[.agg #[.int .i64 0, .slice none 0 0, .slice none 0 0, .slice none 0 0], .int .i64 n, .bool b])) w' := ⟨none, none, none, 0, 0, 0, rfl, OwnP.zero _ _, h⟩
theorem pans2_zero {n : Int} {w w' : World} (h : Below w.heap.size w w') : PAns2 Pl.zero n w (.returned (.tuple #[.agg #[.int .i64 0, .slice none 0 0, .slice none 0 0, .slice none 0 0], .int .i64 n])) w' := ⟨none, none, none, 0, 0, 0, rfl, OwnP.zero _ _, h⟩

end Go.Proofs.Ytehdbllpiokbnab

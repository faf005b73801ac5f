/-
  What the program's copyNumbers answers. Condition: the list lies in memory and is at most 2^22 long.
-/
import Derived.Test.YtfophplmdljhbaaOwnI
import Derived.Test.YtfophplmdljhbaaOwnB
import Derived.Test.YtfophplmdljhbaaApp
namespace Go.Proofs.Ytfophplmdljhbaa
open Go.RowKit

theorem Own.alloc4 {w : World} {base : Nat} {v : Value} {ys : List Int} (h : Own w base v ys) (o : Obj) : Own (w.alloc o) base v ys := h.below ((Below.refl _ _).alloc (Nat.le_refl _) o)
end Go.Proofs.Ytfophplmdljhbaa

/-
  Markings of lists that are not read again, from any count on. Condition: the list is at most 2^22 long, the count from 0 on and at most 2^30.
-/
import Derived.Test.YtfophplmdljhbaaExG
import Derived.Test.YtfophplmdljhbaaBoolA
namespace Go.Proofs.Ytfophplmdljhbaa
open Go.RowKit

/-- What changes nothing changes nothing that was there. -/
theorem same_bel {P : Program} {f : Nat} {args : Array Value} {w : World} {R : Ending → Prop} (h : Calls P f args w fun e w' => R e ∧ w = w') : Calls P f args w fun e w' => R e ∧ Below w.heap.size w w' :=
  h.mono fun _ _ h => ⟨h.1, h.2 ▸ Below.refl _ _⟩

end Go.Proofs.Ytfophplmdljhbaa

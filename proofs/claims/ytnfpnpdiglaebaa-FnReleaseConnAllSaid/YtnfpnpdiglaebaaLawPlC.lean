/-
  Words for the walks of the laws that give connections back again and again: the pool at hand lies in one block that is written anew. No condition.
-/
import Derived.Test.YtnfpnpdiglaebaaLawPlB
namespace Go.Proofs.Ytnfpnpdiglaebaa
open Go.RowKit Pol
theorem OwnK.past {w w' : World} {base c1 c2 c3 g : Nat} {A1 A2 A3 : Option Addr} {p : Pl} {cs : Array Value} (h : OwnK w base A1 A2 A3 c1 c2 c3 p) (ha : At w g 26 cs) (hg : w.grownBy w' (some g)) : OwnK w' base A1 A2 A3 c1 c2 c3 p := ⟨h.1.past ha hg, h.2⟩
end Go.Proofs.Ytnfpnpdiglaebaa

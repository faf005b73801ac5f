/-
  One more word for the walks of the laws: what a drawn line tells of the old memory. No condition.
-/
import Derived.Test.YtcfijijpcafncaaLawFrameB
namespace Go.Proofs.Ytcfijijpcafncaa
open Go.RowKit
theorem LS.bel {w0 w : World} {L : Nat} {s n : Int} {A : Option Addr} {c : Nat} {l : List Int} (h : LS w0 w L s n A c l) : Below w0.heap.size w0 w := h.2.2.1
end Go.Proofs.Ytcfijijpcafncaa

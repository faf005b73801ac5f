/-
  Only the blocks from lo to hi have changed: what is kept of lists and pools of the call's own. No condition.
-/
import Derived.Test.YtehdbllpiokbnabPlA
import Derived.Test.YtehdbllpiokbnabMidW
import Derived.Test.YtehdbllpiokbnabExG
import Derived.Test.YtehdbllpiokbnabSsHoldG

namespace Go.Proofs.Ytehdbllpiokbnab
open Go.RowKit Pol

theorem OwnP.mid {lo hi : Nat} {w w' : World} {base : Nat} {A1 A2 A3 : Option Addr} {c1 c2 c3 : Nat} {p : Pl} (h : OwnP w base A1 A2 A3 c1 c2 c3 p) (hm : Mid lo hi w w')
    (h1 : ∀ k, (Value.slice A1 p.idle.length c1).ownBlock = some k → k < lo ∨ hi ≤ k) (h2 : ∀ k, (Value.slice A2 p.held.length c2).ownBlock = some k → k < lo ∨ hi ≤ k) (h3 : ∀ k, (Value.slice A3 p.wait.length c3).ownBlock = some k → k < lo ∨ hi ≤ k) : OwnP w' base A1 A2 A3 c1 c2 c3 p :=
  ⟨row_mid h.1 hm h1, row_mid h.2.1 hm h2, row_mid h.2.2.1 hm h3, h.2.2.2⟩
/-- The three lists lie in blocks from base to the end of the memory. -/
theorem OwnP.lt1 {w : World} {base : Nat} {A1 A2 A3 : Option Addr} {c1 c2 c3 : Nat} {p : Pl} (h : OwnP w base A1 A2 A3 c1 c2 c3 p) : ∀ k, (Value.slice A1 p.idle.length c1).ownBlock = some k → base ≤ k ∧ k < w.heap.size := fun k hk => h.1.out.lt k hk
theorem OwnP.lt2 {w : World} {base : Nat} {A1 A2 A3 : Option Addr} {c1 c2 c3 : Nat} {p : Pl} (h : OwnP w base A1 A2 A3 c1 c2 c3 p) : ∀ k, (Value.slice A2 p.held.length c2).ownBlock = some k → base ≤ k ∧ k < w.heap.size := fun k hk => h.2.1.out.lt k hk
theorem OwnP.lt3 {w : World} {base : Nat} {A1 A2 A3 : Option Addr} {c1 c2 c3 : Nat} {p : Pl} (h : OwnP w base A1 A2 A3 c1 c2 c3 p) : ∀ k, (Value.slice A3 p.wait.length c3).ownBlock = some k → base ≤ k ∧ k < w.heap.size := fun k hk => h.2.2.1.out.lt k hk

/-- A pool whose lists have been marked. -/
def Pol.Pl.marked (p : Pl) : Pl := ⟨p.mx, marksG 1 p.idle.length, Ho.marksG (1 + p.idle.length) p.held.length, marksG (1 + p.idle.length + 2 * p.held.length) p.wait.length⟩
def Pol.Pl.count (p : Pl) : Int := 1 + p.idle.length + 2 * p.held.length + p.wait.length

end Go.Proofs.Ytehdbllpiokbnab

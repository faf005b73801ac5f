/-
  Words for the walks of the drawn laws on hosts: equal lists are told equal; contracts at a length of another name. Condition: the lists lie in memory.
-/
import Derived.Test.YtbgpdpmijlhkkaaHoF
import Derived.Test.YtbgpdpmijlhkkaaHoDraw
import Derived.Test.YtbgpdpmijlhkkaaLawHostMath
import Derived.BigQuiet
namespace Go.Proofs.Ytbgpdpmijlhkkaa
open Go.RowKit Hos

theorem DLs.n6 {w w' : World} {A : Option Addr} {c : Nat} {l : List Hst} (h : DH w w' A c l) : l.length ≤ 4194304 := h.n4 (by decide)
theorem hcl_take {w : World} {B : Nat} {A : Option Addr} {l : List Hst} (h : Sees w B A (strip hcl l)) (k : Nat) : Sees w B A (strip hcl (l.take k)) := h.stake hcl_len k
theorem iRouteWrite_len {A : Option Addr} {n c : Nat} {l : List Hst} {w : World} (hl : l.length = n) (h : Sees w w.heap.size A (strip hcl l)) (hn : l.length ≤ 4194304) :
    Calls Try.prog 19 #[.slice A n c] w fun e w' => e = .returned (.int .i64 (writeH l)) ∧ Below w.heap.size w w' := by
  subst hl; exact iRouteWrite_any A c l w h hn
theorem iAddLoad_len {A : Option Addr} {n c : Nat} {l : List Hst} {q d : Int} {w : World} (hl : l.length = n) (h : Sees w w.heap.size A (strip hcl l)) (hn : l.length ≤ 4194304) :
    Calls Try.prog 21 #[.slice A n c, .int .i64 q, .int .i64 d] w (LoadAns l q d w) := by
  subst hl; exact iAddLoad_any A c l q d w h hn
theorem iRouteReads_len {A A2 : Option Addr} {n n2 c c2 : Nat} {l : List Hst} {gs : List Int} {w : World} (hl : l.length = n) (hg : gs.length = n2) (h : Sees w w.heap.size A (strip hcl l)) (h2 : Sees w w.heap.size A2 (ints gs)) (hn : l.length ≤ 4194304) (hn2 : gs.length ≤ 4194304) :
    Calls Try.prog 26 #[.slice A n c, .slice A2 n2 c2] w fun e w' => ∃ v, e = .returned v ∧ Own w' w.heap.size v (readsL l gs) ∧ Below w.heap.size w w' := by
  subst hl hg; exact iRouteReads_any A A2 c c2 l gs w h h2 hn hn2
end Go.Proofs.Ytbgpdpmijlhkkaa

/-
  Words for the walks of the drawn laws on leases: equal lists are told equal; contracts at a length of another name. Condition: the lists lie in memory.
-/
import Derived.Test.YtmmdclcegpdejaaLsH
import Derived.Test.YtmmdclcegpdejaaLsI
import Derived.BigQuiet
namespace Go.Proofs.Ytmmdclcegpdejaa
open Go.RowKit Lse

theorem lvals_strip (l : List L) : lvals l = strip lcells l := rfl

theorem eqI_same (A B : Option Addr) (c d : Nat) (xs : List Int) (w : World) (h : Sees w w.heap.size A (ints xs)) (h' : Sees w w.heap.size B (ints xs)) (hn : xs.length ≤ 4194304) :
    Calls Try.prog 26 #[.slice A xs.length c, .slice B xs.length d] w fun e w' => e = .returned (.bool true) ∧ Below w.heap.size w w' := by
  have := equalInts_any A B c d xs xs w h h' (Nat.le_trans hn (by decide))
  rwa [eqB_iff.2 rfl] at this
theorem iBusyAt_len {A : Option Addr} {n c : Nat} {l : List L} {t : Int} {w : World} (hl : l.length = n) (h : Sees w w.heap.size A (lvals l)) (hc : l.length ≤ c) (hn : l.length ≤ 4194304) :
    Calls Try.prog 25 #[.slice A n c, .int .i64 t] w fun e w' => ∃ v, e = .returned v ∧ Own w' w.heap.size v (busy l t) ∧ Below w.heap.size w w' := by
  subst hl; exact iBusyAt_any A c l t w h hc hn
end Go.Proofs.Ytmmdclcegpdejaa

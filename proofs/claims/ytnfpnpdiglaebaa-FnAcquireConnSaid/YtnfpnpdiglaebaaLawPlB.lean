/-
  Two lists that are the same, under two names; words for the walks of the drawn laws on pools. Condition: the lists lie in memory.
-/
import Derived.Test.YtnfpnpdiglaebaaLawPl
namespace Go.Proofs.Ytnfpnpdiglaebaa
open Go.RowKit Pol
theorem kEq_of {A B : Option Addr} {n m c d : Nat} {xs ys : List Int} {w : World} (e : xs = ys) (h1 : xs.length = n) (h2 : ys.length = m) (h : Sees w w.heap.size A (ints xs)) (h' : Sees w w.heap.size B (ints ys)) (hn : ys.length ≤ 4194304) :
    Calls Try.prog 19 #[.slice A n c, .slice B m d] w fun e w' => e = .returned (.bool true) ∧ Below w.heap.size w w' := by
  subst e h1 h2; exact kEq_same A B c d _ w h h' hn
theorem kHolds_of {A B : Option Addr} {n m c d : Nat} {l l' : List Ho} {w : World} (e : l = l') (h1 : l.length = n) (h2 : l'.length = m) (h : Sees w w.heap.size A (strip hcells l)) (h' : Sees w w.heap.size B (strip hcells l')) (hn : l'.length ≤ 4194304) :
    Calls Try.prog 20 #[.slice A n c, .slice B m d] w fun e w' => e = .returned (.bool true) ∧ Below w.heap.size w w' := by
  subst e h1 h2; exact equalHolds_same rfl h h' hn
theorem last_at {l Q : List Int} {N : Int} (h : l = Q ++ [N]) (k : Nat) (hk : k < l.length) (e : k + 1 = l.length) : l[k] = N := by
  subst h
  have : k = Q.length := by simp at e; omega
  subst this; simp
theorem last_pos {l Q : List Int} {N : Int} (h : l = Q ++ [N]) : 0 < l.length := by subst h; simp
theorem OwnK.n4 {w : World} {base c1 c2 c3 : Nat} {A1 A2 A3 : Option Addr} {p : Pl} (h : OwnK w base A1 A2 A3 c1 c2 c3 p) : p.idle.length ≤ 4194304 ∧ p.held.length ≤ 4194304 ∧ p.wait.length ≤ 4194304 := ⟨Nat.le_trans h.2.1 (by decide), Nat.le_trans h.2.2.1 (by decide), Nat.le_trans h.2.2.2 (by decide)⟩
end Go.Proofs.Ytnfpnpdiglaebaa

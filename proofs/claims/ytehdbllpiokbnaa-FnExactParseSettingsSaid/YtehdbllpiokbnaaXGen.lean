/-
  Words for the walks of the exact laws: lists of numbers with all that the walks ask of them; two rows of different times lie apart. No condition.
-/
import Derived.Test.YtehdbllpiokbnaaStrip
import Derived.Test.YtehdbllpiokbnaaExF
import Derived.Test.YtehdbllpiokbnaaExA
import Derived.Deep.RegionHeld3
namespace Go.Proofs.Ytehdbllpiokbnaa
open Go.RowKit

theorem Own.form4 {w : World} {base : Nat} {v : Value} {ys : List Int} (h : Own w base v ys) : ∃ A c, v = .slice A ys.length c ∧ ys.length ≤ c ∧ c ≤ maxLen ∧ Sees w w.heap.size A (ints ys) := by
  obtain ⟨A, c, rfl, h1, h2⟩ := own_form h.out
  exact ⟨A, c, rfl, h1, h2, Sees.of_own h.out⟩
theorem Own.sees4 {w : World} {base n c : Nat} {A : Option Addr} {ys : List Int} (h : Own w base (.slice A n c) ys) : Sees w w.heap.size A (ints ys) := by
  obtain ⟨A', c', e, _, _, hs⟩ := h.form4
  injection e with e1 e2 e3
  rw [e1]; exact hs
theorem Own.lt4 {w : World} {base : Nat} {v : Value} {ys : List Int} (h : Own w base v ys) : ∀ k, v.ownBlock = some k → base ≤ k ∧ k < w.heap.size := fun k hk => h.out.lt k hk
theorem Own.kept4 {w w' : World} {base : Nat} {v : Value} {ys : List Int} {row : Option Nat} (h : Own w base v ys) (hg : w.grownBy w' row) (hr : ∀ k, v.ownBlock = some k → row ≠ some k) : Own w' base v ys := row_kept h hg hr
theorem apart2 {va vb : Value} {a b c d : Nat} (ha : ∀ k, va.ownBlock = some k → a ≤ k ∧ k < b) (hb : ∀ k, vb.ownBlock = some k → c ≤ k ∧ k < d) (h : b ≤ c ∨ d ≤ a) : ∀ k, va.ownBlock = some k → vb.ownBlock ≠ some k := fun k h1 h2 => by
  have := ha k h1
  have := hb k h2
  omega
theorem eqIntS_same (A B : Option Addr) (c d : Nat) (xs : List Int) (w : World) (h : Sees w w.heap.size A (ints xs)) (h' : Sees w w.heap.size B (ints xs)) (hn : xs.length ≤ 4194304) :
    Calls Try.prog 41 #[.slice A xs.length c, .slice B xs.length d] w fun e w' => e = .returned (.bool true) ∧ Below w.heap.size w w' := by
  have := eqIntS_any A B c d xs xs w h h' (Nat.le_trans hn (by decide))
  rwa [eqB_iff.2 rfl] at this
end Go.Proofs.Ytehdbllpiokbnaa

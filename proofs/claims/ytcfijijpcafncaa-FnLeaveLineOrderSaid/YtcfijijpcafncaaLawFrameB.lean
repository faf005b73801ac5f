/-
  More of what the walks of the laws share: equal lines and equal lists are told equal; a zero line. Conditions: the lists lie in memory.
-/
import Derived.Test.YtcfijijpcafncaaLineDraw
import Derived.Test.YtcfijijpcafncaaLineEq
import Derived.Test.YtcfijijpcafncaaLawFrame
import Derived.BigQuiet
namespace Go.Proofs.Ytcfijijpcafncaa
open Go.RowKit

theorem equalLine_same (A A' : Option Addr) (c c' : Nat) (s n : Int) (g : List Int) (w : World) (h : Sees w w.heap.size A (ints g)) (h' : Sees w w.heap.size A' (ints g)) (hn : g.length ≤ 4194304) :
    Calls Try.prog 16 #[.agg #[.int .i64 s, .int .i64 n, .slice A g.length c], .agg #[.int .i64 s, .int .i64 n, .slice A' g.length c']] w fun e w' => e = .returned (.bool true) ∧ Below w.heap.size w w' := by
  have := equalLine_any A A' c c' s n s n g g w h h' hn
  rwa [eqLB_iff.2 ⟨rfl, rfl, rfl⟩] at this
theorem equalLine_zero (w : World) :
    Calls Try.prog 16 #[.agg #[.int .i64 0, .int .i64 0, .slice none 0 0], .agg #[.int .i64 0, .int .i64 0, .slice none 0 0]] w fun e w' => e = .returned (.bool true) ∧ Below w.heap.size w w' :=
  equalLine_same none none 0 0 0 0 [] w Sees.nil Sees.nil (by simp)
theorem LS.zero (w : World) : LS w (w.alloc (.cells #[.int .i64 0, .int .i64 0, .slice none 0 0] 25)) w.heap.size 0 0 none 0 [] :=
  LS.start (Own.none_ _ _) (Below.refl _ _)

theorem equalInts_same (A B : Option Addr) (c d : Nat) (xs : List Int) (w : World) (h : Sees w w.heap.size A (ints xs)) (h' : Sees w w.heap.size B (ints xs)) (hn : xs.length ≤ 4194304) :
    Calls Try.prog 18 #[.slice A xs.length c, .slice B xs.length d] w fun e w' => e = .returned (.bool true) ∧ Below w.heap.size w w' := by
  have := equalInts_any A B c d xs xs w h h' (Nat.le_trans hn (by decide))
  rwa [eqB_iff.2 rfl] at this
theorem isIn_quiet (A : Option Addr) (c : Nat) (xs : List Int) (x : Int) (w : World) (m : Nat) {B : Nat} (h : Sees w B A (ints xs)) (hn : xs.length ≤ 4611686018427387904) :
    Calls Try.prog 22 #[.slice A xs.length c, .int .i64 x] (w.drewN m) fun e w'' => e = .returned (.bool (memB xs x)) ∧ ∃ m, w'' = w.drewN m :=
  Calls.quiet_of_same ((lisIn_any A c xs x (w.drewN m) (show Sees (w.drewN m) B A (ints xs) from h) hn).mono fun _ _ ⟨he, hw⟩ => ⟨he, hw.symm⟩)
end Go.Proofs.Ytcfijijpcafncaa

/-
  What equalLine answers. Condition: the lists lie in memory.
-/
import Derived.Test.YtcfijijpcafncaaBase
namespace Go.Proofs.Ytcfijijpcafncaa
open Go.RowKit

def eqLB (s n s' n' : Int) (g g' : List Int) : Bool := s == s' && n == n' && eqB g g'
theorem eqLB_iff {s n s' n' : Int} {g g' : List Int} : eqLB s n s' n' g g' = true ↔ s = s' ∧ n = n' ∧ g = g' := by
  unfold eqLB; simp [eqB_iff, and_assoc]

set_option maxHeartbeats 1000000 in
theorem equalLine_any (A A' : Option Addr) (c c' : Nat) (s n s' n' : Int) (g g' : List Int) (w : World) (h : Sees w w.heap.size A (ints g)) (h' : Sees w w.heap.size A' (ints g')) (hn : g.length ≤ 4194304) :
    Calls Try.prog 16 #[.agg #[.int .i64 s, .int .i64 n, .slice A g.length c], .agg #[.int .i64 s', .int .i64 n', .slice A' g'.length c']] w fun e w' => e = .returned (.bool (eqLB s n s' n' g g')) ∧ Below w.heap.size w w' := by
  have HN := hid hn; clear hn
  unfold eqLB
  rcases h1 : (s == s') with _ | _
  · go_enter Try.func16, Try.ntmps16
    go_wp2
    go_ret
    exact ⟨rfl, ((Below.refl _ _).alloc (Nat.le_refl _) _).alloc (by simp) _⟩
  · rcases h2 : (n == n') with _ | _
    · go_enter Try.func16, Try.ntmps16
      go_wp2
      go_ret
      exact ⟨rfl, ((Below.refl _ _).alloc (Nat.le_refl _) _).alloc (by simp) _⟩
    · go_enter Try.func16, Try.ntmps16
      go_wp2_with (go_at_call 18; refine (equalInts_any _ _ _ _ _ _ _ (((h.alloc (Nat.le_refl _) _).alloc (by simp) _).more (by simp; omega)) (((h'.alloc (Nat.le_refl _) _).alloc (by simp) _).more (by simp; omega)) (Nat.le_trans HN.out (by decide))).mono ?_; rintro e w1 ⟨rfl, hb1⟩)
      go_ret
      exact ⟨by simp, (((Below.refl _ _).alloc (Nat.le_refl _) _).alloc (by simp) _).trans (hb1.mono (by simp; omega))⟩
end Go.Proofs.Ytcfijijpcafncaa

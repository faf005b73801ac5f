/-
  What the model's ValidLine answers. Condition: the list lies in memory and is at most 2^22 long.
-/
import Derived.Test.YtcfijijpcafncacListA
namespace Go.Proofs.Ytcfijijpcafncac
open Go.RowKit

theorem okB_spec (s n : Int) (g : List Int) : Line.okB s n g = (inB s 0 1000 && inB n s (min 1000 (s + 12)) && Line.ascB g && allB g s (n - 1)) := by
  rw [Bool.eq_iff_iff, Line.okB_iff]
  simp only [Bool.and_eq_true, inB_iff, Line.ascB_iff, allB_iff]
  constructor
  · rintro ⟨_, _, _, _, _, a, b⟩; exact ⟨⟨⟨⟨by omega, by omega⟩, by omega, by omega⟩, a⟩, fun x hx => by have := b x hx; omega⟩
  · rintro ⟨⟨⟨⟨_, _⟩, _, _⟩, a⟩, b⟩; exact ⟨by omega, by omega, by omega, by omega, by omega, a, fun x hx => by have := b x hx; omega⟩

set_option maxHeartbeats 1000000 in
theorem svalidLine_any (A : Option Addr) (c : Nat) (s n : Int) (g : List Int) (w : World) (h : Sees w w.heap.size A (ints g)) (hn : g.length ≤ 4194304) :
    Calls Try.prog 30 #[.agg #[.int .i64 s, .int .i64 n, .slice A g.length c]] w fun e w' => e = .returned (.bool (Line.okB s n g)) ∧ Below w.heap.size w w' := by
  have HN := hid hn; clear hn
  rw [okB_spec]
  rcases h1 : inB s 0 1000 with _ | _
  · go_enter Try.func30, Try.ntmps30
    go_wp2_with (go_at_call 39; refine (inRange_any _ _ _ _).mono ?_; rintro e w' ⟨rfl, rfl⟩)
    go_ret
    exact ⟨rfl, (Below.refl _ _).alloc (Nat.le_refl _) _⟩
  · have hs := inB_iff.1 h1
    obtain ⟨hs0, hs1⟩ := hs
    obtain ⟨M, hM⟩ : ∃ M, M = min 1000 (s + 12) := ⟨_, rfl⟩
    rw [← hM]
    have hM' : (s + 12 < 1000 ∧ M = s + 12) ∨ (1000 ≤ s + 12 ∧ M = 1000) := by omega
    clear hM
    have hp := (h.alloc (Nat.le_refl _) (.cells #[.int .i64 s, .int .i64 n, .slice A g.length c] 27))
    rcases h2 : inB n s M with _ | _
    · rcases hM' with ⟨hm, rfl⟩ | ⟨hm, rfl⟩
      all_goals
        go_enter Try.func30, Try.ntmps30
        go_wp2_with (go_at_call 39; refine (inRange_any _ _ _ _).mono ?_; rintro e w' ⟨rfl, rfl⟩)
        go_ret
        exact ⟨rfl, (Below.refl _ _).alloc (Nat.le_refl _) _⟩
    · have hn0 := inB_iff.1 h2
      have hn1 : n ≤ 1000 := by omega
      have hn2 : s ≤ n := by omega
      clear hn0
      rcases hM' with ⟨hm, rfl⟩ | ⟨hm, rfl⟩
      all_goals
        rcases h3 : Line.ascB g with _ | _
        · go_enter Try.func30, Try.ntmps30
          go_wp2_with (first | (go_at_call 39; refine (inRange_any _ _ _ _).mono ?_; rintro e w' ⟨rfl, rfl⟩) | (go_at_call 40; refine (ascends_any _ _ _ _ hp (by simp) (by have := HN.out; omega)).mono ?_; rintro e w1 ⟨rfl, hb1⟩))
          go_ret
          exact ⟨rfl, ((Below.refl _ _).alloc (Nat.le_refl _) _).trans (hb1.mono (by simp))⟩
        · go_enter Try.func30, Try.ntmps30
          go_wp2_with (first | (go_at_call 39; refine (inRange_any _ _ _ _).mono ?_; rintro e w' ⟨rfl, rfl⟩) | (go_at_call 40; refine (ascends_any _ _ _ _ hp (by simp) (by have := HN.out; omega)).mono ?_; rintro e w1 ⟨rfl, hb1⟩; obtain ⟨hc1, hf1⟩ := below_cell hb1) | (go_at_call 41; refine (allIn_any _ _ _ _ _ _ (hp.on hb1 (by simp)) (by have := HN.out; omega)).mono ?_; rintro e w' ⟨rfl, rfl⟩))
          go_ret
          exact ⟨rfl, ((Below.refl _ _).alloc (Nat.le_refl _) _).trans (hb1.mono (by simp))⟩

/-- A line as the argument of a function: its value, its numbers, where Gone lies. -/
abbrev lineV (A : Option Addr) (c : Nat) (s n : Int) (g : List Int) : Value := .agg #[.int .i64 s, .int .i64 n, .slice A g.length c]

set_option maxHeartbeats 400000 in
theorem sValidLine_any (A : Option Addr) (c : Nat) (s n : Int) (g : List Int) (w : World) (h : Sees w w.heap.size A (ints g)) (hn : g.length ≤ 4194304) :
    Calls Try.prog 10 #[.agg #[.int .i64 s, .int .i64 n, .slice A g.length c]] w fun e w' => e = .returned (.bool (Line.okB s n g)) ∧ Below w.heap.size w w' := by
  have hp := (h.alloc (Nat.le_refl _) (.cells #[.int .i64 s, .int .i64 n, .slice A g.length c] 27))
  go_enter Try.func10, Try.ntmps10
  go_wp2_with (go_at_call 30; refine (svalidLine_any _ _ _ _ _ _ (hp.more (by simp)) hn).mono ?_; rintro e w1 ⟨rfl, hb1⟩)
  go_ret
  exact ⟨rfl, ((Below.refl _ _).alloc (Nat.le_refl _) _).trans (hb1.mono (by simp))⟩

end Go.Proofs.Ytcfijijpcafncac

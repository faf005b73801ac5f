/-
  What ascendingWithin and ValidLine answer. Condition: the list lies in memory and is at most 2^62 long.
-/
import Derived.Test.YtcfijijpcafncacBase
namespace Go.Proofs.Ytcfijijpcafncac
open Go.RowKit

set_option maxHeartbeats 400000 in
theorem ascendingWithin_any (A : Option Addr) (c : Nat) (xs : List Int) (lo hi : Int) (w : World) {B : Nat} (h : Sees w B A (ints xs)) (hn : xs.length ≤ 4611686018427387904) :
    Calls Try.prog 32 #[.slice A xs.length c, .int .i64 lo, .int .i64 hi] w fun e w' => e = .returned (.bool (Line.ascIn xs lo hi)) ∧ w = w' := by
  have HN := hid hn; clear hn
  go_enter Try.func32, Try.ntmps32
  go_wp2
  go_loop [11] (fun i => ∃ k : Nat, k ≤ xs.length ∧ i = .int .i64 k ∧ Line.Asc (xs.take k) ∧ ∀ x ∈ xs.take k, lo ≤ x ∧ x ≤ hi) (fun i => xs.length - (intOf i).toNat)
  case atStart => exact ⟨0, Nat.zero_le _, rfl, by simp [Line.Asc], by simp⟩
  case round =>
    obtain ⟨k, hk, rfl, hasc, hall⟩ := hrel
    have HA := hid hall; clear hall
    have HS := hid hasc; clear hasc
    have hn := HN.out
    by_cases hlt : k < xs.length
    · obtain ⟨b, o, rfl, _, hc⟩ := h.int hlt
      by_cases h1 : xs[k] < lo
      · go_wp2
        go_ret
        refine ⟨ret_bool (Eq.symm (Bool.eq_false_iff.2 fun e => ?_)), rfl⟩
        have := (Line.ascIn_iff.1 e).2 _ (List.getElem_mem hlt)
        omega
      · by_cases h2 : hi < xs[k]
        · go_wp2
          go_ret
          refine ⟨ret_bool (Eq.symm (Bool.eq_false_iff.2 fun e => ?_)), rfl⟩
          have := (Line.ascIn_iff.1 e).2 _ (List.getElem_mem hlt)
          omega
        · have hin : lo ≤ xs[k] ∧ xs[k] ≤ hi := by omega
          have HI := hid hin; clear hin
          rcases Nat.eq_zero_or_pos k with h0 | h0
          · subst h0
            simp only [Nat.add_zero] at hc
            go_wp2
            go_round
            case rel => exact ⟨1, by omega, by go_num, Line.asc_take_succ hlt HS.out (fun h => by omega), all_take_succ hlt HA.out HI.out⟩
            case measure => simp [intOf]; omega
          · obtain ⟨m, rfl⟩ : ∃ m, k = m + 1 := ⟨k - 1, by omega⟩
            obtain ⟨b', o', e', _, hc'⟩ := h.int (show m < xs.length by omega)
            obtain ⟨rfl, rfl⟩ : b = b' ∧ o = o' := by injection e' with e'; injection e' with a b; exact ⟨a, b⟩
            clear e'
            by_cases hx : xs[m + 1] ≤ xs[m]
            · go_wp2
              go_ret
              refine ⟨ret_bool (Eq.symm (Bool.eq_false_iff.2 fun e => ?_)), rfl⟩
              have := Line.asc_of_take hlt (by omega) (Line.ascIn_iff.1 e).1
              simp only [Nat.add_sub_cancel] at this
              omega
            · go_wp2
              go_round
              case rel => exact ⟨m + 1 + 1, by omega, by go_num, Line.asc_take_succ hlt HS.out (fun _ => by simp only [Nat.add_sub_cancel]; omega), all_take_succ hlt HA.out HI.out⟩
              case measure => simp [intOf]; omega
    · go_wp2
      go_ret
      refine ⟨ret_bool (Eq.symm (Line.ascIn_iff.2 ?_)), rfl⟩
      have ha := HA.out
      have hs := HS.out
      rw [take_whole hlt] at ha hs
      exact ⟨hs, ha⟩

theorem okB_no {s n : Int} {g : List Int} (h : ¬ (0 ≤ s ∧ s ≤ 1000 ∧ s ≤ n ∧ n ≤ 1000 ∧ n ≤ s + 12)) : Line.okB s n g = false :=
  Bool.eq_false_iff.2 fun e => by have := Line.okB_iff.1 e; omega
theorem okB_yes {s n : Int} {g : List Int} (h : 0 ≤ s ∧ s ≤ 1000 ∧ s ≤ n ∧ n ≤ 1000 ∧ n ≤ s + 12) : Line.okB s n g = Line.ascIn g s (n - 1) := by
  rw [Bool.eq_iff_iff, Line.okB_iff, Line.ascIn_iff]
  constructor
  · rintro ⟨_, _, _, _, _, a, b⟩; exact ⟨a, fun x hx => by have := b x hx; omega⟩
  · rintro ⟨a, b⟩; exact ⟨h.1, h.2.1, h.2.2.1, h.2.2.2.1, h.2.2.2.2, a, fun x hx => by have := b x hx; omega⟩

set_option maxHeartbeats 400000 in
theorem iValidLine_any (A : Option Addr) (c : Nat) (s n : Int) (g : List Int) (w : World) (h : Sees w w.heap.size A (ints g)) (hn : g.length ≤ 4611686018427387904) :
    Calls Try.prog 12 #[.agg #[.int .i64 s, .int .i64 n, .slice A g.length c]] w fun e w' => e = .returned (.bool (Line.okB s n g)) ∧ Below w.heap.size w w' := by
  by_cases hv : 0 ≤ s ∧ s ≤ 1000 ∧ s ≤ n ∧ n ≤ 1000 ∧ n ≤ s + 12
  · obtain ⟨h1, h2, h3, h4, h5⟩ := hv
    go_enter Try.func12, Try.ntmps12
    go_wp2_with (go_at_call 32; refine (ascendingWithin_any _ _ _ _ _ _ (h.alloc (Nat.le_refl _) _) hn).mono ?_; rintro e w' ⟨rfl, rfl⟩)
    go_ret
    exact ⟨ret_bool (okB_yes ⟨h1, h2, h3, h4, h5⟩).symm, (Below.refl _ _).alloc (Nat.le_refl _) _⟩
  · have e := okB_no (g := g) hv
    rw [e]
    rcases (by omega : s < 0 ∨ (0 ≤ s ∧ 1000 < s) ∨ (0 ≤ s ∧ s ≤ 1000 ∧ n < s) ∨ (0 ≤ s ∧ s ≤ 1000 ∧ s ≤ n ∧ 1000 < n) ∨ (0 ≤ s ∧ s ≤ 1000 ∧ s ≤ n ∧ n ≤ 1000 ∧ s + 12 < n)) with h1 | ⟨h1, h2⟩ | ⟨h1, h2, h3⟩ | ⟨h1, h2, h3, h4⟩ | ⟨h1, h2, h3, h4, h5⟩
    all_goals
      clear hv e
      go_enter Try.func12, Try.ntmps12
      go_wp2
      go_ret
      exact ⟨rfl, (Below.refl _ _).alloc (Nat.le_refl _) _⟩
end Go.Proofs.Ytcfijijpcafncac

/-
  What the small functions on lists of numbers answer. Condition: the lists lie in memory and are at most 2^62 long.
-/
import Derived.Test.YtmaocmgnkdieeaaOwn
import Derived.Test.YtmaocmgnkdieeaaLineMath
import Derived.Test.YtmaocmgnkdieeaaProg
import Derived.Outline
import Derived.Deep.QuietTactic
import Derived.BigQuiet
namespace Go.Proofs.Ytmaocmgnkdieeaa
open Go.RowKit

set_option maxHeartbeats 400000 in
theorem sisIn_any (A : Option Addr) (c : Nat) (xs : List Int) (x : Int) (w : World) {B : Nat} (h : Sees w B A (ints xs)) (hn : xs.length ≤ 4611686018427387904) :
    Calls Try.prog 18 #[.slice A xs.length c, .int .i64 x] w fun e w' => e = .returned (.bool (memB xs x)) ∧ w = w' := by
  have HN := hid hn; clear hn
  go_enter Try.func18, Try.ntmps18
  go_wp2
  go_loop [5] (fun i => ∃ k : Nat, k ≤ xs.length ∧ i = .int .i64 k ∧ x ∉ xs.take k) (fun i => xs.length - (intOf i).toNat)
  case atStart => exact ⟨0, Nat.zero_le _, rfl, by simp⟩
  case round =>
    obtain ⟨k, hk, rfl, hall⟩ := hrel
    have HA := hid hall; clear hall
    have hn := HN.out
    by_cases hlt : k < xs.length
    · obtain ⟨b, o, rfl, _, hc⟩ := h.int hlt
      by_cases hx : xs[k] = x
      · have hx' : (xs[k] == x) = true := by simpa using hx
        have HX := hid hx; clear hx
        go_wp2
        go_ret
        refine ⟨ret_bool ?_, rfl⟩
        exact (memB_iff.2 (HX.out ▸ List.getElem_mem hlt)).symm
      · have hx' : (xs[k] == x) = false := by simpa using hx
        have HX := hid hx; clear hx
        go_wp2
        go_round
        case rel => exact ⟨k + 1, by omega, by go_num, not_take_succ hlt HA.out HX.out⟩
        case measure => simp [intOf]; omega
    · go_wp2
      go_ret
      refine ⟨ret_bool ?_, rfl⟩
      have ha := HA.out
      rw [take_whole hlt] at ha
      exact (Bool.eq_false_iff.2 (fun e => ha (memB_iff.1 e))).symm

set_option maxHeartbeats 400000 in
theorem inRange_any (x lo hi : Int) (w : World) :
    Calls Try.prog 32 #[.int .i64 x, .int .i64 lo, .int .i64 hi] w fun e w' => e = .returned (.bool (inB x lo hi)) ∧ w = w' := by
  by_cases h1 : lo ≤ x
  · by_cases h2 : x ≤ hi
    · go_enter Try.func32, Try.ntmps32
      go_wp2
      go_ret
      exact ⟨ret_bool (by simp [inB, h1, h2]), rfl⟩
    · go_enter Try.func32, Try.ntmps32
      go_wp2
      go_ret
      exact ⟨ret_bool (by simp [inB, h2]), rfl⟩
  · go_enter Try.func32, Try.ntmps32
    go_wp2
    go_ret
    exact ⟨ret_bool (Eq.symm (Bool.eq_false_iff.2 fun e => by have := inB_iff.1 e; omega)), rfl⟩

end Go.Proofs.Ytmaocmgnkdieeaa

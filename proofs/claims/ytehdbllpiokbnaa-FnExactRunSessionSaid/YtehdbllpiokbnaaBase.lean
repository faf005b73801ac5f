/-
  What the small functions on lists of numbers answer. Condition: the lists lie in memory and are at most 2^62 long.
-/
import Derived.Test.YtehdbllpiokbnaaOwn
import Derived.Test.YtehdbllpiokbnaaLineMath
import Derived.Test.YtehdbllpiokbnaaProg
import Derived.Outline
import Derived.Deep.QuietTactic
import Derived.BigQuiet

namespace Go.Proofs.Ytehdbllpiokbnaa
open Go.RowKit

set_option maxHeartbeats 400000 in
theorem placeOf_any (A : Option Addr) (c : Nat) (xs : List Int) (x : Int) (w : World) {B : Nat} (h : Sees w B A (ints xs)) (hn : xs.length ≤ 4611686018427387904) :
    Calls Try.prog 85 #[.slice A xs.length c, .int .i64 x] w fun e w' => e = .returned (.int .i64 (Line.place xs x)) ∧ w = w' := by
  have HN := hid hn; clear hn
  go_enter Try.func85, Try.ntmps85
  go_wp2
  go_loop [9] (fun i => ∃ k : Nat, k ≤ xs.length ∧ i = .int .i64 k ∧ x ∉ xs.take k) (fun i => xs.length - (intOf i).toNat)
  case atStart => exact ⟨0, Nat.zero_le _, rfl, by simp⟩
  case round =>
    obtain ⟨k, hk, rfl, hall⟩ := hrel
    have HA := hid hall; clear hall
    have hn := HN.out
    by_cases hlt : k < xs.length
    · obtain ⟨b, o, rfl, _, hc⟩ := h.int hlt
      by_cases hx : xs[k] = x
      · have hx' : (xs[k] == x) = true := by simpa using hx
        have HX := hid hx; clear hx
        go_wp2
        go_ret
        refine ⟨ret_int ?_, rfl⟩
        have hx := HX.out
        have ha := HA.out
        subst hx
        exact (Line.place_at hlt ha).symm
      · have hx' : (xs[k] == x) = false := by simpa using hx
        have HX := hid hx; clear hx
        go_wp2
        go_round
        case rel => exact ⟨k + 1, by omega, by go_num, not_take_succ hlt HA.out HX.out⟩
        case measure => simp [intOf]; omega
    · go_wp2
      go_ret
      refine ⟨ret_int ?_, rfl⟩
      have ha := HA.out
      rw [take_whole hlt] at ha
      exact (Line.place_no ha).symm

set_option maxHeartbeats 400000 in
theorem sisIn_any (A : Option Addr) (c : Nat) (xs : List Int) (x : Int) (w : World) {B : Nat} (h : Sees w B A (ints xs)) (hn : xs.length ≤ 4611686018427387904) :
    Calls Try.prog 65 #[.slice A xs.length c, .int .i64 x] w fun e w' => e = .returned (.bool (memB xs x)) ∧ w = w' := by
  have HN := hid hn; clear hn
  go_enter Try.func65, Try.ntmps65
  go_wp2
  go_loop [5] (fun i => ∃ k : Nat, k ≤ xs.length ∧ i = .int .i64 k ∧ x ∉ xs.take k) (fun i => xs.length - (intOf i).toNat)
  case atStart => exact ⟨0, Nat.zero_le _, rfl, by simp⟩
  case round =>
    obtain ⟨k, hk, rfl, hall⟩ := hrel
    have HA := hid hall; clear hall
    have hn := HN.out
    by_cases hlt : k < xs.length
    · obtain ⟨b, o, rfl, _, hc⟩ := h.int hlt
      by_cases hx : xs[k] = x
      · have hx' : (xs[k] == x) = true := by simpa using hx
        have HX := hid hx; clear hx
        go_wp2
        go_ret
        refine ⟨ret_bool ?_, rfl⟩
        exact (memB_iff.2 (HX.out ▸ List.getElem_mem hlt)).symm
      · have hx' : (xs[k] == x) = false := by simpa using hx
        have HX := hid hx; clear hx
        go_wp2
        go_round
        case rel => exact ⟨k + 1, by omega, by go_num, not_take_succ hlt HA.out HX.out⟩
        case measure => simp [intOf]; omega
    · go_wp2
      go_ret
      refine ⟨ret_bool ?_, rfl⟩
      have ha := HA.out
      rw [take_whole hlt] at ha
      exact (Bool.eq_false_iff.2 (fun e => ha (memB_iff.1 e))).symm

set_option maxHeartbeats 400000 in
theorem inRange_any (x lo hi : Int) (w : World) :
    Calls Try.prog 66 #[.int .i64 x, .int .i64 lo, .int .i64 hi] w fun e w' => e = .returned (.bool (inB x lo hi)) ∧ w = w' := by
  by_cases h1 : lo ≤ x
  · by_cases h2 : x ≤ hi
    · go_enter Try.func66, Try.ntmps66
      go_wp2
      go_ret
      exact ⟨ret_bool (by simp [inB, h1, h2]), rfl⟩
    · go_enter Try.func66, Try.ntmps66
      go_wp2
      go_ret
      exact ⟨ret_bool (by simp [inB, h2]), rfl⟩
  · go_enter Try.func66, Try.ntmps66
    go_wp2
    go_ret
    exact ⟨ret_bool (Eq.symm (Bool.eq_false_iff.2 fun e => by have := inB_iff.1 e; omega)), rfl⟩

set_option maxHeartbeats 400000 in
theorem allIn_any (A : Option Addr) (c : Nat) (xs : List Int) (lo hi : Int) (w : World) {B : Nat} (h : Sees w B A (ints xs)) (hn : xs.length ≤ 4611686018427387904) :
    Calls Try.prog 67 #[.slice A xs.length c, .int .i64 lo, .int .i64 hi] w fun e w' => e = .returned (.bool (allB xs lo hi)) ∧ w = w' := by
  have HN := hid hn; clear hn
  go_enter Try.func67, Try.ntmps67
  go_wp2
  go_loop [7] (fun i => ∃ k : Nat, k ≤ xs.length ∧ i = .int .i64 k ∧ ∀ x ∈ xs.take k, lo ≤ x ∧ x ≤ hi) (fun i => xs.length - (intOf i).toNat)
  case atStart => exact ⟨0, Nat.zero_le _, rfl, by simp⟩
  case round =>
    obtain ⟨k, hk, rfl, hall⟩ := hrel
    have HA := hid hall; clear hall
    have hn := HN.out
    by_cases hlt : k < xs.length
    · obtain ⟨b, o, rfl, _, hc⟩ := h.int hlt
      rcases hx : inB xs[k] lo hi with _ | _
      · go_wp2_with (go_at_call 66; refine (inRange_any _ _ _ _).mono ?_; rintro e w' ⟨rfl, rfl⟩)
        go_ret
        refine ⟨ret_bool (Eq.symm (Bool.eq_false_iff.2 fun e => ?_)), rfl⟩
        exact Bool.eq_false_iff.1 hx (inB_iff.2 (allB_iff.1 e _ (List.getElem_mem hlt)))
      · go_wp2_with (go_at_call 66; refine (inRange_any _ _ _ _).mono ?_; rintro e w' ⟨rfl, rfl⟩)
        go_round
        case rel => exact ⟨k + 1, by omega, by go_num, all_take_succ hlt HA.out (inB_iff.1 hx)⟩
        case measure => simp [intOf]; omega
    · go_wp2
      go_ret
      refine ⟨ret_bool (Eq.symm (allB_iff.2 ?_)), rfl⟩
      have ha := HA.out
      rwa [take_whole hlt] at ha

set_option maxHeartbeats 400000 in
theorem eqIntS_any (A B : Option Addr) (c d : Nat) (xs ys : List Int) (w : World) (h : Sees w w.heap.size A (ints xs)) (h' : Sees w w.heap.size B (ints ys)) (hn : xs.length ≤ 4611686018427387904) :
    Calls Try.prog 41 #[.slice A xs.length c, .slice B ys.length d] w fun e w' => e = .returned (.bool (eqB xs ys)) ∧ Below w.heap.size w w' := by
  have HN := hid hn; clear hn
  by_cases hl : xs.length = ys.length
  · have HL := hid hl; clear hl
    have hd : (xs.length : Int) = ys.length := by have := HL.out; omega
    have hd' : ((xs.length : Int) != ys.length) = false := by simpa using hd
    have HD := hid hd; clear hd
    go_enter Try.func41, Try.ntmps41
    go_wp2
    go_loopw [5] (fun i wr => ∃ k : Nat, k ≤ xs.length ∧ i = .int .i64 k ∧ xs.take k = ys.take k ∧ Below w.heap.size w wr) (fun i _ => xs.length - (intOf i).toNat)
    case atStart => exact ⟨0, Nat.zero_le _, rfl, by simp, Below.refl _ _⟩
    case round =>
      obtain ⟨k, hk, rfl, hall, hb⟩ := hrel
      have HA := hid hall; clear hall
      have hn := HN.out
      have hl := HL.out
      by_cases hlt : k < xs.length
      · have hlt' : k < ys.length := by omega
        have HL := hid hl; clear hl
        obtain ⟨b, o, rfl, _, hc⟩ := (h.below hb).int hlt
        obtain ⟨b', o', rfl, _, hc'⟩ := (h'.below hb).int hlt'
        by_cases hx : xs[k] = ys[k]
        · have hx' : (xs[k] != ys[k]) = false := by simpa using hx
          have HX := hid hx; clear hx
          go_wp2
          go_quiet (fail)
          go_wp2
          go_round
          case rel => exact ⟨k + 1, by omega, by go_num, eq_take_succ hlt hlt' HA.out HX.out, below_drewN hb _⟩
          case measure => simp [intOf]; omega
        · have hx' : (xs[k] != ys[k]) = true := by simpa using hx
          have HX := hid hx; clear hx
          go_wp2
          go_quiet (fail)
          go_wp2
          go_ret
          refine ⟨ret_bool (Eq.symm (Bool.eq_false_iff.2 fun e => ?_)), below_drewN hb _⟩
          have e := eqB_iff.1 e
          subst e
          exact HX.out rfl
      · have HL := hid hl; clear hl
        go_wp2
        go_ret
        refine ⟨ret_bool (Eq.symm (eqB_iff.2 ?_)), hb⟩
        have ha := HA.out
        rwa [take_whole hlt, take_whole (by have := HL.out; omega)] at ha
  · have hd' : ((xs.length : Int) != ys.length) = true := by simpa using (by omega : ¬ (xs.length : Int) = ys.length)
    go_enter Try.func41, Try.ntmps41
    go_wp2
    go_ret
    exact ⟨ret_bool (Eq.symm (Bool.eq_false_iff.2 fun e => hl (by rw [eqB_iff.1 e]))), Below.refl _ _⟩

end Go.Proofs.Ytehdbllpiokbnaa

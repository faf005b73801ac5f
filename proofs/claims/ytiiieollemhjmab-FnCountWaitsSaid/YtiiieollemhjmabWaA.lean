/-
  What the functions on bins of waits answer, the program's and the model's. Condition: none but the bounds that each names.
-/
import Derived.Test.YtiiieollemhjmabBase
import Derived.Test.YtiiieollemhjmabWaitMath
import Derived.Handy
namespace Go.Proofs.Ytiiieollemhjmab
open Go.RowKit Wt

set_option maxHeartbeats 400000 in
theorem waTime_any (t : Int) (w : World) :
    Calls Try.prog 32 #[.int .i64 t] w fun e w' => e = .returned (.bool (inB t 0 1000)) ∧ w = w' := by
  by_cases h1 : 0 ≤ t
  · by_cases h2 : t ≤ 1000
    · go_enter Try.func32, Try.ntmps32
      go_wp2
      go_ret
      exact ⟨ret_bool (inB_iff.2 ⟨h1, h2⟩).symm, rfl⟩
    · go_enter Try.func32, Try.ntmps32
      go_wp2
      go_ret
      exact ⟨ret_bool (Eq.symm (Bool.eq_false_iff.2 fun e => by have := inB_iff.1 e; omega)), rfl⟩
  · go_enter Try.func32, Try.ntmps32
    go_wp2
    go_ret
    exact ⟨ret_bool (Eq.symm (Bool.eq_false_iff.2 fun e => by have := inB_iff.1 e; omega)), rfl⟩

set_option maxHeartbeats 400000 in
theorem waLess_any (a b : Int) (w : World) :
    Calls Try.prog 33 #[.int .i64 a, .int .i64 b] w fun e w' => e = .returned (.int .i64 (min a b)) ∧ w = w' := by
  obtain ⟨M, hM⟩ : ∃ M, M = min a b := ⟨_, rfl⟩
  rw [← hM]
  by_cases h1 : a < b
  · have E := hid (show M = a by omega)
    clear hM
    go_enter Try.func33, Try.ntmps33
    go_wp2
    go_ret
    exact ⟨ret_int E.out.symm, rfl⟩
  · have E := hid (show M = b by omega)
    clear hM
    go_enter Try.func33, Try.ntmps33
    go_wp2
    go_ret
    exact ⟨ret_int E.out.symm, rfl⟩

set_option maxHeartbeats 1000000 in
theorem bitLength_any (x : Int) (w : World) (h0 : 0 ≤ x) (h1 : x ≤ 1000) :
    Calls Try.prog 34 #[.int .i64 x] w fun e w' => e = .returned (.int .i64 (nbits x)) ∧ w = w' := by
  go_enter Try.func34, Try.ntmps34
  go_wp2
  go_loop [3, 4] (fun n r => ∃ (k : Nat) (y : Int), n = .int .i64 k ∧ r = .int .i64 y ∧ Hid (Bits x k y) ∧ 0 ≤ y ∧ y ≤ 1000) (fun _ r => (intOf r).toNat)
  case atStart => exact ⟨0, x, rfl, rfl, hid (Bits.zero x), h0, h1⟩
  case round =>
    obtain ⟨k, y, rfl, rfl, HB, hy0, hy1⟩ := hrel
    have hk := HB.out.most
    by_cases hy : 0 < y
    · have HS := hid (HB.out.step h1 hy)
      have hw : IntKind.i64.wrap ((k : Int) + 1) = (k : Int) + 1 := by rw [IntKind.wrap_i64]; omega
      go_wp2
      go_round
      case rel => exact ⟨k + 1, y / 2, by go_num, rfl, HS, by omega, by omega⟩
      case measure => simp [intOf]; omega
    · have HE := hid (HB.out.all h0 h1 hy)
      go_wp2
      go_ret
      exact ⟨ret_int HE.out, rfl⟩

set_option maxHeartbeats 1000000 in
theorem iBinOf_any (x : Int) (w : World) :
    Calls Try.prog 14 #[.int .i64 x] w fun e w' => e = .returned (.int .i64 (binV x)) ∧ w = w' := by
  rcases hx : inB x 0 1000 with _ | _
  · have HX := hid hx
    have HE := hid (binV_no (x := x) (fun e => by rw [inB_iff.2 e] at hx; cases hx))
    clear hx
    go_enter Try.func14, Try.ntmps14
    go_wp2_with fail
    with_reducible refine (waTime_any x _).mono ?_
    rintro e w' ⟨he, rfl⟩
    rw [HX.out] at he
    subst he
    go_wp2
    go_ret
    exact ⟨ret_int HE.out.symm, rfl⟩
  · have HX := hid hx
    have hr := inB_iff.1 hx
    have HE := hid (binV_yes hr)
    have HM := hid (bits_bin x)
    clear hx
    go_enter Try.func14, Try.ntmps14
    go_wp2_with fail
    with_reducible refine (waTime_any x _).mono ?_
    rintro e w' ⟨he, rfl⟩
    rw [HX.out] at he
    subst he
    go_wp2_with fail
    with_reducible refine (bitLength_any x _ hr.1 hr.2).mono ?_
    rintro e w' ⟨rfl, rfl⟩
    go_wp2_with fail
    with_reducible refine (waLess_any _ _ _).mono ?_
    rintro e w' ⟨he, rfl⟩
    rw [HM.out] at he
    subst he
    go_wp2
    go_ret
    exact ⟨ret_int HE.out.symm, rfl⟩

set_option maxHeartbeats 1000000 in
theorem sbinOf_any (x : Int) (w : World) :
    Calls Try.prog 41 #[.int .i64 x] w fun e w' => e = .returned (.int .i64 (bin x)) ∧ w = w' := by
  go_enter Try.func41, Try.ntmps41
  go_wp2
  go_loop [3, 4] (fun n t => ∃ (k : Nat) (y : Int), n = .int .i64 k ∧ t = .int .i64 y ∧ k ≤ 7 ∧ 1 ≤ y ∧ y ≤ 128 ∧ Hid (Dbl x k y)) (fun n _ => 7 - (intOf n).toNat)
  case atStart => exact ⟨0, 1, rfl, rfl, by omega, by omega, by omega, hid (Dbl.zero x)⟩
  case round =>
    obtain ⟨k, y, rfl, rfl, hk, hy0, hy1, HB⟩ := hrel
    by_cases h1 : y ≤ x
    · have h1' : decide (y ≤ x) = true := by simpa using h1
      by_cases h2 : k < 7
      · have h2' : (k : Int) < 7 := by omega
        have HS := hid (HB.out.step h1 h2)
        have ht := HS.out.top
        go_wp2
        go_round
        case rel => exact ⟨k + 1, 2 * y, by go_num, by first | rfl | go_num, by omega, by omega, by omega, HS⟩
        case measure => simp [intOf]; omega
      · have h2' : ¬ (k : Int) < 7 := by omega
        have HE := hid (HB.out.last (fun e => h2 e.2))
        go_wp2
        go_ret
        exact ⟨ret_int HE.out, rfl⟩
    · have h1' : decide (y ≤ x) = false := by simpa using h1
      have HE := hid (HB.out.last (fun e => h1 e.1))
      go_wp2
      go_ret
      exact ⟨ret_int HE.out, rfl⟩

set_option maxHeartbeats 1000000 in
theorem iBinTop_any (b : Int) (w : World) :
    Calls Try.prog 12 #[.int .i64 b] w fun e w' => e = .returned (.int .i64 (topV b)) ∧ w = w' := by
  by_cases h1 : 0 ≤ b
  · by_cases h2 : b < 8
    · obtain rfl | rfl | rfl | rfl | rfl | rfl | rfl | rfl : b = 0 ∨ b = 1 ∨ b = 2 ∨ b = 3 ∨ b = 4 ∨ b = 5 ∨ b = 6 ∨ b = 7 := by omega
      all_goals
        go_enter Try.func12, Try.ntmps12
        go_wp2
        go_ret
        exact ⟨ret_int (by decide), rfl⟩
    · have HE := hid (topV_no (b := b) (fun e => by omega))
      go_enter Try.func12, Try.ntmps12
      go_wp2
      go_ret
      exact ⟨ret_int HE.out.symm, rfl⟩
  · have HE := hid (topV_no (b := b) (fun e => by omega))
    go_enter Try.func12, Try.ntmps12
    go_wp2
    go_ret
    exact ⟨ret_int HE.out.symm, rfl⟩

set_option maxHeartbeats 1000000 in
theorem sBinTop_any (b : Int) (w : World) :
    Calls Try.prog 13 #[.int .i64 b] w fun e w' => e = .returned (.int .i64 (topV b)) ∧ w = w' := by
  rcases hx : inB b 0 7 with _ | _
  · have HX := hid hx
    have HE := hid (topV_no (b := b) (fun e => by rw [inB_iff.2 e] at hx; cases hx))
    clear hx
    go_enter Try.func13, Try.ntmps13
    go_wp2_with fail
    with_reducible refine (inRange_any b _ _ _).mono ?_
    rintro e w' ⟨he, rfl⟩
    rw [HX.out] at he
    subst he
    go_wp2
    go_ret
    exact ⟨ret_int HE.out.symm, rfl⟩
  · have HX := hid hx
    have hr := inB_iff.1 hx
    have HE := hid (topV_yes hr)
    clear hx
    by_cases h7 : b = 7
    · subst h7
      go_enter Try.func13, Try.ntmps13
      go_wp2_with fail
      with_reducible refine (inRange_any 7 _ _ _).mono ?_
      rintro e w' ⟨he, rfl⟩
      rw [HX.out] at he
      subst he
      go_wp2
      go_ret
      exact ⟨ret_int HE.out.symm, rfl⟩
    · obtain ⟨m, rfl⟩ : ∃ m : Nat, b = m := ⟨b.toNat, by omega⟩
      have hm : m < 7 := by omega
      have hm' : ((m : Int) == 7) = false := by rw [beq_eq_false_iff_ne]; exact h7
      have HP := hid (top_pow hm)
      clear h7
      go_enter Try.func13, Try.ntmps13
      go_wp2_with fail
      with_reducible refine (inRange_any _ _ _ _).mono ?_
      rintro e w' ⟨he, rfl⟩
      rw [HX.out] at he
      subst he
      go_wp2_with fail
      go_loop [3, 4] (fun t i => ∃ (k : Nat) (y : Int), i = .int .i64 k ∧ t = .int .i64 y ∧ k ≤ m ∧ 1 ≤ y ∧ y ≤ 64 ∧ Hid (y = 2 ^ k)) (fun _ i => m - (intOf i).toNat)
      case atStart => exact ⟨0, 1, rfl, rfl, by omega, by omega, by omega, hid rfl⟩
      case round =>
        obtain ⟨k, y, rfl, rfl, hk, hy0, hy1, HB⟩ := hrel
        by_cases h1 : k < m
        · have h1' : (k : Int) < (m : Int) := by omega
          have HD := hid (pow_step HB.out (show k < 6 by omega))
          have ht := HD.out.2
          go_wp2
          go_round
          case rel => exact ⟨k + 1, 2 * y, by go_num, by first | rfl | go_num, by omega, by omega, by omega, hid HD.out.1⟩
          case measure => simp [intOf]; omega
        · have h1' : ¬ (k : Int) < (m : Int) := by omega
          have HK := hid (show k = m by omega)
          go_wp2
          go_ret
          exact ⟨ret_int (by rw [HE.out, ← HP.out, ← HK.out, ← HB.out]), rfl⟩

end Go.Proofs.Ytiiieollemhjmab

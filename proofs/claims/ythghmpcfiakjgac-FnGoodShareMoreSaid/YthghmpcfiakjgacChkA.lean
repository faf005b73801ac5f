/-
  What the program's functions on results of checks answer that give a number or a truth value. Condition: the list lies in memory.
-/
import Derived.Test.YthghmpcfiakjgacBoolA
import Derived.Test.YthghmpcfiakjgacChkMath
import Derived.Laws.ShiftsVarLaws
namespace Go.Proofs.Ythghmpcfiakjgac
open Go.RowKit Chk

theorem chk_inB (f : Int) : inB f 1 12 = decide (1 ≤ f ∧ f ≤ 12) := rfl
set_option maxHeartbeats 400000 in
theorem bitOf_any (x : Bool) (w : World) :
    Calls Try.prog 18 #[.bool x] w fun e w' => e = .returned (.int .u64 ((x.toNat : Nat) : Int)) ∧ w = w' := by
  cases x
  · go_enter Try.func18, Try.ntmps18
    go_wp2
    go_ret
    exact ⟨rfl, rfl⟩
  · go_enter Try.func18, Try.ntmps18
    go_wp2
    go_ret
    exact ⟨rfl, rfl⟩

set_option maxHeartbeats 400000 in
theorem validRun_any (n : Int) (w : World) :
    Calls Try.prog 28 #[.int .i64 n] w fun e w' => e = .returned (.bool (inB n 1 12)) ∧ w = w' := by
  unfold inB
  by_cases h1 : 1 ≤ n
  · go_enter Try.func28, Try.ntmps28
    go_wp2
    go_ret
    exact ⟨ret_bool (by first | (simp; done) | (simp; omega)), rfl⟩
  · go_enter Try.func28, Try.ntmps28
    go_wp2
    go_ret
    exact ⟨ret_bool (by first | (simp; done) | (simp; omega)), rfl⟩

theorem chk_no1 {l : List Bool} {f g : Int} (h : ¬ l.length ≤ 12) : chkB l f g = false := Bool.eq_false_iff.2 fun e => h (chkB_iff.1 e).1
theorem chk_no2 {l : List Bool} {f g : Int} (h : inB f 1 12 = false) : chkB l f g = false := Bool.eq_false_iff.2 fun e => by rw [inB_iff.2 (chkB_iff.1 e).2.1] at h; cases h
theorem chk_no3 {l : List Bool} {f g : Int} (h : inB g 1 12 = false) : chkB l f g = false := Bool.eq_false_iff.2 fun e => by rw [inB_iff.2 (chkB_iff.1 e).2.2] at h; cases h
theorem chk_yes {l : List Bool} {f g : Int} (h1 : l.length ≤ 12) (h2 : inB f 1 12 = true) (h3 : inB g 1 12 = true) : chkB l f g = true := chkB_iff.2 ⟨h1, inB_iff.1 h2, inB_iff.1 h3⟩
set_option maxHeartbeats 1000000 in
theorem ivalidChecks_any (A : Option Addr) (n c : Nat) (l : List Bool) (f g : Int) (w : World) (hn : l.length = n) :
    Calls Try.prog 17 #[.slice A n c, .int .i64 f, .int .i64 g] w fun e w' => e = .returned (.bool (chkB l f g)) ∧ w = w' := by
  subst hn
  by_cases h1 : l.length ≤ 12
  · have hi : (l.length : Int) ≤ 12 := by omega
    rcases h2 : inB f 1 12 with _ | _
    · have E0 := hid (chk_no2 (l := l) (g := g) h2)
      have H2 := hid h2
      clear h2
      go_enter Try.func17, Try.ntmps17
      go_wp2_with fail
      refine (validRun_any f _).mono ?_
      rintro e w' ⟨he, rfl⟩
      rw [H2.out] at he
      subst he
      go_wp2
      go_ret
      exact ⟨ret_bool (by rw [E0.out]), rfl⟩
    · rcases h3 : inB g 1 12 with _ | _
      all_goals
        have E0 := (by first | exact hid (chk_no3 (l := l) (f := f) h3) | exact hid (chk_yes h1 h2 h3))
        have H2 := hid h2
        have H3 := hid h3
        clear h2 h3
        go_enter Try.func17, Try.ntmps17
        go_wp2_with fail
        refine (validRun_any f _).mono ?_
        rintro e w' ⟨he, rfl⟩
        rw [H2.out] at he
        subst he
        go_wp2_with fail
        refine (validRun_any g _).mono ?_
        rintro e w' ⟨he, rfl⟩
        rw [H3.out] at he
        subst he
        go_wp2
        go_ret
        exact ⟨ret_bool (by rw [E0.out]), rfl⟩
  · have E0 := hid (chk_no1 (f := f) (g := g) h1)
    have hi : ¬ (l.length : Int) ≤ 12 := by omega
    go_enter Try.func17, Try.ntmps17
    go_wp2
    go_ret
    exact ⟨ret_bool (by rw [E0.out]), rfl⟩

theorem or_bit (X : Nat) (b : Bool) (h : X < 4096) : bits .or .u64 ((X : Int) * 2) ((b.toNat : Nat) : Int) = ((2 * X + b.toNat : Nat) : Int) := by
  have hb : b.toNat < 2 := by cases b <;> simp
  have e : (X : Int) * 2 = ((2 * X : Nat) : Int) := by omega
  rw [e, u64_or_nat _ _ (by omega) (by omega), nat_join 1 _ _ (by omega) (by omega)]
theorem and_one (X : Nat) (h : X < 4096) : bits .and .u64 (X : Int) 1 = ((X % 2 : Nat) : Int) := by
  have := u64_and_nat X 1 (by omega) (by omega)
  rw [nat_mask1] at this
  exact this
set_option maxHeartbeats 1000000 in
theorem wordOf_any (A : Option Addr) (c : Nat) (l : List Bool) (w : World) {B : Nat} (h : Sees w B A (boos l)) (hn : l.length ≤ 12) :
    Calls Try.prog 26 #[.slice A l.length c] w fun e w' => e = .returned (.int .u64 ((word l : Nat) : Int)) ∧ w = w' := by
  have HN := hid hn; clear hn
  go_enter Try.func26, Try.ntmps26
  go_wp2
  go_loop [3, 8] (fun v i => ∃ k : Nat, k ≤ l.length ∧ i = .int .i64 k ∧ v = .int .u64 ((word (l.take k) : Nat) : Int)) (fun _ i => l.length - (intOf i).toNat)
  case atStart => exact ⟨0, Nat.zero_le _, rfl, rfl⟩
  case round =>
    obtain ⟨k, hk, rfl, rfl⟩ := hrel
    have hn := HN.out
    by_cases hlt : k < l.length
    · have hi : (k : Int) < (l.length : Int) := by omega
      obtain ⟨b, o, rfl, _, hc⟩ := h.boo hlt
      have hX : word (l.take k) < 4096 := word_lt (by rw [List.length_take]; omega)
      have HT := hid (show word (l.take (k + 1)) = 2 * word (l.take k) + (l[k]).toNat by rw [List.take_succ_eq_append_getElem hlt, word_snoc])
      obtain ⟨x, hx⟩ : ∃ x, x = l[k] := ⟨_, rfl⟩
      rw [← hx] at hc HT
      obtain ⟨X, hXX⟩ : ∃ X, X = word (l.take k) := ⟨_, rfl⟩
      rw [← hXX] at hX HT ⊢
      clear hx hXX
      have hor := or_bit X x hX
      go_wp2_with fail
      refine (bitOf_any x _).mono ?_
      rintro e w' ⟨rfl, rfl⟩
      go_wp2
      go_round
      case rel => exact ⟨k + 1, by omega, by go_num, by rw [HT.out]; simp⟩
      case measure => simp [intOf]; omega
    · have hi : ¬ (k : Int) < (l.length : Int) := by omega
      rw [take_whole hlt]
      go_wp2
      go_ret
      exact ⟨rfl, rfl⟩

set_option maxHeartbeats 1000000 in
theorem countBits_any (r : List Bool) (w : World) (hr : r.length ≤ 12) :
    Calls Try.prog 25 #[.int .u64 ((wordR r : Nat) : Int)] w fun e w' => e = .returned (.int .i64 ((r.count true : Nat) : Int)) ∧ w = w' := by
  have HR := hid hr; clear hr
  go_enter Try.func25, Try.ntmps25
  go_wp2
  go_loop [3, 4] (fun v i => ∃ j : Nat, j ≤ r.length ∧ v = .int .i64 (((r.take j).count true : Nat) : Int) ∧ i = .int .u64 ((wordR (r.drop j) : Nat) : Int)) (fun _ i => (intOf i).toNat)
  case atStart => exact ⟨0, Nat.zero_le _, rfl, rfl⟩
  case round =>
    obtain ⟨j, hj, rfl, rfl⟩ := hrel
    have hr := HR.out
    have hX : wordR (r.drop j) < 4096 := by
      have := wordR_lt (r.drop j)
      have h2 : 2 ^ (r.drop j).length ≤ 2 ^ 12 := Nat.pow_le_pow_right (by omega) (by rw [List.length_drop]; omega)
      omega
    have hC : (r.take j).count true ≤ 12 := Nat.le_trans List.count_le_length (by rw [List.length_take]; omega)
    by_cases hz : wordR (r.drop j) = 0
    · have HX := hid (show (r.take j).count true = r.count true by rw [cnt_split r j, wordR_zero hz]; rfl)
      obtain ⟨X, hXX⟩ : ∃ X, X = wordR (r.drop j) := ⟨_, rfl⟩
      obtain ⟨C, hCC⟩ : ∃ C, C = (r.take j).count true := ⟨_, rfl⟩
      rw [← hXX] at hz hX ⊢
      rw [← hCC] at HX hC ⊢
      have hne : ((X : Int) != 0) = false := by simp [hz]
      clear hXX hCC
      go_wp2
      go_ret
      exact ⟨ret_int (by rw [HX.out]), rfl⟩
    · have hlt : j < r.length := by
        rcases Nat.lt_or_ge j r.length with e | e
        · exact e
        · exact absurd (by rw [List.drop_eq_nil_of_le e]; rfl) hz
      have hd := wordR_drop hlt
      have hc := cnt_take_succ hlt
      have hb : (r[j]).toNat < 2 := by cases r[j] <;> simp
      obtain ⟨X, hXX⟩ : ∃ X, X = wordR (r.drop j) := ⟨_, rfl⟩
      obtain ⟨C, hCC⟩ : ∃ C, C = (r.take j).count true := ⟨_, rfl⟩
      rw [← hXX] at hz hX hd ⊢
      rw [← hCC] at hc hC ⊢
      have hand := and_one X hX
      have hm : X % 2 = (r[j]).toNat := by omega
      have hh : X / 2 = wordR (r.drop (j + 1)) := by omega
      have HM := hid (show C + X % 2 = (r.take (j + 1)).count true by omega)
      have HH := hid hh
      have hx2 : X % 2 < 2 := Nat.mod_lt _ (by omega)
      have hne : ((X : Int) != 0) = true := by simpa using hz
      clear hXX hCC hd hc hb hm hh
      go_wp2
      go_round
      case rel => exact ⟨j + 1, by omega, by rw [← HM.out]; first | rfl | (simp; done) | (congr 1; omega), by rw [← HH.out]; first | rfl | (simp; done)⟩
      case measure => simp [intOf]; omega

set_option maxHeartbeats 1000000 in
theorem iLastRun_any (A : Option Addr) (n c : Nat) (l : List Bool) (w : World) {B : Nat} (hl : l.length = n) (h : Sees w B A (boos l)) (hn : l.length ≤ 4194304) :
    Calls Try.prog 22 #[.slice A n c] w fun e w' => e = .returned (.int .i64 (lastRun l)) ∧ w = w' := by
  subst hl
  have HN := hid hn; clear hn
  by_cases h12 : l.length ≤ 12
  · have hi12 : ¬ (l.length : Int) > 12 := by omega
    have E0 := hid (show lastRun l = run l by unfold lastRun; rw [if_pos h12])
    have hX := word_lt h12
    have HB := hid (fun (j : Nat) (hj : j < l.length) => word_bit hj)
    have HB0 := hid (fun (hj : 0 < l.length) => word_bit0 hj)
    go_enter Try.func22, Try.ntmps22
    go_wp2_with fail
    refine (wordOf_any A c l _ h h12).mono ?_
    rintro e w' ⟨rfl, rfl⟩
    obtain ⟨X, hXX⟩ : ∃ X, X = word l := ⟨_, rfl⟩
    rw [← hXX] at hX HB HB0 ⊢
    clear hXX
    have hand := and_one X hX
    go_wp2
    go_loop [4] (fun i => ∃ k : Nat, k ≤ l.length ∧ i = .int .i64 k ∧ Hid (∀ j, j < k → l.getD (l.length - 1 - j) false = l.getD (l.length - 1) false)) (fun i => l.length - (intOf i).toNat)
    case atStart => exact ⟨0, Nat.zero_le _, rfl, hid (by omega)⟩
    case round =>
      obtain ⟨k, hk, rfl, HA⟩ := hrel
      by_cases hlt : k < l.length
      · have hi : (k : Int) < (l.length : Int) := by omega
        have hXk : X / 2 ^ k < 4096 := Nat.lt_of_le_of_lt (Nat.div_le_self _ _) hX
        have hand2 : bits .and .u64 ((X : Int) / 2 ^ k) 1 = ((X / 2 ^ k % 2 : Nat) : Int) := by
          have := and_one (X / 2 ^ k) hXk
          rw [← this]; simp
        have hb1 := HB.out k hlt
        have hb0 := HB0.out (by omega)
        by_cases he : l.getD (l.length - 1 - k) false = l.getD (l.length - 1) false
        · have HX := hid (show ∀ j, j < k + 1 → l.getD (l.length - 1 - j) false = l.getD (l.length - 1) false from fun j hj => by
            rcases Nat.lt_or_ge j k with e | e
            · exact HA.out j e
            · have : j = k := by omega
              subst this; exact he)
          have hq : X / 2 ^ k % 2 = X % 2 := by rw [hb1, hb0, he]
          have hq2 : (((X / 2 ^ k % 2 : Nat) : Int) == ((X % 2 : Nat) : Int)) = true := by rw [hq]; simp
          obtain ⟨Y, hY⟩ : ∃ Y, Y = X / 2 ^ k % 2 := ⟨_, rfl⟩
          rw [← hY] at hand2 hq2
          clear hb1 hb0 he hq hY hXk
          go_wp2
          go_round
          case rel => exact ⟨k + 1, by omega, by go_num, HX⟩
          case measure => simp [intOf]; omega
        · have HX := hid (show run l = k from run_eq hk HA.out (.inr he))
          have hq : ¬ X / 2 ^ k % 2 = X % 2 := by rw [hb1, hb0]; exact fun e => he (toNat_inj.1 e)
          have hq2 : (((X / 2 ^ k % 2 : Nat) : Int) == ((X % 2 : Nat) : Int)) = false := by simp only [beq_eq_false_iff_ne]; exact fun e => hq (by omega)
          obtain ⟨Y, hY⟩ : ∃ Y, Y = X / 2 ^ k % 2 := ⟨_, rfl⟩
          rw [← hY] at hand2 hq2
          clear hb1 hb0 he hq hY hXk
          go_wp2
          go_ret
          exact ⟨ret_int (by rw [E0.out, HX.out]), rfl⟩
      · have hi : ¬ (k : Int) < (l.length : Int) := by omega
        have HX := hid (show run l = k from run_eq hk HA.out (.inl (by omega)))
        go_wp2
        go_ret
        exact ⟨ret_int (by rw [E0.out, HX.out]), rfl⟩
  · have hi12 : (l.length : Int) > 12 := by omega
    have E0 := hid (show lastRun l = -1 by unfold lastRun; rw [if_neg h12])
    go_enter Try.func22, Try.ntmps22
    go_wp2
    go_ret
    exact ⟨ret_int (by rw [E0.out]), rfl⟩

end Go.Proofs.Ythghmpcfiakjgac

/-
  Settings in memory: two cells each; what ValidSettings answers, the program's and the model's; the model's valueOf. Condition: the list lies in memory.
-/
import Derived.Test.YtehdbllpiokbnabBase
import Derived.Test.YtehdbllpiokbnabOwnI
import Derived.Test.YtehdbllpiokbnabOwnB
import Derived.Test.YtehdbllpiokbnabStrip
import Derived.Test.YtehdbllpiokbnabSetMath
import Derived.Handy

namespace Go.Proofs.Ytehdbllpiokbnab
open Go.RowKit Stt

def stcl (x : Stg) : List Value := [.int .i64 x.n, .int .i64 x.v]
theorem stcl_ln : ∀ x, (stcl x).length = 2 := fun _ => rfl
/-- The two cells of the setting k of a row of settings. -/
theorem Sees.stg {w : World} {B : Nat} {A : Option Addr} {l : List Stg} (h : Sees w B A (strip stcl l)) {k : Nat} (hk : k < l.length) :
    ∃ b o, A = some ⟨b, o, none⟩ ∧ b < B ∧ w.cell? ⟨b, o + k * 2, none⟩ = some (.int .i64 l[k].n) ∧ w.cell? ⟨b, o + k * 2 + 1, none⟩ = some (.int .i64 l[k].v) := by
  obtain ⟨b, o, e, hb, hc⟩ := Sees.elem (f := stcl) (s := 2) (fun _ => rfl) (by decide) h hk
  exact ⟨b, o, e, hb, by simpa using hc 0 _ rfl, by simpa [Nat.add_assoc] using hc 1 _ rfl⟩
theorem nmB_no {x : Int} : nmB x = false ↔ ¬ (0 ≤ x ∧ x ≤ 9) := by unfold nmB; simp
set_option maxHeartbeats 400000 in
theorem vName_any (x : Int) (w : World) :
    Calls Try.prog 50 #[.int .i64 x] w fun e w' => e = .returned (.bool (nmB x)) ∧ w = w' := by
  unfold nmB
  by_cases h1 : 0 ≤ x
  · go_enter Try.func50, Try.ntmps50
    go_wp2
    go_ret
    exact ⟨ret_bool (by first | (simp; done) | (simp; omega)), rfl⟩
  · go_enter Try.func50, Try.ntmps50
    go_wp2
    go_ret
    exact ⟨ret_bool (by first | (simp; done) | (simp; omega)), rfl⟩

set_option maxHeartbeats 4000000 in
theorem iValidSettings_any (A : Option Addr) (c : Nat) (l : List Stg) (w : World) (h : Sees w w.heap.size A (strip stcl l)) (hn : l.length ≤ 4194304) :
    Calls Try.prog 19 #[.slice A l.length c] w fun e w' => e = .returned (.bool (setsB l)) ∧ Below w.heap.size w w' := by
  have HN := hid hn; clear hn
  go_enter Try.func19, Try.ntmps19
  go_wp2
  go_loopw [7] (fun i wr => ∃ k : Nat, k ≤ l.length ∧ i = .int .i64 k ∧ Hid (Vk l k) ∧ Below w.heap.size w wr) (fun i _ => l.length - (intOf i).toNat)
  case atStart => exact ⟨0, Nat.zero_le _, rfl, hid (vk_zero l), Below.refl _ _⟩
  case round =>
    obtain ⟨k, hk, rfl, HF, hb⟩ := hrel
    have hn := HN.out
    by_cases hlt : k < l.length
    · have hi : (k : Int) < (l.length : Int) := by omega
      obtain ⟨b, o, rfl, hbl, e0, e1⟩ := (h.below hb).stg hlt
      have hz := hb.size
      have hbw : b < wr.heap.size := by omega
      have HS := hid (fun h1 h2 => vk_succ HF.out hlt h1 h2)
      have HNO := hid (fun hh => sets_not_ok (l := l) hlt hh)
      have HNA := hid (fun h0 hh => sets_not_asc (l := l) hlt h0 hh)
      obtain ⟨x, hx⟩ : ∃ x, x = l[k] := ⟨_, rfl⟩
      rw [← hx] at e0 e1 HS HNO HNA
      have px := At.new wr 68 #[.int .i64 x.n, .int .i64 x.v]
      have hba := hb.alloc hz (.cells #[.int .i64 x.n, .int .i64 x.v] 68)
      obtain ⟨p0, p1⟩ := (show _ ∧ _ from ⟨px.cell 0, px.cell 1⟩)
      rcases hok : nmB x.n with _ | _
      · have HX := hid (HNO.out (fun hh => nmB_no.1 hok hh.1))
        have HO := hid hok
        clear hx hok
        go_wp2_with fail
        with_reducible refine (vName_any x.n _).mono ?_
        rintro e w' ⟨he, rfl⟩
        rw [HO.out] at he
        subst he
        go_wp2
        go_ret
        exact ⟨ret_bool HX.out.symm, hba⟩
      have HO := hid hok
      have HO2 := hid (nmB_iff.1 hok)
      clear hok
      by_cases hv0 : x.v < 0
      · have HX := hid (HNO.out (fun hh => by have := hh.2.1; omega))
        clear hx
        go_wp2_with fail
        with_reducible refine (vName_any x.n _).mono ?_
        rintro e w' ⟨he, rfl⟩
        rw [HO.out] at he
        subst he
        go_wp2
        go_ret
        exact ⟨ret_bool HX.out.symm, hba⟩
      by_cases hv1 : x.v > 20
      · have HX := hid (HNO.out (fun hh => by have := hh.2.2; omega))
        clear hx
        go_wp2_with fail
        with_reducible refine (vName_any x.n _).mono ?_
        rintro e w' ⟨he, rfl⟩
        rw [HO.out] at he
        subst he
        go_wp2
        go_ret
        exact ⟨ret_bool HX.out.symm, hba⟩
      have HOK := hid (show x.ok from ⟨HO2.out, by omega, by omega⟩)
      by_cases hk0 : k = 0
      · have HX := hid (HS.out HOK.out (fun h0 => by omega))
        have hg0 : ¬ (k : Int) > 0 := by omega
        have hg1 : ¬ 0 < k := by omega
        have HK0 := hid hk0
        clear hx hk0
        go_wp2_with fail
        with_reducible refine (vName_any x.n _).mono ?_
        rintro e w' ⟨he, rfl⟩
        rw [HO.out] at he
        subst he
        go_wp2
        go_quiet (fail)
        go_wp2
        go_roundw
        case rel => exact ⟨k + 1, by omega, by go_num, HX, below_drewN hba _⟩
        case measure => simp [intOf]; omega
      · have hkl : k - 1 < l.length := by omega
        obtain ⟨j, hj⟩ : ∃ j, k = j + 1 := ⟨k - 1, by omega⟩
        obtain ⟨b', o', e', _, f0, f1⟩ := (h.below hba).stg (show j < l.length by omega)
        obtain ⟨rfl, rfl⟩ : b = b' ∧ o = o' := by injection e' with e'; injection e' with a b; exact ⟨a, b⟩
        obtain ⟨y, hy⟩ : ∃ y, y = l[j] := ⟨_, rfl⟩
        have HY := hid (show l[k - 1]'hkl = y by subst hj; exact hy.symm)
        rw [← hy] at f0 f1
        have hg0 : (k : Int) > 0 := by omega
        have hg1 : 0 < k := by omega
        have hj0 : (0 : Int) ≤ (k : Int) - 1 := by omega
        have hw1 : IntKind.i64.wrap ((k : Int) - 1) = (k : Int) - 1 := by rw [IntKind.wrap_i64]; omega
        have hjl : (k : Int) - 1 < (l.length : Int) := by omega
        have hw2 : ((k : Int) - 1).toNat = j := by omega
        have HK0 := hid hk0
        have HJ := hid hj
        clear hx hy e' f1 hk0 hj
        by_cases hxy : x.n ≤ y.n
        · have HX := hid (HNA.out (by have := HK0.out; omega) (by rw [HY.out]; omega))
          go_wp2_with fail
          with_reducible refine (vName_any x.n _).mono ?_
          rintro e w' ⟨he, rfl⟩
          rw [HO.out] at he
          subst he
          go_wp2
          go_quiet (fail)
          go_wp2
          go_ret
          exact ⟨ret_bool HX.out.symm, below_drewN hba _⟩
        · have HX := hid (HS.out HOK.out (fun h0 => by rw [HY.out]; omega))
          go_wp2_with fail
          with_reducible refine (vName_any x.n _).mono ?_
          rintro e w' ⟨he, rfl⟩
          rw [HO.out] at he
          subst he
          go_wp2
          go_quiet (fail)
          go_wp2
          go_roundw
          case rel => exact ⟨k + 1, by omega, by go_num, HX, below_drewN hba _⟩
          case measure => simp [intOf]; omega
    · have hi : ¬ (k : Int) < (l.length : Int) := by omega
      have HX := hid (vk_all HF.out hlt)
      go_wp2
      go_ret
      exact ⟨ret_bool HX.out.symm, hb⟩

set_option maxHeartbeats 8000000 in
theorem svalidSettings_any (A : Option Addr) (c : Nat) (l : List Stg) (w : World) (h : Sees w w.heap.size A (strip stcl l)) (hn : l.length ≤ 4194304) :
    Calls Try.prog 48 #[.slice A l.length c] w fun e w' => e = .returned (.bool (setsB l)) ∧ Below w.heap.size w w' := by
  have HN := hid hn
  clear hn
  go_enter Try.func48, Try.ntmps48
  go_wp2
  go_loopw [3] (fun i wr => ∃ k : Nat, k ≤ l.length ∧ i = .int .i64 k ∧ Hid (Vk l k) ∧ Below w.heap.size w wr) (fun i _ => l.length - (intOf i).toNat)
  case atStart => exact ⟨0, Nat.zero_le _, rfl, hid (vk_zero l), Below.refl _ _⟩
  case round =>
    obtain ⟨k, hk, rfl, HF, hb⟩ := hrel
    have hn := HN.out
    by_cases hlt : k < l.length
    · have hi : (k : Int) < (l.length : Int) := by omega
      obtain ⟨b, o, rfl, hbl, e0, e1⟩ := (h.below hb).stg hlt
      have HS := hid (fun h1 h2 => vk_succ HF.out hlt h1 h2)
      have HNO := hid (fun hh => sets_not_ok (l := l) hlt hh)
      have HNA := hid (fun h0 hh => sets_not_asc (l := l) hlt h0 hh)
      obtain ⟨x, hx⟩ : ∃ x, x = l[k] := ⟨_, rfl⟩
      rw [← hx] at e0 e1 HS HNO HNA
      rcases d1 : inB x.n 0 9 with _ | _
      · have HX := hid (HNO.out (fun hh => by rw [inB_iff.2 hh.1] at d1; cases d1))
        have HD := hid d1
        clear d1 hx
        go_wp2
        go_quiet ((go_at_call 55; exact Calls.quiet_of_same ((inRange_any _ _ _ _).mono fun _ _ ⟨he, hw⟩ => ⟨by rw [he, HD.out], hw.symm⟩)))
        go_wp2
        go_ret
        exact ⟨ret_bool HX.out.symm, below_drewN hb _⟩
      rcases d2 : inB x.v 0 20 with _ | _
      · have HX := hid (HNO.out (fun hh => by rw [inB_iff.2 hh.2] at d2; cases d2))
        have HD := hid d1
        have HD2 := hid d2
        clear d1 d2 hx
        go_wp2
        go_quiet ((go_at_call 55; exact Calls.quiet_of_same ((inRange_any _ _ _ _).mono fun _ _ ⟨he, hw⟩ => ⟨by first | rw [he, HD.out] | rw [he, HD2.out], hw.symm⟩)))
        go_wp2
        go_ret
        exact ⟨ret_bool HX.out.symm, below_drewN hb _⟩
      have HOK := hid (show x.ok from ⟨inB_iff.1 d1, inB_iff.1 d2⟩)
      have HD := hid d1
      have HD2 := hid d2
      clear d1 d2
      by_cases hk0 : k = 0
      · have HX := hid (HS.out HOK.out (fun h0 => by omega))
        have hg1 : ¬ 0 < k := by omega
        have HK0 := hid hk0
        clear hx hk0
        go_wp2
        go_quiet ((go_at_call 55; exact Calls.quiet_of_same ((inRange_any _ _ _ _).mono fun _ _ ⟨he, hw⟩ => ⟨by first | rw [he, HD.out] | rw [he, HD2.out], hw.symm⟩)))
        go_wp2
        go_roundw
        case rel => exact ⟨k + 1, by omega, by go_num, HX, below_drewN hb _⟩
        case measure => simp [intOf]; omega
      · have hkl : k - 1 < l.length := by omega
        obtain ⟨j, hj⟩ : ∃ j, k = j + 1 := ⟨k - 1, by omega⟩
        obtain ⟨b', o', e', _, f0, f1⟩ := (h.below hb).stg (show j < l.length by omega)
        obtain ⟨rfl, rfl⟩ : b = b' ∧ o = o' := by injection e' with e'; injection e' with a b; exact ⟨a, b⟩
        obtain ⟨y, hy⟩ : ∃ y, y = l[j] := ⟨_, rfl⟩
        have HY := hid (show l[k - 1]'hkl = y by subst hj; exact hy.symm)
        rw [← hy] at f0 f1
        have hg1 : 0 < k := by omega
        have hj0 : (0 : Int) ≤ (k : Int) - 1 := by omega
        have hw1 : IntKind.i64.wrap ((k : Int) - 1) = (k : Int) - 1 := by rw [IntKind.wrap_i64]; omega
        have hjl : (k : Int) - 1 < (l.length : Int) := by omega
        have hw2 : ((k : Int) - 1).toNat = j := by omega
        have HK0 := hid hk0
        have HJ := hid hj
        clear hx hy e' f1 hk0 hj
        by_cases hxy : x.n ≤ y.n
        · have HX := hid (HNA.out (by have := HK0.out; omega) (by rw [HY.out]; omega))
          go_wp2
          go_quiet ((go_at_call 55; exact Calls.quiet_of_same ((inRange_any _ _ _ _).mono fun _ _ ⟨he, hw⟩ => ⟨by first | rw [he, HD.out] | rw [he, HD2.out], hw.symm⟩)))
          go_wp2
          go_ret
          exact ⟨ret_bool HX.out.symm, below_drewN hb _⟩
        · have HX := hid (HS.out HOK.out (fun h0 => by rw [HY.out]; omega))
          go_wp2
          go_quiet ((go_at_call 55; exact Calls.quiet_of_same ((inRange_any _ _ _ _).mono fun _ _ ⟨he, hw⟩ => ⟨by first | rw [he, HD.out] | rw [he, HD2.out], hw.symm⟩)))
          go_wp2
          go_roundw
          case rel => exact ⟨k + 1, by omega, by go_num, HX, below_drewN hb _⟩
          case measure => simp [intOf]; omega
    · have hi : ¬ (k : Int) < (l.length : Int) := by omega
      have HX := hid (vk_all HF.out hlt)
      go_wp2
      go_ret
      exact ⟨ret_bool HX.out.symm, hb⟩

end Go.Proofs.Ytehdbllpiokbnab

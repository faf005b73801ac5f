/-
  Setting in lists: sizes from any bound on, markings from any count on that are not read again. Condition: the list lies in memory and is at most 2^22 long.
-/
import Derived.Test.YtehdbllpiokbnaaSsSetting
namespace Go.Proofs.Ytehdbllpiokbnaa
open Go.RowKit Stt

set_option maxHeartbeats 400000 in
theorem szSettingS_g (A : Option Addr) (n c left : Nat) (w : World) (hn : n ≤ maxLen) (hl : left ≤ 1048576) :
    Calls Try.prog 17 #[.slice A n c, .int .i64 left] w fun e w' => e = .returned (.int .i64 (if left < n then -1 else (left : Int) - n)) ∧ w = w' := by
  unfold maxLen at hn
  have hw : IntKind.i64.wrap ((left : Int) - (n : Int)) = (left : Int) - (n : Int) := by rw [IntKind.wrap_i64]; omega
  by_cases h : left < n
  · have h1 : (left : Int) - (n : Int) < 0 := by omega
    rw [if_pos h]
    go_enter Try.func17, Try.ntmps17
    go_wp2
    go_ret
    exact ⟨rfl, rfl⟩
  · have h1 : ¬ (left : Int) - (n : Int) < 0 := by omega
    rw [if_neg h]
    go_enter Try.func17, Try.ntmps17
    go_wp2
    go_ret
    exact ⟨rfl, rfl⟩

set_option maxHeartbeats 4000000 in
theorem markSettingS_z (k0 : Int) (base : Nat) (A : Option Addr) (c : Nat) (ys : List Stg) (w : World) (h : OwnS 76 2 stcl w base (.slice A ys.length c) ys) (hn : ys.length ≤ 4194304) (h0 : 0 ≤ k0) (h1 : k0 ≤ 1073741824) :
    Calls Try.prog 24 #[.slice A ys.length c, .int .i64 k0] w fun e w' => e = .returned (.int .i64 (k0 + 2 * ys.length)) ∧ w.grownBy w' (Value.slice A ys.length c).ownBlock := by
  have HN := hid hn; clear hn
  rcases hv : A with _ | ⟨g, o, spot⟩
  · subst hv
    have hl : ys.length = 0 := by
      rcases h.2 with ⟨_, e⟩ | ⟨_, _, _, e, _⟩
      · exact e
      · cases e
    have hys : ys = [] := List.eq_nil_of_length_eq_zero hl
    subst hys
    go_enter Try.func24, Try.ntmps24
    go_wp2
    go_loopw [1, 5] (fun m i wr => m = .int .i64 k0 ∧ i = .int .i64 0 ∧ wr = w) (fun _ _ _ => 0)
    case atStart => exact ⟨rfl, rfl, rfl⟩
    case round =>
      obtain ⟨rfl, rfl, rfl⟩ := hrel
      go_wp2
      go_ret
      exact ⟨by simp, grown_refl _ _⟩
  · have ho0 : o = 0 ∧ spot = none := by
      rcases h.2 with ⟨e, _⟩ | ⟨g', cap, cur, e, _⟩
      · rw [hv] at e; cases e
      · rw [hv] at e
        injection e with e1 e2 e3
        injection e1 with e1
        injection e1 with e1 e4 e5
        exact ⟨e4, e5⟩
    obtain ⟨rfl, rfl⟩ := ho0
    subst hv
    obtain ⟨n, hnn⟩ : ∃ n, n = ys.length := ⟨_, rfl⟩
    have hrow : w.ownsRow base 76 2 (.slice (some ⟨g, 0, none⟩) n c) n (strip stcl ys) := by rw [hnn]; exact h
    have HY := hid hnn.symm
    rw [← hnn] at HN ⊢
    clear h hnn
    go_enter Try.func24, Try.ntmps24
    go_wp2
    go_loopw [1, 5] (fun m i wr => ∃ (k : Nat) (zs : List Stg), k ≤ n ∧ m = .int .i64 (k0 + 2 * k) ∧ i = .int .i64 k ∧ Hid (zs.length = n) ∧ wr.ownsRow base 76 2 (.slice (some ⟨g, 0, none⟩) n c) n (strip stcl zs) ∧ w.grownBy wr (some g)) (fun _ i _ => n - (intOf i).toNat)
    case atStart => exact ⟨0, ys, Nat.zero_le _, by simp, rfl, HY, hrow, grown_refl _ _⟩
    case round =>
      clear hrow
      obtain ⟨k, zs, hk, rfl, rfl, HZ, ho, hg⟩ := hrel
      have hn := HN.out
      by_cases hlt : k < n
      · have hi : (k : Int) < (n : Int) := by omega
        have hlen : k < zs.length := by rw [HZ.out]; exact hlt
        obtain ⟨u0, u1⟩ := setting_at ho hlen
        have hfr := row_thaw ho
        have hput := setting_put ho hlen ⟨k0 + 2 * (k : Int), k0 + 2 * (k : Int) + 1⟩
        have HP := hid hput
        clear hput ho
        have hw0 : IntKind.i64.wrap (k0 + 2 * (k : Int) + 1) = k0 + 2 * (k : Int) + 1 := by rw [IntKind.wrap_i64]; omega
        have hw1 : IntKind.i64.wrap (k0 + 2 * (k : Int) + 1 + 1) = k0 + 2 * (k : Int) + 2 := by rw [IntKind.wrap_i64]; omega
        go_wp2
        go_roundw
        case rel => exact ⟨k + 1, _, by omega, by go_num, by go_num, hid (by rw [List.length_set]; exact HZ.out), HP.out, grown_trans (grown_trans hg (grown_set _ _ _ _)) (grown_set _ _ _ _)⟩
        case measure => simp [intOf]; omega
      · have hi : ¬ (k : Int) < (n : Int) := by omega
        have hke : (k : Int) = (n : Int) := by omega
        go_wp2
        go_ret
        exact ⟨by first | rfl | simp, hg⟩

end Go.Proofs.Ytehdbllpiokbnaa

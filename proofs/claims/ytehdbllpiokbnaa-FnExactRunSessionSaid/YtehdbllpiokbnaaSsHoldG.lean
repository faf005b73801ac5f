/-
  Hold in lists: what the exact laws' helpers answer from any count on. Condition: the list lies in memory and is at most 2^22 long, the count from 0 on and at most 2^30.
-/
import Derived.Test.YtehdbllpiokbnaaSsHold

namespace Go.Proofs.Ytehdbllpiokbnaa
open Go.RowKit Pol

def Ho.mkG (k0 : Nat) (i : Nat) : Ho := ⟨k0 + 2 * (i : Int), k0 + 2 * (i : Int) + 1⟩
def Ho.marksG (k0 n : Nat) : List Ho := (List.range n).map (Ho.mkG k0)
theorem Ho.marksG_len (k0 n : Nat) : (Ho.marksG k0 n).length = n := by simp [Ho.marksG]
theorem Ho.marksG_succ (k0 n : Nat) : Ho.marksG k0 (n + 1) = Ho.marksG k0 n ++ [Ho.mkG k0 n] := by simp [Ho.marksG, List.range_succ]
theorem Ho.marksG_at {k0 n k : Nat} (h : k < (Ho.marksG k0 n).length) : (Ho.marksG k0 n)[k] = Ho.mkG k0 k := by simp [Ho.marksG]
def Ho.markedG (k0 k : Nat) (ys : List Ho) : List Ho := Ho.marksG k0 k ++ ys.drop k
theorem Ho.markedG_len {k0 k : Nat} {ys : List Ho} (h : k ≤ ys.length) : (Ho.markedG k0 k ys).length = ys.length := by simp [Ho.markedG, Ho.marksG_len]; omega
theorem Ho.markedG_zero (k0 : Nat) (ys : List Ho) : Ho.markedG k0 0 ys = ys := by simp [Ho.markedG, Ho.marksG]
theorem Ho.markedG_all {k0 k : Nat} {ys : List Ho} (h : ¬ k < ys.length) (hk : k ≤ ys.length) : Ho.markedG k0 k ys = Ho.marksG k0 ys.length := by
  have : k = ys.length := by omega
  subst this
  simp [Ho.markedG]
theorem Ho.markedG_set {k0 k : Nat} {ys : List Ho} (h : k < ys.length) : (Ho.markedG k0 k ys).set k (Ho.mkG k0 k) = Ho.markedG k0 (k + 1) ys := by
  unfold Ho.markedG
  rw [List.set_append_right _ _ (by simp [Ho.marksG_len]), Ho.marksG_succ, Ho.marksG_len, Nat.sub_self, List.drop_eq_getElem_cons h, List.set_cons_zero, List.append_assoc]
  rfl
set_option maxHeartbeats 400000 in
theorem szHoldS_g (A : Option Addr) (n c left : Nat) (w : World) (hn : n ≤ maxLen) (hl : left ≤ 1048576) :
    Calls Try.prog 32 #[.slice A n c, .int .i64 left] w fun e w' => e = .returned (.int .i64 (if left < n then -1 else (left : Int) - n)) ∧ w = w' := by
  unfold maxLen at hn
  have hw : IntKind.i64.wrap ((left : Int) - (n : Int)) = (left : Int) - (n : Int) := by rw [IntKind.wrap_i64]; omega
  by_cases h : left < n
  · have h1 : (left : Int) - (n : Int) < 0 := by omega
    rw [if_pos h]
    go_enter Try.func32, Try.ntmps32
    go_wp2
    go_ret
    exact ⟨rfl, rfl⟩
  · have h1 : ¬ (left : Int) - (n : Int) < 0 := by omega
    rw [if_neg h]
    go_enter Try.func32, Try.ntmps32
    go_wp2
    go_ret
    exact ⟨rfl, rfl⟩

set_option maxHeartbeats 4000000 in
theorem markHoldS_g (k0 base : Nat) (A : Option Addr) (c : Nat) (ys : List Ho) (w : World) (h : OwnS 91 2 hcells w base (.slice A ys.length c) ys) (hn : ys.length ≤ 4194304) (hk0 : k0 ≤ 1073741824) :
    Calls Try.prog 52 #[.slice A ys.length c, .int .i64 k0] w fun e w' => e = .returned (.int .i64 ((k0 : Int) + 2 * ys.length)) ∧ OwnS 91 2 hcells w' base (.slice A ys.length c) (Ho.marksG k0 ys.length) ∧ w.grownBy w' (Value.slice A ys.length c).ownBlock := by
  have HN := hid hn; clear hn
  have HK := hid hk0; clear hk0
  rcases hv : A with _ | ⟨g, o, spot⟩
  · subst hv
    have hl : ys.length = 0 := by
      rcases h.2 with ⟨_, e⟩ | ⟨_, _, _, e, _⟩
      · exact e
      · cases e
    have hys : ys = [] := List.eq_nil_of_length_eq_zero hl
    subst hys
    go_enter Try.func52, Try.ntmps52
    go_wp2
    go_loopw [1, 5] (fun m i wr => m = .int .i64 k0 ∧ i = .int .i64 0 ∧ wr = w) (fun _ _ _ => 0)
    case atStart => exact ⟨rfl, rfl, rfl⟩
    case round =>
      obtain ⟨rfl, rfl, rfl⟩ := hrel
      go_wp2
      go_ret
      exact ⟨by simp, h, grown_refl _ _⟩
  · have ho0 : o = 0 ∧ spot = none := by
      rcases h.2 with ⟨e, _⟩ | ⟨g', cap, cur, e, _⟩
      · rw [hv] at e; cases e
      · rw [hv] at e
        injection e with e1 e2 e3
        injection e1 with e1
        injection e1 with e1 e4 e5
        exact ⟨e4, e5⟩
    obtain ⟨rfl, rfl⟩ := ho0
    subst hv
    go_enter Try.func52, Try.ntmps52
    go_wp2
    go_loopw [1, 5] (fun m i wr => ∃ k : Nat, k ≤ ys.length ∧ m = .int .i64 ((k0 : Int) + 2 * k) ∧ i = .int .i64 k ∧ wr.ownsRow base 91 2 (.slice (some ⟨g, 0, none⟩) ys.length c) ys.length (strip hcells (Ho.markedG k0 k ys)) ∧ w.grownBy wr (some g)) (fun _ i _ => ys.length - (intOf i).toNat)
    case atStart => exact ⟨0, Nat.zero_le _, by simp, rfl, by rw [Ho.markedG_zero]; exact h, grown_refl _ _⟩
    case round =>
      obtain ⟨k, hk, rfl, rfl, ho, hg⟩ := hrel
      have hn := HN.out
      have hk0 := HK.out
      by_cases hlt : k < ys.length
      · have hi : (k : Int) < (ys.length : Int) := by omega
        have hlen : k < (Ho.markedG k0 k ys).length := by rw [Ho.markedG_len hk]; exact hlt
        obtain ⟨u0, u1⟩ := hold_at ho hlen
        have hfr := row_thaw ho
        have hput := hold_put ho hlen (Ho.mkG k0 k)
        rw [Ho.markedG_set hlt] at hput
        have HP := hid hput
        clear hput ho
        have hw0 : IntKind.i64.wrap ((k0 : Int) + 2 * (k : Int) + 1) = (k0 : Int) + 2 * (k : Int) + 1 := by rw [IntKind.wrap_i64]; omega
        have hw1 : IntKind.i64.wrap ((k0 : Int) + 2 * (k : Int) + 1 + 1) = (k0 : Int) + 2 * (k : Int) + 2 := by rw [IntKind.wrap_i64]; omega
        go_wp2
        go_roundw
        case rel => exact ⟨k + 1, by omega, by go_num, by go_num, HP.out, grown_trans (grown_trans hg (grown_set _ _ _ _)) (grown_set _ _ _ _)⟩
        case measure => simp [intOf]; omega
      · have hi : ¬ (k : Int) < (ys.length : Int) := by omega
        rw [Ho.markedG_all hlt hk] at ho
        have hke : (k : Int) = (ys.length : Int) := by omega
        go_wp2
        go_ret
        exact ⟨by simp, by unfold OwnS; rw [Ho.marksG_len]; exact ho, hg⟩

set_option maxHeartbeats 4000000 in
theorem heldHoldS_g (k0 : Nat) (A : Option Addr) (m c : Nat) (w : World) {B : Nat} (h : Sees w B A (strip hcells (Ho.marksG k0 m))) (hn : m ≤ 4194304) (hk0 : k0 ≤ 1073741824) :
    Calls Try.prog 54 #[.slice A m c, .int .i64 k0] w fun e w' => e = .returned (.int .i64 ((k0 : Int) + 2 * m)) ∧ w = w' := by
  have HN := hid hn; clear hn
  have HK := hid hk0; clear hk0
  go_enter Try.func54, Try.ntmps54
  go_wp2
  go_loopw [1, 5] (fun v i wr => ∃ k : Nat, k ≤ m ∧ v = .int .i64 ((k0 : Int) + 2 * k) ∧ i = .int .i64 k ∧ wr = w) (fun _ i _ => m - (intOf i).toNat)
  case atStart => exact ⟨0, Nat.zero_le _, by simp, rfl, rfl⟩
  case round =>
    obtain ⟨k, hk, rfl, rfl, rfl⟩ := hrel
    have hn := HN.out
    have hk0 := HK.out
    by_cases hlt : k < m
    · have hi : (k : Int) < (m : Int) := by omega
      obtain ⟨b, o, rfl, _, hc⟩ := Sees.elem hcells_len (by decide) h (k := k) (by rw [Ho.marksG_len]; exact hlt)
      rw [Ho.marksG_at] at hc
      have e0 : wr.cell? ⟨b, o + k * 2, none⟩ = some (.int .i64 ((k0 : Int) + 2 * (k : Int))) := by simpa [Nat.add_assoc, Ho.mkG] using hc 0 _ rfl
      have e1 : wr.cell? ⟨b, o + k * 2 + 1, none⟩ = some (.int .i64 ((k0 : Int) + 2 * (k : Int) + 1)) := by simpa [Nat.add_assoc, Ho.mkG] using hc 1 _ rfl
      clear hc
      have hw0 : IntKind.i64.wrap ((k0 : Int) + 2 * (k : Int) + 1) = (k0 : Int) + 2 * (k : Int) + 1 := by rw [IntKind.wrap_i64]; omega
      have hw1 : IntKind.i64.wrap ((k0 : Int) + 2 * (k : Int) + 1 + 1) = (k0 : Int) + 2 * (k : Int) + 2 := by rw [IntKind.wrap_i64]; omega
      go_wp2
      go_roundw
      case rel => exact ⟨k + 1, by omega, by go_num, by go_num, by trivial⟩
      case measure => simp [intOf]; omega
    · have hke : (k : Int) = (m : Int) := by omega
      have hi : ¬ (k : Int) < (m : Int) := by omega
      go_wp2
      go_ret
      exact ⟨by simp, by trivial⟩

end Go.Proofs.Ytehdbllpiokbnaa

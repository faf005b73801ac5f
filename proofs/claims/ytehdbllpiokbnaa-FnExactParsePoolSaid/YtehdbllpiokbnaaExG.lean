/-
  What the helpers of the exact laws do on lists of numbers from any count on: szIntS, markIntS, heldIntS. Condition: the list is at most 2^22 long, the count from 0 on and at most 2^30.
-/
import Derived.Test.YtehdbllpiokbnaaExF
namespace Go.Proofs.Ytehdbllpiokbnaa
open Go.RowKit

/-- k0, k0 + 1, .. -/
def marksG (k0 n : Nat) : List Int := (List.range n).map fun (i : Nat) => (k0 : Int) + (i : Int)
theorem marksG_len (k0 n : Nat) : (marksG k0 n).length = n := by simp [marksG]
theorem marksG_succ (k0 n : Nat) : marksG k0 (n + 1) = marksG k0 n ++ [(k0 : Int) + (n : Int)] := by simp [marksG, List.range_succ]
theorem marksG_at {k0 n k : Nat} (h : k < (marksG k0 n).length) : (marksG k0 n)[k] = (k0 : Int) + (k : Int) := by simp [marksG]
/-- The first k of a list marked. -/
def markedG (k0 k : Nat) (ys : List Int) : List Int := marksG k0 k ++ ys.drop k
theorem markedG_len {k0 k : Nat} {ys : List Int} (h : k ≤ ys.length) : (markedG k0 k ys).length = ys.length := by simp [markedG, marksG_len]; omega
theorem markedG_zero (k0 : Nat) (ys : List Int) : markedG k0 0 ys = ys := by simp [markedG, marksG]
theorem markedG_all {k0 k : Nat} {ys : List Int} (h : ¬ k < ys.length) (hk : k ≤ ys.length) : markedG k0 k ys = marksG k0 ys.length := by
  have : k = ys.length := by omega
  subst this
  simp [markedG]
theorem markedG_set {k0 k : Nat} {ys : List Int} (h : k < ys.length) : (markedG k0 k ys).set k ((k0 : Int) + (k : Int)) = markedG k0 (k + 1) ys := by
  unfold markedG
  rw [List.set_append_right _ _ (by simp [marksG_len]), marksG_succ, marksG_len, Nat.sub_self, List.drop_eq_getElem_cons h, List.set_cons_zero, List.append_assoc]
  rfl
theorem seesG_marks {w : World} {base : Nat} {A : Option Addr} {c k0 m : Nat} (h : Own w base (.slice A m c) (marksG k0 m)) : Sees w w.heap.size A (ints (marksG k0 m)) := by
  have h' : Own w base (.slice A (marksG k0 m).length c) (marksG k0 m) := by rw [marksG_len]; exact h
  exact Sees.of_own h'.out
set_option maxHeartbeats 400000 in
theorem szIntS_g (A : Option Addr) (n c left : Nat) (w : World) (hn : n ≤ maxLen) (hl : left ≤ 1048576) :
    Calls Try.prog 31 #[.slice A n c, .int .i64 left] w fun e w' => e = .returned (.int .i64 (if left < n then -1 else (left : Int) - n)) ∧ w = w' := by
  unfold maxLen at hn
  have hw : IntKind.i64.wrap ((left : Int) - (n : Int)) = (left : Int) - (n : Int) := by rw [IntKind.wrap_i64]; omega
  by_cases h : left < n
  · have h1 : (left : Int) - (n : Int) < 0 := by omega
    rw [if_pos h]
    go_enter Try.func31, Try.ntmps31
    go_wp2
    go_ret
    exact ⟨rfl, rfl⟩
  · have h1 : ¬ (left : Int) - (n : Int) < 0 := by omega
    rw [if_neg h]
    go_enter Try.func31, Try.ntmps31
    go_wp2
    go_ret
    exact ⟨rfl, rfl⟩

set_option maxHeartbeats 1000000 in
theorem markIntS_g (k0 base : Nat) (A : Option Addr) (c : Nat) (ys : List Int) (w : World) (h : Own w base (.slice A ys.length c) ys) (hn : ys.length ≤ 4194304) (hk0 : k0 ≤ 1073741824) :
    Calls Try.prog 51 #[.slice A ys.length c, .int .i64 k0] w fun e w' => e = .returned (.int .i64 ((k0 : Int) + ys.length)) ∧ Own w' base (.slice A ys.length c) (marksG k0 ys.length) ∧ w.grownBy w' (Value.slice A ys.length c).ownBlock := by
  have HN := hid hn; clear hn
  have HK := hid hk0; clear hk0
  rcases hv : A with _ | ⟨g, o, spot⟩
  · subst hv
    have hl : ys.length = 0 := by
      rcases h.2 with ⟨_, e⟩ | ⟨_, _, _, e, _⟩
      · exact e
      · cases e
    have hys : ys = [] := List.eq_nil_of_length_eq_zero hl
    subst hys
    go_enter Try.func51, Try.ntmps51
    go_wp2
    go_loopw [1, 5] (fun m i wr => m = .int .i64 k0 ∧ i = .int .i64 0 ∧ wr = w) (fun _ _ _ => 0)
    case atStart => exact ⟨rfl, rfl, rfl⟩
    case round =>
      obtain ⟨rfl, rfl, rfl⟩ := hrel
      go_wp2
      go_ret
      exact ⟨by simp, h, grown_refl _ _⟩
  · have ho0 : o = 0 ∧ spot = none := by
      rcases h.2 with ⟨e, _⟩ | ⟨g', cap, cur, e, _⟩
      · rw [hv] at e; cases e
      · rw [hv] at e
        injection e with e1 e2 e3
        injection e1 with e1
        injection e1 with e1 e4 e5
        exact ⟨e4, e5⟩
    obtain ⟨rfl, rfl⟩ := ho0
    subst hv
    go_enter Try.func51, Try.ntmps51
    go_wp2
    go_loopw [1, 5] (fun m i wr => ∃ k : Nat, k ≤ ys.length ∧ m = .int .i64 ((k0 : Int) + k) ∧ i = .int .i64 k ∧ Own wr base (.slice (some ⟨g, 0, none⟩) ys.length c) (markedG k0 k ys) ∧ w.grownBy wr (some g)) (fun _ i _ => ys.length - (intOf i).toNat)
    case atStart => exact ⟨0, Nat.zero_le _, by simp, rfl, by rw [markedG_zero]; exact h, grown_refl _ _⟩
    case round =>
      obtain ⟨k, hk, rfl, rfl, ho, hg⟩ := hrel
      have hn := HN.out
      have hk0 := HK.out
      by_cases hlt : k < ys.length
      · have hi : (k : Int) < (ys.length : Int) := by omega
        have hlen := markedG_len (k0 := k0) (k := k) (ys := ys) hk
        have ho' : Own wr base (.slice (some ⟨g, 0, none⟩) (markedG k0 k ys).length c) (markedG k0 k ys) := by rw [hlen]; exact ho
        obtain ⟨u, hcell⟩ : ∃ u, wr.cell? ⟨g, k, none⟩ = some (.int .i64 u) := ⟨_, ho'.at_ (i := k) (by omega)⟩
        have hfr := ho'.thaw
        have hput := ho'.put (i := k) ((k0 : Int) + (k : Int))
        rw [markedG_set hlt, markedG_len (by omega)] at hput
        have hw1 : IntKind.i64.wrap ((k0 : Int) + (k : Int) + 1) = (k0 : Int) + ((k + 1 : Nat) : Int) := by rw [IntKind.wrap_i64]; omega
        clear ho' hlen
        go_wp2
        go_roundw
        case rel => exact ⟨k + 1, by omega, by go_num, by go_num, hput, grown_trans hg (grown_set _ _ _ _)⟩
        case measure => simp [intOf]; omega
      · have hi : ¬ (k : Int) < (ys.length : Int) := by omega
        rw [markedG_all hlt hk] at ho
        have hke : (k : Int) = (ys.length : Int) := by omega
        go_wp2
        go_ret
        exact ⟨by simp, ho, hg⟩

set_option maxHeartbeats 1000000 in
theorem heldIntS_g (k0 : Nat) (A : Option Addr) (m c : Nat) (w : World) {B : Nat} (h : Sees w B A (ints (marksG k0 m))) (hn : m ≤ 4194304) (hk0 : k0 ≤ 1073741824) :
    Calls Try.prog 53 #[.slice A m c, .int .i64 k0] w fun e w' => e = .returned (.int .i64 ((k0 : Int) + m)) ∧ w = w' := by
  have HN := hid hn; clear hn
  have HK := hid hk0; clear hk0
  go_enter Try.func53, Try.ntmps53
  go_wp2
  go_loopw [1, 5] (fun v i wr => ∃ k : Nat, k ≤ m ∧ v = .int .i64 ((k0 : Int) + k) ∧ i = .int .i64 k ∧ wr = w) (fun _ i _ => m - (intOf i).toNat)
  case atStart => exact ⟨0, Nat.zero_le _, by simp, rfl, rfl⟩
  case round =>
    obtain ⟨k, hk, rfl, rfl, rfl⟩ := hrel
    have hn := HN.out
    have hk0 := HK.out
    by_cases hlt : k < m
    · have hi : (k : Int) < (m : Int) := by omega
      obtain ⟨b, o, rfl, _, hc⟩ := h.int (k := k) (by rw [marksG_len]; exact hlt)
      rw [marksG_at] at hc
      have hw1 : IntKind.i64.wrap ((k0 : Int) + (k : Int) + 1) = (k0 : Int) + ((k + 1 : Nat) : Int) := by rw [IntKind.wrap_i64]; omega
      go_wp2
      go_roundw
      case rel => exact ⟨k + 1, by omega, by go_num, by go_num, by trivial⟩
      case measure => simp [intOf]; omega
    · have hke : (k : Int) = (m : Int) := by omega
      have hi : ¬ (k : Int) < (m : Int) := by omega
      go_wp2
      go_ret
      exact ⟨by simp, by trivial⟩

end Go.Proofs.Ytehdbllpiokbnaa

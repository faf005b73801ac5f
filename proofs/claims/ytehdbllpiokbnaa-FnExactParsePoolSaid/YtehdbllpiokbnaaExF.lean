/-
  What the helpers of the exact laws do that mark a list of the call's own (1, 2, 3 ..) and read the marks again. Condition: the list is at most 2^22 long.
-/
import Derived.Test.YtehdbllpiokbnaaExA
namespace Go.Proofs.Ytehdbllpiokbnaa
open Go.RowKit

/-- 1, 2, .. -/
def marks (n : Nat) : List Int := (List.range n).map fun (i : Nat) => 1 + (i : Int)
theorem marks_len (n : Nat) : (marks n).length = n := by simp [marks]
theorem marks_succ (n : Nat) : marks (n + 1) = marks n ++ [1 + (n : Int)] := by simp [marks, List.range_succ]
theorem marks_at {n k : Nat} (h : k < (marks n).length) : (marks n)[k] = 1 + (k : Int) := by simp [marks]
/-- The first k of a list marked. -/
def marked (k : Nat) (ys : List Int) : List Int := marks k ++ ys.drop k
theorem marked_len {k : Nat} {ys : List Int} (h : k ≤ ys.length) : (marked k ys).length = ys.length := by simp [marked, marks_len]; omega
theorem marked_zero (ys : List Int) : marked 0 ys = ys := by simp [marked, marks]
theorem marked_all {k : Nat} {ys : List Int} (h : ¬ k < ys.length) (hk : k ≤ ys.length) : marked k ys = marks ys.length := by
  have : k = ys.length := by omega
  subst this
  simp [marked]
theorem marked_set {k : Nat} {ys : List Int} (h : k < ys.length) : (marked k ys).set k (1 + (k : Int)) = marked (k + 1) ys := by
  unfold marked
  rw [List.set_append_right _ _ (by simp [marks_len]), marks_succ, marks_len, Nat.sub_self, List.drop_eq_getElem_cons h, List.set_cons_zero, List.append_assoc]
  rfl

theorem Own.kept' {w w' : World} {base : Nat} {v : Value} {ys : List Int} {row : Option Nat} (h : Own w base v ys) (hg : w.grownBy w' row) (hr : ∀ k, v.ownBlock = some k → row ≠ some k) : Own w' base v ys := by
  refine h.out.kept hg ?_
  rcases hv : v.ownBlock with _ | k
  · exact .inl rfl
  · exact .inr (fun e => hr k hv e.symm)

set_option maxHeartbeats 1000000 in
theorem markIntS_any (base : Nat) (A : Option Addr) (c : Nat) (ys : List Int) (w : World) (h : Own w base (.slice A ys.length c) ys) (hn : ys.length ≤ 4194304) :
    Calls Try.prog 51 #[.slice A ys.length c, .int .i64 1] w fun e w' => e = .returned (.int .i64 (1 + ys.length)) ∧ Own w' base (.slice A ys.length c) (marks ys.length) ∧ w.grownBy w' (Value.slice A ys.length c).ownBlock := by
  have HN := hid hn; clear hn
  rcases hv : A with _ | ⟨g, o, spot⟩
  · subst hv
    have hl : ys.length = 0 := by
      rcases h.2 with ⟨_, e⟩ | ⟨_, _, _, e, _⟩
      · exact e
      · cases e
    have hys : ys = [] := List.eq_nil_of_length_eq_zero hl
    subst hys
    go_enter Try.func51, Try.ntmps51
    go_wp2
    go_loopw [1, 5] (fun m i wr => m = .int .i64 1 ∧ i = .int .i64 0 ∧ wr = w) (fun _ _ _ => 0)
    case atStart => exact ⟨rfl, rfl, rfl⟩
    case round =>
      obtain ⟨rfl, rfl, rfl⟩ := hrel
      go_wp2
      go_ret
      exact ⟨by simp, h, grown_refl _ _⟩
  · have ho0 : o = 0 ∧ spot = none := by
      rcases h.2 with ⟨e, _⟩ | ⟨g', cap, cur, e, _⟩
      · rw [hv] at e; cases e
      · rw [hv] at e
        injection e with e1 e2 e3
        injection e1 with e1
        injection e1 with e1 e4 e5
        exact ⟨e4, e5⟩
    obtain ⟨rfl, rfl⟩ := ho0
    subst hv
    go_enter Try.func51, Try.ntmps51
    go_wp2
    go_loopw [1, 5] (fun m i wr => ∃ k : Nat, k ≤ ys.length ∧ m = .int .i64 (1 + k) ∧ i = .int .i64 k ∧ Own wr base (.slice (some ⟨g, 0, none⟩) ys.length c) (marked k ys) ∧ w.grownBy wr (some g)) (fun _ i _ => ys.length - (intOf i).toNat)
    case atStart => exact ⟨0, Nat.zero_le _, rfl, rfl, by rw [marked_zero]; exact h, grown_refl _ _⟩
    case round =>
      obtain ⟨k, hk, rfl, rfl, ho, hg⟩ := hrel
      have hn := HN.out
      by_cases hlt : k < ys.length
      · have hi : (k : Int) < (ys.length : Int) := by omega
        have hlen := marked_len (k := k) (ys := ys) hk
        have ho' : Own wr base (.slice (some ⟨g, 0, none⟩) (marked k ys).length c) (marked k ys) := by rw [hlen]; exact ho
        obtain ⟨u, hcell⟩ : ∃ u, wr.cell? ⟨g, k, none⟩ = some (.int .i64 u) := ⟨_, ho'.at_ (i := k) (by omega)⟩
        have hfr := ho'.thaw
        have hput := ho'.put (i := k) (1 + (k : Int))
        rw [marked_set hlt, marked_len (by omega)] at hput
        have hw1 : IntKind.i64.wrap (1 + (k : Int) + 1) = 1 + ((k + 1 : Nat) : Int) := by rw [IntKind.wrap_i64]; omega
        clear ho' hlen
        go_wp2
        go_roundw
        case rel => exact ⟨k + 1, by omega, rfl, by go_num, hput, grown_trans hg (grown_set _ _ _ _)⟩
        case measure => simp [intOf]; omega
      · have hi : ¬ (k : Int) < (ys.length : Int) := by omega
        rw [marked_all hlt hk] at ho
        have hke : (k : Int) = (ys.length : Int) := by omega
        go_wp2
        go_ret
        exact ⟨by simp, ho, hg⟩

set_option maxHeartbeats 1000000 in
theorem heldIntS_any (A : Option Addr) (m c : Nat) (w : World) {B : Nat} (h : Sees w B A (ints (marks m))) (hn : m ≤ 4194304) :
    Calls Try.prog 53 #[.slice A m c, .int .i64 1] w fun e w' => e = .returned (.int .i64 (1 + m)) ∧ w = w' := by
  have HN := hid hn; clear hn
  go_enter Try.func53, Try.ntmps53
  go_wp2
  go_loopw [1, 5] (fun v i wr => ∃ k : Nat, k ≤ m ∧ v = .int .i64 (1 + k) ∧ i = .int .i64 k ∧ wr = w) (fun _ i _ => m - (intOf i).toNat)
  case atStart => exact ⟨0, Nat.zero_le _, rfl, rfl, rfl⟩
  case round =>
    obtain ⟨k, hk, rfl, rfl, rfl⟩ := hrel
    have hn := HN.out
    by_cases hlt : k < m
    · have hi : (k : Int) < (m : Int) := by omega
      obtain ⟨b, o, rfl, _, hc⟩ := h.int (k := k) (by rw [marks_len]; exact hlt)
      rw [marks_at] at hc
      have hw1 : IntKind.i64.wrap (1 + (k : Int) + 1) = 1 + ((k + 1 : Nat) : Int) := by rw [IntKind.wrap_i64]; omega
      go_wp2
      go_roundw
      case rel => exact ⟨k + 1, by omega, rfl, by go_num, by trivial⟩
      case measure => simp [intOf]; omega
    · have hke : (k : Int) = (m : Int) := by omega
      have hi : ¬ (k : Int) < (m : Int) := by omega
      go_wp2
      go_ret
      exact ⟨by simp, by trivial⟩

theorem sees_marks {w : World} {base : Nat} {A : Option Addr} {c m : Nat} (h : Own w base (.slice A m c) (marks m)) : Sees w w.heap.size A (ints (marks m)) := by
  have h' : Own w base (.slice A (marks m).length c) (marks m) := by rw [marks_len]; exact h
  exact Sees.of_own h'.out
end Go.Proofs.Ytehdbllpiokbnaa

/-
  What the model's functions on results of checks answer. Condition: the list lies in memory.
-/
import Derived.Test.YthghmpcfiakjgacChkB
import Derived.BigQuiet
import Derived.Deep.QuietTactic
namespace Go.Proofs.Ythghmpcfiakjgac
open Go.RowKit Chk

set_option maxHeartbeats 400000 in
theorem stoInt_any (x : Bool) (w : World) :
    Calls Try.prog 20 #[.bool x] w fun e w' => e = .returned (.int .i64 (bit x)) ∧ w = w' := by
  cases x
  · go_enter Try.func20, Try.ntmps20
    go_wp2
    go_ret
    exact ⟨rfl, rfl⟩
  · go_enter Try.func20, Try.ntmps20
    go_wp2
    go_ret
    exact ⟨rfl, rfl⟩

set_option maxHeartbeats 1000000 in
theorem svalidChecks_any (A : Option Addr) (n c : Nat) (l : List Bool) (f g : Int) (w : World) (hn : l.length = n) :
    Calls Try.prog 19 #[.slice A n c, .int .i64 f, .int .i64 g] w fun e w' => e = .returned (.bool (chkB l f g)) ∧ w = w' := by
  subst hn
  by_cases h1 : l.length ≤ 12
  · have hi : (l.length : Int) ≤ 12 := by omega
    rcases h2 : inB f 1 12 with _ | _
    · have E0 := hid (chk_no2 (l := l) (g := g) h2)
      have H2 := hid h2
      clear h2
      go_enter Try.func19, Try.ntmps19
      go_wp2_with fail
      refine (inRange_any f 1 12 _).mono ?_
      rintro e w' ⟨he, rfl⟩
      rw [H2.out] at he
      subst he
      go_wp2
      go_ret
      exact ⟨ret_bool (by rw [E0.out]), rfl⟩
    · rcases h3 : inB g 1 12 with _ | _
      all_goals
        have E0 := (by first | exact hid (chk_no3 (l := l) (f := f) h3) | exact hid (chk_yes h1 h2 h3))
        have H2 := hid h2
        have H3 := hid h3
        clear h2 h3
        go_enter Try.func19, Try.ntmps19
        go_wp2_with fail
        refine (inRange_any f 1 12 _).mono ?_
        rintro e w' ⟨he, rfl⟩
        rw [H2.out] at he
        subst he
        go_wp2_with fail
        refine (inRange_any g 1 12 _).mono ?_
        rintro e w' ⟨he, rfl⟩
        rw [H3.out] at he
        subst he
        go_wp2
        go_ret
        exact ⟨ret_bool (by rw [E0.out]), rfl⟩
  · have E0 := hid (chk_no1 (f := f) (g := g) h1)
    have hi : ¬ (l.length : Int) ≤ 12 := by omega
    go_enter Try.func19, Try.ntmps19
    go_wp2
    go_ret
    exact ⟨ret_bool (by rw [E0.out]), rfl⟩

set_option maxHeartbeats 2000000 in
theorem srun_any (A : Option Addr) (n c : Nat) (l : List Bool) (w : World) (hl : l.length = n) (h : Sees w w.heap.size A (boos l)) (hn : l.length ≤ 12) :
    Calls Try.prog 30 #[.slice A n c] w fun e w' => e = .returned (.int .i64 (run l)) ∧ Below w.heap.size w w' := by
  subst hl
  have HN := hid hn; clear hn
  go_enter Try.func30, Try.ntmps30
  go_wp2
  go_loopw [3] (fun i wr => ∃ k : Nat, k ≤ l.length ∧ i = .int .i64 k ∧ Below w.heap.size w wr ∧ Hid (∀ j, j < k → l.getD (l.length - 1 - j) false = l.getD (l.length - 1) false)) (fun i _ => l.length - (intOf i).toNat)
  case atStart => exact ⟨0, Nat.zero_le _, rfl, Below.refl _ _, hid (by omega)⟩
  case round =>
    obtain ⟨k, hk, rfl, hb, HA⟩ := hrel
    have hn := HN.out
    by_cases hlt : k < l.length
    · have hi : (k : Int) < (l.length : Int) := by omega
      obtain ⟨b, o, rfl, _, hc1⟩ := (h.below hb).boo (show l.length - 1 - k < l.length by omega)
      obtain ⟨b', o', e1, _, hc2⟩ := (h.below hb).boo (show l.length - 1 < l.length by omega)
      injection e1 with e1
      injection e1 with e1 e2
      subst e1 e2
      have g1 : l.getD (l.length - 1 - k) false = l[l.length - 1 - k] := by simp [List.getD_eq_getElem?_getD, show l.length - 1 - k < l.length by omega]
      have g2 : l.getD (l.length - 1) false = l[l.length - 1] := by simp [List.getD_eq_getElem?_getD, show l.length - 1 < l.length by omega]
      obtain ⟨x, hx⟩ : ∃ x, x = l[l.length - 1 - k] := ⟨_, rfl⟩
      obtain ⟨y, hy⟩ : ∃ y, y = l[l.length - 1] := ⟨_, rfl⟩
      rw [← hx] at hc1 g1
      rw [← hy] at hc2 g2
      have HS := hid (fun (he : x = y) => (show ∀ j, j < k + 1 → l.getD (l.length - 1 - j) false = l.getD (l.length - 1) false from fun j hj => by
        rcases Nat.lt_or_ge j k with e | e
        · exact HA.out j e
        · have : j = k := by omega
          subst this; rw [g1, g2]; exact he))
      have HM := hid (fun (he : x ≠ y) => (show run l = k from run_eq hk HA.out (.inr (by rw [g1, g2]; exact he))))
      have q1 : (0 : Int) ≤ (l.length : Int) - 1 - (k : Int) := by omega
      have q2 : (l.length : Int) - 1 - (k : Int) < (l.length : Int) := by omega
      have q3 : (0 : Int) ≤ (l.length : Int) - 1 := by omega
      have q4 : (l.length : Int) - 1 < (l.length : Int) := by omega
      have n1 : ((l.length : Int) - 1 - (k : Int)).toNat = l.length - 1 - k := by omega
      have n2 : ((l.length : Int) - 1).toNat = l.length - 1 := by omega
      have w1 : IntKind.i64.wrap ((l.length : Int) - 1) = (l.length : Int) - 1 := by rw [IntKind.wrap_i64]; omega
      have w2 : IntKind.i64.wrap ((l.length : Int) - 1 - (k : Int)) = (l.length : Int) - 1 - (k : Int) := by rw [IntKind.wrap_i64]; omega
      clear hx hy g1 g2 HA
      rcases hxy : (x == y) with _ | _
      · have HX := hid (HM.out (by simpa using hxy))
        go_wp2
        go_quiet (fail)
        go_wp2
        go_ret
        exact ⟨ret_int (by rw [HX.out]), below_drewN hb _⟩
      · have HX := hid (HS.out (by simpa using hxy))
        go_wp2
        go_quiet (fail)
        go_wp2
        go_roundw
        case rel => exact ⟨k + 1, by omega, by go_num, below_drewN hb _, HX⟩
        case measure => simp [intOf]; omega
    · have hi : ¬ (k : Int) < (l.length : Int) := by omega
      have HX := hid (show run l = k from run_eq hk HA.out (.inl (by omega)))
      go_wp2
      go_quiet (fail)
      go_wp2
      go_ret
      exact ⟨ret_int (by rw [HX.out]), below_drewN hb _⟩

end Go.Proofs.Ythghmpcfiakjgac

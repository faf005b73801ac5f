/-
  The walk of the law FnLastRunSame: at every code it returns true and changes nothing that was there. Conditions: none.
-/
import Derived.Test.YthghmpcfiakjgabChkGen
import Derived.Test.YthghmpcfiakjgabChkD
import Derived.Test.YthghmpcfiakjgabLawFrame
import Derived.Test.YthghmpcfiakjgabChkLawMath
namespace Go.Proofs.Ythghmpcfiakjgab
open Go.RowKit Chk

set_option maxHeartbeats 4000000 in
theorem walkLastRunSame (a : Option Addr) (len cap : Nat) (zs : List Int) (w : World) (hn : zs.length = len) (hc : len ≤ cap) (hcc : cap ≤ maxLen) (h : Sees w w.heap.size a (byts zs)) (hz : ∀ y ∈ zs, 0 ≤ y ∧ y ≤ 255) :
    Calls Try.prog 3 #[.slice a len cap] w fun e w' => e = .returned (.bool true) ∧ Below w.heap.size w w' := by
  have HE := hid hn
  have HC := hid hcc
  have HZ := hid hz
  clear hn hcc hz
  by_cases hbig : 1048576 < len
  · go_enter Try.func3, Try.ntmps3
    go_wp2
    go_ret
    exact ⟨rfl, Below.refl _ _⟩
  · go_enter Try.func3, Try.ntmps3
    go_wp2_with fail
    refine (drawLastRun_any _ _ _ _ _ h HZ.out HE.out hc (by omega) HC.out).mono ?_
    rintro e w1 ⟨A, c, l, rfl, dl⟩
    clear h hbig
    have HCAP := hid dl.cap
    have HLEN := hid dl.len
    obtain ⟨V, hV⟩ : ∃ V, V = lastRun l := ⟨_, rfl⟩
    have HV : Hid (lastRun l = V) := hid hV.symm
    have hcs := last_cases l
    rw [← hV] at hcs
    clear hV
    go_wp2_with fail
    refine (iLastRun_any A _ c l _ rfl dl.sees dl.n4).mono ?_
    rintro e w' ⟨he, rfl⟩
    rw [HV.out] at he
    subst he
    go_wp2_with fail
    refine (sLastRun_any A _ c l _ rfl dl.sees).mono ?_
    rintro e w2 ⟨he, hb⟩
    rw [HV.out] at he
    subst he
    replace dl := dl.below hb
    clear hb
    by_cases h1 : V < 1
    · skip
      go_wp2_with fail
      refine (sLastRun_any A _ c l _ rfl dl.sees).mono ?_
      rintro e w2 ⟨he, hb⟩
      rw [HV.out] at he
      subst he
      replace dl := dl.below hb
      clear hb
      go_wp2
      go_ret
      exact ⟨by first | rfl | (simp; done) | (simp; omega), dl.bel⟩
    · skip
      obtain ⟨h12, rfl, hr⟩ := hcs (by omega)
      obtain ⟨m, hm⟩ : ∃ m, m = l.length - run l := ⟨_, rfl⟩
      have HS := hid (fun (j : Nat) (hj : m ≤ j) (hj2 : j < l.length) => same_run (by omega : l.length - run l ≤ j) hj2)
      have HP := hid (prev_run (l := l))
      have hwm : IntKind.i64.wrap ((l.length : Int) - (run l : Int)) = (m : Int) := by rw [IntKind.wrap_i64]; omega
      have hrn : (1 : Int) ≤ (run l : Int) := by omega
      obtain ⟨n, hn⟩ : ∃ n, n = run l := ⟨_, rfl⟩
      rw [← hn] at hr HV hwm hm hrn h1 HP ⊢
      have hml : m < l.length := by omega
      have HM := hid hm
      clear hn hm
      have hni : (n : Int) ≤ (l.length : Int) := by omega
      have d1 : decide ((n : Int) < 1) = false := decide_eq_false (by omega)
      have d2 : decide ((l.length : Int) < (n : Int)) = false := decide_eq_false (by omega)
      have d3 : decide (l.length < n) = false := decide_eq_false (by omega)
      go_wp2
      go_loopw [6] (fun i wr => ∃ j : Nat, m ≤ j ∧ j ≤ l.length ∧ i = .int .i64 j ∧ DT w wr A c l) (fun i _ => l.length - (intOf i).toNat)
      case atStart => exact ⟨m, Nat.le_refl _, by omega, rfl, dl⟩
      case round =>
        clear dl
        obtain ⟨j, hj, hj2, rfl, dl⟩ := hrel
        have hsees := dl.sees
        by_cases hlt : j < l.length
        · skip
          have hi : (j : Int) < (l.length : Int) := by omega
          obtain ⟨b, o, rfl, _, e1⟩ := hsees.boo hlt
          obtain ⟨b', o', e0, _, e2⟩ := hsees.boo (show m < l.length by omega)
          injection e0 with e0
          injection e0 with x1 x2
          subst x1 x2
          have q1 := HS.out j hj hlt
          have q2 := HS.out m (Nat.le_refl _) (by omega)
          rw [q1] at e1
          rw [q2] at e2
          have hmi : (m : Int) < (l.length : Int) := by omega
          obtain ⟨x, hx⟩ : ∃ x, x = l.getD (l.length - 1) false := ⟨_, rfl⟩
          rw [← hx] at e1 e2
          clear q1 q2 hx
          have hxx : (x != x) = false := by simp
          go_wp2
          go_quiet (fail)
          go_wp2
          go_roundw
          case rel => exact ⟨j + 1, by omega, by omega, by go_num, dl.drewN _⟩
          case measure => simp [intOf]; omega
        · skip
          have hi : ¬ (j : Int) < (l.length : Int) := by omega
          by_cases hm0 : m = 0
          · skip
            have hm1 : ((m : Int) == 0) = true := by simp [hm0]
            clear hm0
            go_wp2
            go_quiet (fail)
            go_wp2
            go_ret
            exact ⟨rfl, (dl.drewN _).bel⟩
          · skip
            have hm1 : ((m : Int) == 0) = false := by simp; omega
            obtain ⟨b, o, rfl, _, e1⟩ := hsees.boo (show m - 1 < l.length by omega)
            obtain ⟨b', o', e0, _, e2⟩ := hsees.boo (show m < l.length by omega)
            injection e0 with e0
            injection e0 with x1 x2
            subst x1 x2
            have q2 := HS.out m (Nat.le_refl _) (by omega)
            have q1 := HP.out (by have := HM.out; omega) (m - 1) (by have := HM.out; omega)
            rw [q2] at e2
            obtain ⟨y, hy⟩ : ∃ y, y = l[m - 1] := ⟨_, rfl⟩
            obtain ⟨x, hx⟩ : ∃ x, x = l.getD (l.length - 1) false := ⟨_, rfl⟩
            rw [getD_b (show m - 1 < l.length by omega), ← hy, ← hx] at q1
            rw [← hy] at e1
            rw [← hx] at e2
            have hyx : (y != x) = true := by simpa using q1
            clear q1 q2 hx hy
            have k1 : (0 : Int) ≤ (m : Int) - 1 := by omega
            have k2 : (m : Int) - 1 < (l.length : Int) := by omega
            have k3 : ((m : Int) - 1).toNat = m - 1 := by omega
            have k4 : (m : Int) < (l.length : Int) := by omega
            have k5 : IntKind.i64.wrap ((m : Int) - 1) = (m : Int) - 1 := by rw [IntKind.wrap_i64]; omega
            go_wp2
            go_quiet (fail)
            go_wp2
            go_ret
            exact ⟨by simpa using hyx, (dl.drewN _).bel⟩
end Go.Proofs.Ythghmpcfiakjgab

/-
  The walk of the law FnSizeForMore: at every code it returns true and changes nothing that was there. Conditions: none.
-/
import Derived.Test.YtmmdclcegpdejaaSzA
import Derived.Test.YtmmdclcegpdejaaLawFrame
import Derived.BigQuiet
namespace Go.Proofs.Ytmmdclcegpdejaa
open Go.RowKit
theorem size_pos2 {m s : Int} (h : 0 ≤ sizeFor m s) : (0 ≤ m ∧ m ≤ 600 ∧ 0 ≤ s ∧ s ≤ 6) ∧ sizeFor m s = sizeV m s ∧ sizeV m s ≤ 6 := by
  by_cases hb : (0 ≤ m ∧ m ≤ 600) ∧ 0 ≤ s ∧ s ≤ 6
  · have e := size_yes hb.1.1 hb.1.2 hb.2.1 hb.2.2
    by_cases h6 : 6 < sizeV m s
    · rw [if_pos h6] at e; omega
    · rw [if_neg h6] at e; exact ⟨by omega, e, by omega⟩
  · rw [size_no hb] at h; omega
theorem size_more {m s : Int} (h : 0 ≤ sizeFor m s) : (sizeFor (m + 1) s = -1 ∨ sizeFor m s ≤ sizeFor (m + 1) s) ∧ (sizeFor m (s + 1) = -1 ∨ sizeFor m (s + 1) = sizeFor m s + 1 ∨ (m = 0 ∧ s = 0 ∧ sizeFor m (s + 1) = 1)) ∧ 0 ≤ sizeFor m s ∧ sizeFor m s ≤ 6 := by
  obtain ⟨⟨h1, h2, h3, h4⟩, e, h5⟩ := size_pos2 h
  refine ⟨?_, ?_, h, by omega⟩
  · by_cases hx : 0 ≤ sizeFor (m + 1) s
    · obtain ⟨_, e2, _⟩ := size_pos2 hx
      right; rw [e, e2]; unfold sizeV; omega
    · by_cases hb : (0 ≤ m + 1 ∧ m + 1 ≤ 600) ∧ 0 ≤ s ∧ s ≤ 6
      · have e2 := size_yes hb.1.1 hb.1.2 hb.2.1 hb.2.2
        by_cases h6 : 6 < sizeV (m + 1) s
        · rw [if_pos h6] at e2; exact .inl e2
        · rw [if_neg h6] at e2; right; rw [e, e2]; unfold sizeV; omega
      · exact .inl (size_no hb)
  · by_cases hx : 0 ≤ sizeFor m (s + 1)
    · obtain ⟨_, e2, _⟩ := size_pos2 hx
      right; rw [e, e2]; unfold sizeV; omega
    · by_cases hb : (0 ≤ m ∧ m ≤ 600) ∧ 0 ≤ s + 1 ∧ s + 1 ≤ 6
      · have e2 := size_yes hb.1.1 hb.1.2 hb.2.1 hb.2.2
        by_cases h6 : 6 < sizeV m (s + 1)
        · rw [if_pos h6] at e2; exact .inl e2
        · rw [if_neg h6] at e2; right; rw [e, e2]; unfold sizeV; omega
      · exact .inl (size_no hb)

set_option maxHeartbeats 4000000 in
theorem walkSizeForMore (a : Option Addr) (len cap : Nat) (zs : List Int) (w : World) (hn : zs.length = len) (hc : len ≤ cap) (hcc : cap ≤ maxLen) (h : Sees w w.heap.size a (byts zs)) (hz : ∀ y ∈ zs, 0 ≤ y ∧ y ≤ 255) :
    Calls Try.prog 8 #[.slice a len cap] w fun e w' => e = .returned (.bool true) ∧ Below w.heap.size w w' := by
  have HE := hid hn
  have HC := hid hcc
  have HZ := hid hz
  clear hn hcc hz
  by_cases hbig : 1048576 < len
  · go_enter Try.func8, Try.ntmps8
    go_wp2
    go_ret
    exact ⟨rfl, Below.refl _ _⟩
  · go_enter Try.func8, Try.ntmps8
    go_wp2_with fail
    refine (drawSizeFor_any _ _ _ _ _ h HZ.out HE.out hc (by omega) HC.out).mono ?_
    rintro e w1 ⟨m, s, rfl, hb1, hm1, hm2, hs1, hs2⟩
    have HL := hid (fun hh => size_more (m := m) (s := s) hh)
    obtain ⟨V, hV⟩ : ∃ V, V = sizeFor m s := ⟨_, rfl⟩
    have E : Hid (sizeFor m s = V) := hid hV.symm
    rw [← hV] at HL
    clear hV
    obtain ⟨K, hK⟩ : ∃ K, K = sizeFor (m + 1) s := ⟨_, rfl⟩
    have EK : Hid (sizeFor (m + 1) s = K) := hid hK.symm
    rw [← hK] at HL
    clear hK
    obtain ⟨M, hM⟩ : ∃ M, M = sizeFor m (s + 1) := ⟨_, rfl⟩
    have EM : Hid (sizeFor m (s + 1) = M) := hid hM.symm
    rw [← hM] at HL
    clear hM
    go_wp2_with fail
    refine (iSizeFor_any m s _).mono ?_
    rintro e w9 ⟨he, rfl⟩
    rw [E.out] at he
    subst he
    go_wp2_with fail
    refine (sSizeFor_any m s _).mono ?_
    rintro e w9 ⟨he, rfl⟩
    rw [E.out] at he
    subst he
    by_cases hv0 : V < 0
    · skip
      go_wp2_with fail
      refine (sSizeFor_any m s _).mono ?_
      rintro e w9 ⟨he, rfl⟩
      rw [E.out] at he
      subst he
      go_wp2
      go_ret
      exact ⟨by simp, hb1⟩
    · obtain ⟨l1, l2, l3, l4⟩ := HL.out (by omega)
      have w1 : IntKind.i64.wrap (m + 1) = m + 1 := by rw [IntKind.wrap_i64]; omega
      have w2 : IntKind.i64.wrap (s + 1) = s + 1 := by rw [IntKind.wrap_i64]; omega
      have w3 : IntKind.i64.wrap (V + 1) = V + 1 := by rw [IntKind.wrap_i64]; omega
      go_wp2_with fail
      refine (iSizeFor_any (m + 1) s _).mono ?_
      rintro e w9 ⟨he, rfl⟩
      rw [EK.out] at he
      subst he
      go_wp2_with fail
      refine (iSizeFor_any m (s + 1) _).mono ?_
      rintro e w9 ⟨he, rfl⟩
      rw [EM.out] at he
      subst he
      rcases l1 with l1 | l1
      · have hKb : (K == -1) = true := by simp [l1]
        have HK := hid l1
        clear l1
        rcases l2 with l2 | l2 | ⟨z1, z2, z3⟩
        · have hMb : (M == -1) = true := by simp [l2]
          have HM := hid l2
          clear l2
          go_wp2
          go_ret
          exact ⟨by simp, hb1⟩
        · have hMb : (M == -1) = false := beq_eq_false_iff_ne.2 (by omega)
          have hMc : (M == V + 1) = true := by simp [l2]
          have HM := hid l2
          clear l2
          go_wp2
          go_ret
          exact ⟨by simp, hb1⟩
        · have hMb : (M == -1) = false := beq_eq_false_iff_ne.2 (by omega)
          have hM1 : (M == 1) = true := by simp [z3]
          have hm0 : (m == 0) = true := by simp [z1]
          have hs0 : (s == 0) = true := by simp [z2]
          have Z3 := hid z3
          have Z1 := hid z1
          have Z2 := hid z2
          clear z1 z2 z3
          rcases hMc : (M == V + 1) with _ | _
          · go_wp2
            go_ret
            exact ⟨by simp, hb1⟩
          · go_wp2
            go_ret
            exact ⟨by simp, hb1⟩
      · have hKb : (K == -1) = false := beq_eq_false_iff_ne.2 (by omega)
        have hKc : K ≥ V := l1
        rcases l2 with l2 | l2 | ⟨z1, z2, z3⟩
        · have hMb : (M == -1) = true := by simp [l2]
          have HM := hid l2
          clear l2
          go_wp2
          go_ret
          exact ⟨by simp, hb1⟩
        · have hMb : (M == -1) = false := beq_eq_false_iff_ne.2 (by omega)
          have hMc : (M == V + 1) = true := by simp [l2]
          have HM := hid l2
          clear l2
          go_wp2
          go_ret
          exact ⟨by simp, hb1⟩
        · have hMb : (M == -1) = false := beq_eq_false_iff_ne.2 (by omega)
          have hM1 : (M == 1) = true := by simp [z3]
          have hm0 : (m == 0) = true := by simp [z1]
          have hs0 : (s == 0) = true := by simp [z2]
          have Z3 := hid z3
          have Z1 := hid z1
          have Z2 := hid z2
          clear z1 z2 z3
          rcases hMc : (M == V + 1) with _ | _
          · go_wp2
            go_ret
            exact ⟨by simp, hb1⟩
          · go_wp2
            go_ret
            exact ⟨by simp, hb1⟩
end Go.Proofs.Ytmmdclcegpdejaa

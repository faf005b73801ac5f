/-
  The walk of the law FnSizeFor: at every code it returns true and changes nothing that was there. Conditions: none.
-/
import Derived.Test.YtmmdclcegpdejaaSzA
import Derived.Test.YtmmdclcegpdejaaLawFrame
import Derived.BigQuiet
namespace Go.Proofs.Ytmmdclcegpdejaa
open Go.RowKit
theorem size_pos {m s : Int} (h : 0 ≤ sizeFor m s) : (0 ≤ m ∧ m ≤ 600 ∧ 0 ≤ s ∧ s ≤ 6) ∧ sizeFor m s = sizeV m s ∧ sizeV m s ≤ 6 := by
  by_cases hb : (0 ≤ m ∧ m ≤ 600) ∧ 0 ≤ s ∧ s ≤ 6
  · have e := size_yes hb.1.1 hb.1.2 hb.2.1 hb.2.2
    by_cases h6 : 6 < sizeV m s
    · rw [if_pos h6] at e; omega
    · rw [if_neg h6] at e; exact ⟨by omega, e, by omega⟩
  · rw [size_no hb] at h; omega
theorem size_law {m s : Int} (h : 0 ≤ sizeFor m s) : m ≤ 100 * (sizeFor m s - s) ∧ (sizeFor m s = 1 ∨ 100 * (sizeFor m s - 1 - s) < m) ∧ 1 ≤ sizeFor m s ∧ sizeFor m s ≤ 6 ∧ 0 ≤ m ∧ m ≤ 600 ∧ 0 ≤ s ∧ s ≤ 6 := by
  obtain ⟨⟨h1, h2, h3, h4⟩, e, h5⟩ := size_pos h
  rw [e]
  unfold sizeV at h5 ⊢
  omega

set_option maxHeartbeats 4000000 in
theorem walkSizeFor (a : Option Addr) (len cap : Nat) (zs : List Int) (w : World) (hn : zs.length = len) (hc : len ≤ cap) (hcc : cap ≤ maxLen) (h : Sees w w.heap.size a (byts zs)) (hz : ∀ y ∈ zs, 0 ≤ y ∧ y ≤ 255) :
    Calls Try.prog 7 #[.slice a len cap] w fun e w' => e = .returned (.bool true) ∧ Below w.heap.size w w' := by
  have HE := hid hn
  have HC := hid hcc
  have HZ := hid hz
  clear hn hcc hz
  by_cases hbig : 1048576 < len
  · go_enter Try.func7, Try.ntmps7
    go_wp2
    go_ret
    exact ⟨rfl, Below.refl _ _⟩
  · go_enter Try.func7, Try.ntmps7
    go_wp2_with fail
    refine (drawSizeFor_any _ _ _ _ _ h HZ.out HE.out hc (by omega) HC.out).mono ?_
    rintro e w1 ⟨m, s, rfl, hb1, hm1, hm2, hs1, hs2⟩
    have HL := hid (fun hh => size_law (m := m) (s := s) hh)
    obtain ⟨V, hV⟩ : ∃ V, V = sizeFor m s := ⟨_, rfl⟩
    have E : Hid (sizeFor m s = V) := hid hV.symm
    rw [← hV] at HL
    clear hV
    go_wp2_with fail
    refine (iSizeFor_any m s _).mono ?_
    rintro e w9 ⟨he, rfl⟩
    rw [E.out] at he
    subst he
    go_wp2_with fail
    refine (sSizeFor_any m s _).mono ?_
    rintro e w9 ⟨he, rfl⟩
    rw [E.out] at he
    subst he
    by_cases hv0 : V < 0
    · skip
      go_wp2_with fail
      refine (sSizeFor_any m s _).mono ?_
      rintro e w9 ⟨he, rfl⟩
      rw [E.out] at he
      subst he
      go_wp2
      go_ret
      exact ⟨by simp, hb1⟩
    · obtain ⟨l1, l2, l3, l4, l5, l6, l7, l8⟩ := HL.out (by omega)
      have w1 : IntKind.i64.wrap (V - s) = V - s := by rw [IntKind.wrap_i64]; omega
      have w2 : IntKind.i64.wrap (100 * (V - s)) = 100 * (V - s) := by rw [IntKind.wrap_i64]; omega
      have w3 : IntKind.i64.wrap (V - 1) = V - 1 := by rw [IntKind.wrap_i64]; omega
      have w4 : IntKind.i64.wrap (V - 1 - s) = V - 1 - s := by rw [IntKind.wrap_i64]; omega
      have w5 : IntKind.i64.wrap (100 * (V - 1 - s)) = 100 * (V - 1 - s) := by rw [IntKind.wrap_i64]; omega
      have w6 : IntKind.i64.wrap ((V - s) * 100) = (V - s) * 100 := by rw [IntKind.wrap_i64]; omega
      have g1 : 100 * (V - s) ≥ m := l1
      by_cases h1 : V = 1
      · have h1b : (V == 1) = true := by simp [h1]
        have H1 := hid h1
        clear h1 l2
        go_wp2
        go_ret
        exact ⟨by simp, hb1⟩
      · have h1b : (V == 1) = false := beq_eq_false_iff_ne.2 h1
        have g2 : 100 * (V - 1 - s) < m := l2.resolve_left h1
        go_wp2
        go_ret
        exact ⟨by simp, hb1⟩
end Go.Proofs.Ytmmdclcegpdejaa

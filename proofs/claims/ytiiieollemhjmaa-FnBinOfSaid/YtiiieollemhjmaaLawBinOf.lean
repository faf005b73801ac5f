/-
  The walk of the law FnBinOf: at every code it returns true and changes nothing that was there. Conditions: none.
-/
import Derived.Test.YtiiieollemhjmaaLawWt
import Derived.Test.YtiiieollemhjmaaLawFrame
import Derived.BigQuiet

namespace Go.Proofs.Ytiiieollemhjmaa
open Go.RowKit Wt

set_option maxHeartbeats 8000000 in
theorem walkBinOf (a : Option Addr) (len cap : Nat) (zs : List Int) (w : World) (hn : zs.length = len) (hc : len ≤ cap) (hcc : cap ≤ maxLen) (h : Sees w w.heap.size a (byts zs)) (hz : ∀ y ∈ zs, 0 ≤ y ∧ y ≤ 255) :
    Calls Try.prog 9 #[.slice a len cap] w fun e w' => e = .returned (.bool true) ∧ Below w.heap.size w w' := by
  have HE := hid hn
  have HC := hid hcc
  have HZ := hid hz
  clear hn hcc hz
  by_cases hbig : 1048576 < len
  · go_enter Try.func9, Try.ntmps9
    go_wp2
    go_ret
    exact ⟨rfl, Below.refl _ _⟩
  · go_enter Try.func9, Try.ntmps9
    go_wp2_with fail
    refine (drawBinOf_any _ _ _ _ _ h HZ.out HE.out hc (by omega) HC.out).mono ?_
    rintro e w2 ⟨x, rfl, hB, hx0, hx1⟩
    have HL := hid (fun hh => bin_law (x := x) hh)
    obtain ⟨V, hV⟩ : ∃ V, V = binV x := ⟨_, rfl⟩
    have E : Hid (binV x = V) := hid hV.symm
    rw [← hV] at HL
    clear hV
    go_wp2_with fail
    with_reducible refine (iBinOf_any x _).mono ?_
    rintro e w' ⟨he, rfl⟩
    rw [E.out] at he
    subst he
    by_cases hv : V < 0
    · skip
      go_wp2_with fail
      with_reducible refine (sBinOf_any x _).mono ?_
      rintro e w' ⟨he, rfl⟩
      rw [E.out] at he
      subst he
      go_wp2_with fail
      with_reducible refine (sBinOf_any x _).mono ?_
      rintro e w' ⟨he, rfl⟩
      rw [E.out] at he
      subst he
      go_wp2
      go_ret
      exact ⟨by first | rfl | (simp; done) | (simp; omega), hB⟩
    · skip
      obtain ⟨⟨hv0, hv7⟩, hl, hm⟩ := HL.out (by omega)
      obtain ⟨T, hT⟩ : ∃ T, T = topV V := ⟨_, rfl⟩
      have ET : Hid (topV V = T) := hid hT.symm
      rw [← hT] at hl
      clear hT
      go_wp2_with fail
      with_reducible refine (sBinOf_any x _).mono ?_
      rintro e w' ⟨he, rfl⟩
      rw [E.out] at he
      subst he
      by_cases v0 : V = 0
      · skip
        have hv0b : (V == 0) = true := by simp [v0]
        have HV0 := hid v0
        clear v0 hm
        go_wp2_with fail
        with_reducible refine (iBinTop_any V _).mono ?_
        rintro e w' ⟨he, rfl⟩
        rw [ET.out] at he
        subst he
        go_wp2
        go_ret
        exact ⟨by first | rfl | (simp; done) | (simp; omega), hB⟩
      · skip
        have hv0b : (V == 0) = false := beq_eq_false_iff_ne.2 v0
        have hm1 := hm v0
        obtain ⟨U, hU⟩ : ∃ U, U = topV (V - 1) := ⟨_, rfl⟩
        have EU : Hid (topV (V - 1) = U) := hid hU.symm
        rw [← hU] at hm1
        have hw : IntKind.i64.wrap (V - 1) = V - 1 := by rw [IntKind.wrap_i64]; omega
        clear hU hm v0
        go_wp2_with fail
        with_reducible refine (iBinTop_any V _).mono ?_
        rintro e w' ⟨he, rfl⟩
        rw [ET.out] at he
        subst he
        go_wp2_with fail
        with_reducible refine (iBinTop_any (V - 1) _).mono ?_
        rintro e w' ⟨he, rfl⟩
        rw [EU.out] at he
        subst he
        go_wp2
        go_ret
        exact ⟨by first | rfl | (simp; done) | (simp; omega), hB⟩
end Go.Proofs.Ytiiieollemhjmaa

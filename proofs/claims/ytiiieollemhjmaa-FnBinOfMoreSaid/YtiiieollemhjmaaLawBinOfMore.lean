/-
  The walk of the law FnBinOfMore: at every code it returns true and changes nothing that was there. Conditions: none.
-/
import Derived.Test.YtiiieollemhjmaaLawWt
import Derived.Test.YtiiieollemhjmaaLawFrame
import Derived.BigQuiet

namespace Go.Proofs.Ytiiieollemhjmaa
open Go.RowKit Wt

set_option maxHeartbeats 8000000 in
theorem walkBinOfMore (a : Option Addr) (len cap : Nat) (zs : List Int) (w : World) (hn : zs.length = len) (hc : len ≤ cap) (hcc : cap ≤ maxLen) (h : Sees w w.heap.size a (byts zs)) (hz : ∀ y ∈ zs, 0 ≤ y ∧ y ≤ 255) :
    Calls Try.prog 10 #[.slice a len cap] w fun e w' => e = .returned (.bool true) ∧ Below w.heap.size w w' := by
  have HE := hid hn
  have HC := hid hcc
  have HZ := hid hz
  clear hn hcc hz
  by_cases hbig : 1048576 < len
  · go_enter Try.func10, Try.ntmps10
    go_wp2
    go_ret
    exact ⟨rfl, Below.refl _ _⟩
  · go_enter Try.func10, Try.ntmps10
    go_wp2_with fail
    refine (drawBinOf_any _ _ _ _ _ h HZ.out HE.out hc (by omega) HC.out).mono ?_
    rintro e w2 ⟨x, rfl, hB, hx0, hx1⟩
    have HL := hid (fun hh h2 => bin_more_law (x := x) hh h2)
    have HR := hid (binV_bound x)
    obtain ⟨V, hV⟩ : ∃ V, V = binV x := ⟨_, rfl⟩
    have E : Hid (binV x = V) := hid hV.symm
    rw [← hV] at HL HR
    clear hV
    go_wp2_with fail
    with_reducible refine (iBinOf_any x _).mono ?_
    rintro e w' ⟨he, rfl⟩
    rw [E.out] at he
    subst he
    by_cases hv : V < 0
    · skip
      go_wp2_with fail
      with_reducible refine (sBinOf_any x _).mono ?_
      rintro e w' ⟨he, rfl⟩
      rw [E.out] at he
      subst he
      go_wp2_with fail
      with_reducible refine (sBinOf_any x _).mono ?_
      rintro e w' ⟨he, rfl⟩
      rw [E.out] at he
      subst he
      go_wp2
      go_ret
      exact ⟨by first | rfl | (simp; done) | (simp; omega), hB⟩
    by_cases hx : x = 1000
    · skip
      have hxb : (x == 1000) = true := by simp [hx]
      have HX := hid hx
      clear hx
      go_wp2_with fail
      with_reducible refine (sBinOf_any x _).mono ?_
      rintro e w' ⟨he, rfl⟩
      rw [E.out] at he
      subst he
      go_wp2_with fail
      with_reducible refine (sBinOf_any x _).mono ?_
      rintro e w' ⟨he, rfl⟩
      rw [E.out] at he
      subst he
      go_wp2
      go_ret
      exact ⟨by first | rfl | (simp; done) | (simp; omega), hB⟩
    · skip
      have hxb : (x == 1000) = false := beq_eq_false_iff_ne.2 hx
      have hl := HL.out (by omega) hx
      have hr := HR.out
      have hw : IntKind.i64.wrap (x + 1) = x + 1 := by rw [IntKind.wrap_i64]; omega
      have hw2 : IntKind.i64.wrap (V + 1) = V + 1 := by rw [IntKind.wrap_i64]; omega
      obtain ⟨U, hU⟩ : ∃ U, U = binV (x + 1) := ⟨_, rfl⟩
      have EU : Hid (binV (x + 1) = U) := hid hU.symm
      rw [← hU] at hl
      clear hU hx
      go_wp2_with fail
      with_reducible refine (sBinOf_any x _).mono ?_
      rintro e w' ⟨he, rfl⟩
      rw [E.out] at he
      subst he
      by_cases hu : U = V
      · skip
        have hub : (U == V) = true := by simp [hu]
        have HU := hid hu
        clear hu hl
        go_wp2_with fail
        with_reducible refine (iBinOf_any (x + 1) _).mono ?_
        rintro e w' ⟨he, rfl⟩
        rw [EU.out] at he
        subst he
        go_wp2
        go_ret
        exact ⟨by first | rfl | (simp; done) | (simp; omega), hB⟩
      · skip
        have hub : (U == V) = false := beq_eq_false_iff_ne.2 hu
        have hub2 : (U == V + 1) = true := by rw [beq_iff_eq]; omega
        clear hu hl
        go_wp2_with fail
        with_reducible refine (iBinOf_any (x + 1) _).mono ?_
        rintro e w' ⟨he, rfl⟩
        rw [EU.out] at he
        subst he
        go_wp2
        go_ret
        exact ⟨by first | rfl | (simp; done) | (simp; omega), hB⟩
end Go.Proofs.Ytiiieollemhjmaa

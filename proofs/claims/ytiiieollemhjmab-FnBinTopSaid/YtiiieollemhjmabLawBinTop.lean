/-
  The walk of the law FnBinTop: at every code it returns true and changes nothing that was there. Conditions: none.
-/
import Derived.Test.YtiiieollemhjmabLawWt
import Derived.Test.YtiiieollemhjmabLawFrame
import Derived.BigQuiet

namespace Go.Proofs.Ytiiieollemhjmab
open Go.RowKit Wt

set_option maxHeartbeats 8000000 in
theorem walkBinTop (a : Option Addr) (len cap : Nat) (zs : List Int) (w : World) (hn : zs.length = len) (hc : len ≤ cap) (hcc : cap ≤ maxLen) (h : Sees w w.heap.size a (byts zs)) (hz : ∀ y ∈ zs, 0 ≤ y ∧ y ≤ 255) :
    Calls Try.prog 3 #[.slice a len cap] w fun e w' => e = .returned (.bool true) ∧ Below w.heap.size w w' := by
  have HE := hid hn
  have HC := hid hcc
  have HZ := hid hz
  clear hn hcc hz
  by_cases hbig : 1048576 < len
  · go_enter Try.func3, Try.ntmps3
    go_wp2
    go_ret
    exact ⟨rfl, Below.refl _ _⟩
  · go_enter Try.func3, Try.ntmps3
    go_wp2_with fail
    refine (drawBinTop_any _ _ _ _ _ h HZ.out HE.out hc (by omega) HC.out).mono ?_
    rintro e w2 ⟨x, rfl, hB, hx0, hx1⟩
    have HL := hid (fun hh => top_law (b := x) hh)
    have HR := hid (topV_bound x)
    obtain ⟨V, hV⟩ : ∃ V, V = topV x := ⟨_, rfl⟩
    have E : Hid (topV x = V) := hid hV.symm
    rw [← hV] at HL HR
    clear hV
    go_wp2_with fail
    with_reducible refine (iBinTop_any x _).mono ?_
    rintro e w' ⟨he, rfl⟩
    rw [E.out] at he
    subst he
    by_cases hv : V < 0
    · skip
      go_wp2_with fail
      with_reducible refine (sBinTop_any x _).mono ?_
      rintro e w' ⟨he, rfl⟩
      rw [E.out] at he
      subst he
      go_wp2_with fail
      with_reducible refine (sBinTop_any x _).mono ?_
      rintro e w' ⟨he, rfl⟩
      rw [E.out] at he
      subst he
      go_wp2
      go_ret
      exact ⟨by first | rfl | (simp; done) | (simp; omega), hB⟩
    · skip
      obtain ⟨⟨hv0, hv7⟩, hl, h7, hn7⟩ := HL.out (by omega)
      have hr := HR.out
      have EB := hid hl
      clear hl
      go_wp2_with fail
      with_reducible refine (sBinTop_any x _).mono ?_
      rintro e w' ⟨he, rfl⟩
      rw [E.out] at he
      subst he
      by_cases x7 : x = 7
      · skip
        have h1 := h7 x7
        have hxb : (x == 7) = true := by simp [x7]
        have hvb : (V == 1000) = true := by simp [h1]
        have HX := hid x7
        have H1 := hid h1
        clear x7 h1 h7 hn7
        go_wp2_with fail
        with_reducible refine (iBinOf_any V _).mono ?_
        rintro e w' ⟨he, rfl⟩
        rw [EB.out] at he
        subst he
        go_wp2
        go_ret
        exact ⟨by first | rfl | (simp; done) | (simp; omega), hB⟩
      · skip
        obtain ⟨h1, h2⟩ := hn7 x7
        have EU := hid h1
        have hxb : (x == 7) = false := beq_eq_false_iff_ne.2 x7
        have hw : IntKind.i64.wrap (V + 1) = V + 1 := by rw [IntKind.wrap_i64]; omega
        have hw2 : IntKind.i64.wrap (x + 1) = x + 1 := by rw [IntKind.wrap_i64]; omega
        clear x7 h1 h7 hn7
        go_wp2_with fail
        with_reducible refine (iBinOf_any V _).mono ?_
        rintro e w' ⟨he, rfl⟩
        rw [EB.out] at he
        subst he
        go_wp2_with fail
        with_reducible refine (iBinOf_any (V + 1) _).mono ?_
        rintro e w' ⟨he, rfl⟩
        rw [EU.out] at he
        subst he
        go_wp2
        go_ret
        exact ⟨by first | rfl | (simp; done) | (simp; omega), hB⟩
end Go.Proofs.Ytiiieollemhjmab

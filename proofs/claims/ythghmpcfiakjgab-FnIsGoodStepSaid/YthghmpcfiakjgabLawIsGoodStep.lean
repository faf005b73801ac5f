/-
  The walk of the law FnIsGoodStep: at every code it returns true and changes nothing that was there. Conditions: none.
-/
import Derived.Test.YthghmpcfiakjgabChkGen
import Derived.Test.YthghmpcfiakjgabChkD
import Derived.Test.YthghmpcfiakjgabLawFrame
import Derived.Test.YthghmpcfiakjgabChkLawMath
namespace Go.Proofs.Ythghmpcfiakjgab
open Go.RowKit Chk

set_option maxHeartbeats 4000000 in
theorem walkIsGoodStep (a : Option Addr) (len cap : Nat) (zs : List Int) (w : World) (hn : zs.length = len) (hc : len ≤ cap) (hcc : cap ≤ maxLen) (h : Sees w w.heap.size a (byts zs)) (hz : ∀ y ∈ zs, 0 ≤ y ∧ y ≤ 255) :
    Calls Try.prog 6 #[.slice a len cap] w fun e w' => e = .returned (.bool true) ∧ Below w.heap.size w w' := by
  have HE := hid hn
  have HC := hid hcc
  have HZ := hid hz
  clear hn hcc hz
  by_cases hbig : 1048576 < len
  · go_enter Try.func6, Try.ntmps6
    go_wp2
    go_ret
    exact ⟨rfl, Below.refl _ _⟩
  · go_enter Try.func6, Try.ntmps6
    go_wp2_with fail
    refine (drawIsGood_any _ _ _ _ _ h HZ.out HE.out hc (by omega) HC.out).mono ?_
    rintro e w1 ⟨A, c, l, f, g, rfl, dl⟩
    clear h hbig
    have HCAP := hid dl.cap
    have HLEN := hid dl.len
    obtain ⟨V, hV⟩ : ∃ V, V = goodB l f g := ⟨_, rfl⟩
    have HV : Hid (goodB l f g = V) := hid hV.symm
    obtain ⟨R, hR⟩ : ∃ R, R = lastRun l := ⟨_, rfl⟩
    have HR : Hid (lastRun l = R) := hid hR.symm
    obtain ⟨N, hN⟩ : ∃ N, N = goodB [] f g := ⟨_, rfl⟩
    have HN : Hid (goodB [] f g = N) := hid hN.symm
    obtain ⟨P, hP⟩ : ∃ P, P = goodB (l.take (l.length - 1)) f g := ⟨_, rfl⟩
    have HP : Hid (goodB (l.take (l.length - 1)) f g = P) := hid hP.symm
    have HF := hid (good_step (l := l) (f := f) (g := g))
    have hcs := last_cases l
    rw [← hV, ← hN, ← hR, ← hP] at HF
    rw [← hR] at hcs
    clear hV hR hN hP
    go_wp2_with fail
    refine (iIsGood_any A _ c l f g _ rfl dl.sees HCAP.out dl.n4).mono ?_
    rintro e w' ⟨he, rfl⟩
    rw [HV.out] at he
    subst he
    go_wp2_with fail
    refine (sIsGood_any A _ c l f g _ rfl dl.sees HCAP.out).mono ?_
    rintro e w2 ⟨he, hb⟩
    rw [HV.out] at he
    subst he
    replace dl := dl.below hb
    clear hb
    go_wp2_with fail
    refine (iLastRun_any A _ c l _ rfl dl.sees dl.n4).mono ?_
    rintro e w' ⟨he, rfl⟩
    rw [HR.out] at he
    subst he
    by_cases h1 : R < 1
    · skip
      go_wp2_with fail
      refine (sIsGood_any A _ c l f g _ rfl dl.sees HCAP.out).mono ?_
      rintro e w2 ⟨he, hb⟩
      rw [HV.out] at he
      subst he
      replace dl := dl.below hb
      clear hb
      go_wp2
      go_ret
      exact ⟨by first | rfl | (simp; done) | (simp; omega), dl.bel⟩
    · skip
      rcases N with _ | _
      · skip
        go_wp2_with fail
        refine (iIsGood_any (B := 0) none 0 0 [] f g _ rfl Sees.nil (Nat.le_refl _) (by decide)).mono ?_
        rintro e w' ⟨he, rfl⟩
        rw [HN.out] at he
        subst he
        go_wp2_with fail
        refine (sIsGood_any A _ c l f g _ rfl dl.sees HCAP.out).mono ?_
        rintro e w2 ⟨he, hb⟩
        rw [HV.out] at he
        subst he
        replace dl := dl.below hb
        clear hb
        go_wp2
        go_ret
        exact ⟨by first | rfl | (simp; done) | (simp; omega), dl.bel⟩
      · skip
        go_wp2_with fail
        refine (iIsGood_any (B := 0) none 0 0 [] f g _ rfl Sees.nil (Nat.le_refl _) (by decide)).mono ?_
        rintro e w' ⟨he, rfl⟩
        rw [HN.out] at he
        subst he
        obtain ⟨h12, hRr, hr⟩ := hcs (by omega)
        have hl0 : 0 < l.length := by omega
        have hfl := HF.out (by simp) (by omega)
        obtain ⟨b, o, rfl, _, e1⟩ := dl.sees.boo (show l.length - 1 < l.length by omega)
        have hst := dl.sees.btake (l.length - 1)
        have HTL := hid (show (l.take (l.length - 1)).length = l.length - 1 by rw [List.length_take]; omega)
        rw [getD_b (show l.length - 1 < l.length by omega)] at hfl
        obtain ⟨x, hx⟩ : ∃ x, x = l[l.length - 1] := ⟨_, rfl⟩
        rw [← hx] at e1 hfl
        have hcap := HCAP.out
        clear hx hcs
        have k1 : (0 : Int) ≤ (l.length : Int) - 1 := by omega
        have k2 : (l.length : Int) - 1 < (l.length : Int) := by omega
        have k3 : ((l.length : Int) - 1).toNat = l.length - 1 := by omega
        have k4 : (l.length : Int) - 1 ≤ (c : Int) := by omega
        have k6 : (l.length : Int) ≤ (c : Int) := by omega
        have k5 : IntKind.i64.wrap ((l.length : Int) - 1) = (l.length : Int) - 1 := by rw [IntKind.wrap_i64]; omega
        rcases x with _ | _
        · skip
          by_cases hq : R < f
          · skip
            have hv := hfl.2 rfl hq
            subst hv
            go_wp2_with fail
            refine (iLastRun_any (some ⟨b, o, none⟩) _ c l _ rfl dl.sees dl.n4).mono ?_
            rintro e w' ⟨he, rfl⟩
            rw [HR.out] at he
            subst he
            go_wp2_with fail
            refine (iIsGood_any (some ⟨b, o, none⟩) _ c _ f g _ HTL.out hst (by rw [HTL.out]; omega) (by rw [HTL.out]; omega)).mono ?_
            rintro e w' ⟨he, rfl⟩
            rw [HP.out] at he
            subst he
            go_wp2
            go_ret
            exact ⟨by first | rfl | (simp; done) | (simp; omega), dl.bel⟩
          · skip
            go_wp2_with fail
            refine (iLastRun_any (some ⟨b, o, none⟩) _ c l _ rfl dl.sees dl.n4).mono ?_
            rintro e w' ⟨he, rfl⟩
            rw [HR.out] at he
            subst he
            go_wp2_with fail
            refine (iIsGood_any (some ⟨b, o, none⟩) _ c _ f g _ HTL.out hst (by rw [HTL.out]; omega) (by rw [HTL.out]; omega)).mono ?_
            rintro e w' ⟨he, rfl⟩
            rw [HP.out] at he
            subst he
            go_wp2
            go_ret
            exact ⟨by first | rfl | (simp; done) | (simp; omega), dl.bel⟩
        · skip
          by_cases hq : R < g
          · skip
            have hv := hfl.1 rfl hq
            subst hv
            go_wp2_with fail
            refine (iLastRun_any (some ⟨b, o, none⟩) _ c l _ rfl dl.sees dl.n4).mono ?_
            rintro e w' ⟨he, rfl⟩
            rw [HR.out] at he
            subst he
            go_wp2_with fail
            refine (iIsGood_any (some ⟨b, o, none⟩) _ c _ f g _ HTL.out hst (by rw [HTL.out]; omega) (by rw [HTL.out]; omega)).mono ?_
            rintro e w' ⟨he, rfl⟩
            rw [HP.out] at he
            subst he
            go_wp2
            go_ret
            exact ⟨by first | rfl | (simp; done) | (simp; omega), dl.bel⟩
          · skip
            go_wp2_with fail
            refine (iLastRun_any (some ⟨b, o, none⟩) _ c l _ rfl dl.sees dl.n4).mono ?_
            rintro e w' ⟨he, rfl⟩
            rw [HR.out] at he
            subst he
            go_wp2_with fail
            refine (iIsGood_any (some ⟨b, o, none⟩) _ c _ f g _ HTL.out hst (by rw [HTL.out]; omega) (by rw [HTL.out]; omega)).mono ?_
            rintro e w' ⟨he, rfl⟩
            rw [HP.out] at he
            subst he
            go_wp2
            go_ret
            exact ⟨by first | rfl | (simp; done) | (simp; omega), dl.bel⟩
end Go.Proofs.Ythghmpcfiakjgab

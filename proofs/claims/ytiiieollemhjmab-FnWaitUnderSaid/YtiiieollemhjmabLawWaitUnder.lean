/-
  The walk of the law FnWaitUnder: at every code it returns true and changes nothing that was there. Conditions: none.
-/
import Derived.Test.YtiiieollemhjmabLawWtB
import Derived.Test.YtiiieollemhjmabLawFrame
import Derived.BigQuiet

namespace Go.Proofs.Ytiiieollemhjmab
open Go.RowKit Wt

set_option maxHeartbeats 8000000 in
theorem walkWaitUnder (a : Option Addr) (len cap : Nat) (zs : List Int) (w : World) (hn : zs.length = len) (hc : len ≤ cap) (hcc : cap ≤ maxLen) (h : Sees w w.heap.size a (byts zs)) (hz : ∀ y ∈ zs, 0 ≤ y ∧ y ≤ 255) :
    Calls Try.prog 8 #[.slice a len cap] w fun e w' => e = .returned (.bool true) ∧ Below w.heap.size w w' := by
  have HE := hid hn
  have HC := hid hcc
  have HZ := hid hz
  clear hn hcc hz
  by_cases hbig : 1048576 < len
  · go_enter Try.func8, Try.ntmps8
    go_wp2
    go_ret
    exact ⟨rfl, Below.refl _ _⟩
  · go_enter Try.func8, Try.ntmps8
    go_wp2_with fail
    refine (drawWaitUnder_any _ _ _ _ _ h HZ.out HE.out hc (by omega) HC.out).mono ?_
    rintro e w2 ⟨A, c, l, p, rfl, dl, hp0, hp1⟩
    have HL := hid (fun (K : undB l p = true) => und_law K)
    have HR := hid (undV_range l p)
    have HU := hid (fun (K : undB l p = true) => undB_iff.1 K)
    have HS := hid (fun (K : undB l p = true) => und_sum K)
    obtain ⟨V, hV⟩ : ∃ V, V = undV l p := ⟨_, rfl⟩
    have EV : Hid (undV l p = V) := hid hV.symm
    obtain ⟨K, hK⟩ : ∃ K, K = undB l p := ⟨_, rfl⟩
    have EK : Hid (undB l p = K) := hid hK.symm
    have HK := hid hK
    rw [← hV] at HL HR
    clear hV hK
    cases K with
    | false =>
      go_wp2_with fail
      refine (iWaitUnder_any l p A c _ dl.sees dl.cap dl.n4).mono ?_
      rintro e w' ⟨he, rfl⟩
      rw [EV.out, EK.out] at he
      subst he
      go_wp2_with fail
      refine (sWaitUnder_any l p A c _ dl.sees dl.n4).mono ?_
      rintro e w' ⟨he, rfl⟩
      rw [EV.out, EK.out] at he
      subst he
      go_wp2
      go_ret
      exact ⟨by first | rfl | (simp; done) | (simp; omega), dl.bel⟩
    | true =>
      obtain ⟨hv, hp, _⟩ := HU.out HK.out.symm
      have hs := HS.out HK.out.symm
      obtain ⟨l1, l2, l3, l4, l5⟩ := HL.out HK.out.symm
      obtain ⟨m, hm⟩ : ∃ m, m = und l p := ⟨_, rfl⟩
      rw [← hm] at l1 l2 l3 l4 l5
      clear hm
      have HLl := hid (cntB_iff.1 hv).1
      have HI := hid (cntB_iff.1 hv).2
      have HL5 := hid (show l.length ≤ 100000 by rw [HLl.out]; decide)
      have hr := HR.out
      have hsr := (pre_range hv 0).2.2
      have hP1 := pre_range hv (m + 1)
      have hP0 := pre_range hv m
      have EB := hid l1
      have ET := hid l5
      have hmb := mul_bd hp.1 hp.2 (show 0 ≤ l.sum by omega) hsr
      have hl8 : (l.length : Int) = 8 := by have := HLl.out; omega
      have h8c : 8 ≤ c := by have := dl.cap; omega
      obtain ⟨S, hS⟩ : ∃ S, S = l.sum := ⟨_, rfl⟩
      have ES : Hid (l.sum = S) := hid hS.symm
      rw [← hS] at l3 l4 hsr hP1 hP0 hmb hs
      obtain ⟨hpw, hq0, hq1⟩ := hmb
      have hml : (m : Int) < (l.length : Int) := by omega
      have HL8 := hid hl8
      clear hS hv l1 l5 hl8
      have HT1 := hid (show (l.take (m + 1)).length = m + 1 by rw [List.length_take, HLl.out]; omega)
      have HT0 := hid (show (l.take m).length = m by rw [List.length_take, HLl.out]; omega)
      have HN1 := hid (show (l.take (m + 1)).length ≤ 100000 by rw [HT1.out]; omega)
      have HN0 := hid (show (l.take m).length ≤ 100000 by rw [HT0.out]; omega)
      have E1 := hid (show (l.take (m + 1)).sum = pre l (m + 1) from rfl)
      have E0 := hid (show (l.take m).sum = pre l m from rfl)
      have S1 := hid (show Sees w2 w2.heap.size A (ints (l.take (m + 1))) by rw [show ints (l.take (m + 1)) = (ints l).take (m + 1) by simp [ints]]; exact dl.sees.take _)
      have S0 := hid (show Sees w2 w2.heap.size A (ints (l.take m)) by rw [show ints (l.take m) = (ints l).take m by simp [ints]]; exact dl.sees.take _)
      obtain ⟨P1, hP1e⟩ : ∃ P, P = pre l (m + 1) := ⟨_, rfl⟩
      obtain ⟨P0, hP0e⟩ : ∃ P, P = pre l m := ⟨_, rfl⟩
      rw [← hP1e] at l3 hP1 E1
      rw [← hP0e] at l4 hP0 E0
      clear hP1e hP0e
      have w1 : IntKind.i64.wrap ((m : Int) + 1) = (m : Int) + 1 := by rw [IntKind.wrap_i64]; omega
      have w3 : IntKind.i64.wrap (100 * P1) = 100 * P1 := by rw [IntKind.wrap_i64]; omega
      have w4 : IntKind.i64.wrap (100 * P0) = 100 * P0 := by rw [IntKind.wrap_i64]; omega
      have n1 : ((m : Int) + 1).toNat = m + 1 := by omega
      have n2 : (0 : Int) ≤ (m : Int) + 1 := by omega
      have n3 : (m : Int) + 1 ≤ (c : Int) := by omega
      have n4 : (m : Int) ≤ (c : Int) := by omega
      by_cases hm0 : m = 0
      · skip
        have hmb : ((m : Int) == 0) = true := by simp [hm0]
        have HM0 := hid hm0
        clear hm0
        go_wp2_with fail
        refine (iWaitUnder_any l p A c _ dl.sees dl.cap dl.n4).mono ?_
        rintro e w' ⟨he, rfl⟩
        rw [EV.out, EK.out] at he
        subst he
        go_wp2_with fail
        refine (sWaitUnder_any l p A c _ dl.sees dl.n4).mono ?_
        rintro e w' ⟨he, rfl⟩
        rw [EV.out, EK.out] at he
        subst he
        go_wp2_with fail
        with_reducible refine (iBinOf_any V _).mono ?_
        rintro e w' ⟨he, rfl⟩
        rw [EB.out] at he
        subst he
        go_wp2_with fail
        with_reducible refine (waLSum_any A c l _ dl.sees HL5.out HI.out).mono ?_
        rintro e w' ⟨he, rfl⟩
        rw [ES.out] at he
        subst he
        go_wp2_with fail
        with_reducible refine (waLSum_len HT1.out S1.out HN1.out (inC_take HI.out _)).mono ?_
        rintro e w' ⟨he, rfl⟩
        rw [E1.out] at he
        subst he
        go_wp2_with fail
        with_reducible refine (iBinTop_any _ _).mono ?_
        rintro e w' ⟨he, rfl⟩
        rw [ET.out] at he
        subst he
        go_wp2
        go_ret
        exact ⟨by first | rfl | (simp; done) | (simp; omega), dl.bel⟩
      · skip
        have hmb : ((m : Int) == 0) = false := beq_eq_false_iff_ne.2 (by omega)
        have l4b := l4 hm0
        clear hm0 l4
        go_wp2_with fail
        refine (iWaitUnder_any l p A c _ dl.sees dl.cap dl.n4).mono ?_
        rintro e w' ⟨he, rfl⟩
        rw [EV.out, EK.out] at he
        subst he
        go_wp2_with fail
        refine (sWaitUnder_any l p A c _ dl.sees dl.n4).mono ?_
        rintro e w' ⟨he, rfl⟩
        rw [EV.out, EK.out] at he
        subst he
        go_wp2_with fail
        with_reducible refine (iBinOf_any V _).mono ?_
        rintro e w' ⟨he, rfl⟩
        rw [EB.out] at he
        subst he
        go_wp2_with fail
        with_reducible refine (waLSum_any A c l _ dl.sees HL5.out HI.out).mono ?_
        rintro e w' ⟨he, rfl⟩
        rw [ES.out] at he
        subst he
        go_wp2_with fail
        with_reducible refine (waLSum_len HT1.out S1.out HN1.out (inC_take HI.out _)).mono ?_
        rintro e w' ⟨he, rfl⟩
        rw [E1.out] at he
        subst he
        go_wp2_with fail
        with_reducible refine (waLSum_len HT0.out S0.out HN0.out (inC_take HI.out _)).mono ?_
        rintro e w' ⟨he, rfl⟩
        rw [E0.out] at he
        subst he
        go_wp2_with fail
        with_reducible refine (iBinTop_any _ _).mono ?_
        rintro e w' ⟨he, rfl⟩
        rw [ET.out] at he
        subst he
        go_wp2
        go_ret
        exact ⟨by first | rfl | (simp; done) | (simp; omega), dl.bel⟩
end Go.Proofs.Ytiiieollemhjmab

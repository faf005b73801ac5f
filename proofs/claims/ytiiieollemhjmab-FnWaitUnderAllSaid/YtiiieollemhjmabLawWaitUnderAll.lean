/-
  The walk of the law FnWaitUnderAll: at every code it returns true and changes nothing that was there. Conditions: none.
-/
import Derived.Test.YtiiieollemhjmabLawWtB
import Derived.Test.YtiiieollemhjmabLawFrame
import Derived.BigQuiet

namespace Go.Proofs.Ytiiieollemhjmab
open Go.RowKit Wt

set_option maxHeartbeats 8000000 in
theorem walkWaitUnderAll (a : Option Addr) (len cap : Nat) (zs : List Int) (w : World) (hn : zs.length = len) (hc : len ≤ cap) (hcc : cap ≤ maxLen) (h : Sees w w.heap.size a (byts zs)) (hz : ∀ y ∈ zs, 0 ≤ y ∧ y ≤ 255) :
    Calls Try.prog 10 #[.slice a len cap] w fun e w' => e = .returned (.bool true) ∧ Below w.heap.size w w' := by
  have HE := hid hn
  have HC := hid hcc
  have HZ := hid hz
  clear hn hcc hz
  by_cases hbig : 1048576 < len
  · go_enter Try.func10, Try.ntmps10
    go_wp2
    go_ret
    exact ⟨rfl, Below.refl _ _⟩
  · go_enter Try.func10, Try.ntmps10
    go_wp2_with fail
    refine (drawWaitUnder_any _ _ _ _ _ h HZ.out HE.out hc (by omega) HC.out).mono ?_
    rintro e w2 ⟨A, c, l, p, rfl, dl, hp0, hp1⟩
    have HA := hid (fun (K : undB l p = true) => und_all K)
    have HR := hid (undV_range l p)
    have HU := hid (fun (K : undB l p = true) => (cntB_iff.1 (undB_iff.1 K).1).1)
    obtain ⟨V, hV⟩ : ∃ V, V = undV l p := ⟨_, rfl⟩
    have EV : Hid (undV l p = V) := hid hV.symm
    obtain ⟨K, hK⟩ : ∃ K, K = undB l p := ⟨_, rfl⟩
    have EK : Hid (undB l p = K) := hid hK.symm
    have HK := hid hK
    rw [← hV] at HA HR
    clear hV hK
    cases K with
    | false =>
      go_wp2_with fail
      refine (iWaitUnder_any l p A c _ dl.sees dl.cap dl.n4).mono ?_
      rintro e w' ⟨he, rfl⟩
      rw [EV.out, EK.out] at he
      subst he
      go_wp2_with fail
      refine (sWaitUnder_any l p A c _ dl.sees dl.n4).mono ?_
      rintro e w' ⟨he, rfl⟩
      rw [EV.out, EK.out] at he
      subst he
      go_wp2
      go_ret
      exact ⟨by first | rfl | (simp; done) | (simp; omega), dl.bel⟩
    | true =>
      obtain ⟨a1, a2, a3⟩ := HA.out HK.out.symm
      have EA := hid a1
      have hl8 := HU.out HK.out.symm
      have h18 := dl.n18
      have HL8 := hid hl8
      clear a1 hl8
      obtain ⟨U, hU⟩ : ∃ U, U = undV l 100 := ⟨_, rfl⟩
      have EU : Hid (undV l 100 = U) := hid hU.symm
      rw [← hU] at a2 a3
      have A2 := hid a2.symm
      clear hU a2
      go_wp2_with fail
      refine (iWaitUnder_any l p A c _ dl.sees dl.cap dl.n4).mono ?_
      rintro e w' ⟨he, rfl⟩
      rw [EV.out, EK.out] at he
      subst he
      go_wp2_with fail
      refine (sWaitUnder_any l p A c _ dl.sees dl.n4).mono ?_
      rintro e w' ⟨he, rfl⟩
      rw [EV.out, EK.out] at he
      subst he
      go_wp2_with fail
      go_loop [9, 10] (fun b i => ∃ k : Nat, k ≤ l.length ∧ i = .int .i64 k ∧ b = .int .i64 (lastB l k : Nat)) (fun _ i => l.length - (intOf i).toNat)
      case atStart => exact ⟨0, Nat.zero_le _, rfl, rfl⟩
      case round =>
        obtain ⟨k, hk, rfl, rfl⟩ := hrel
        by_cases hkl : k < l.length
        · skip
          have hki : (k : Int) < (l.length : Int) := by omega
          obtain ⟨b1, o1, rfl, _, hcl⟩ := dl.sees.int hkl
          have HB1 := hid (lastB_yes hkl)
          have HB0 := hid (lastB_no hkl)
          obtain ⟨x, hx⟩ : ∃ x, x = l[k] := ⟨_, rfl⟩
          rw [← hx] at hcl HB1 HB0
          clear hx
          by_cases hx0 : 0 < x
          · skip
            have hx1 : x > 0 := hx0
            have HB := hid (HB1.out hx0)
            go_wp2
            go_round
            case rel => exact ⟨k + 1, by omega, by go_num, by rw [HB.out]⟩
            case measure => simp [intOf]; omega
          · skip
            have hx1 : ¬ x > 0 := hx0
            have HB := hid (HB0.out hx0)
            go_wp2
            go_round
            case rel => exact ⟨k + 1, by omega, by go_num, by rw [HB.out]⟩
            case measure => simp [intOf]; omega
        · skip
          have hki : ¬ (k : Int) < (l.length : Int) := by omega
          have HKL := hid (show k = l.length by omega)
          have ET := hid (show topV (lastB l k : Nat) = U by rw [HKL.out]; exact A2.out)
          go_wp2_with fail
          refine (iWaitUnder_any l 100 A c _ dl.sees dl.cap dl.n4).mono ?_
          rintro e w' ⟨he, rfl⟩
          rw [EU.out, EA.out] at he
          subst he
          go_wp2_with fail
          with_reducible refine (iBinTop_any _ _).mono ?_
          rintro e w' ⟨he, rfl⟩
          rw [ET.out] at he
          subst he
          go_wp2
          go_ret
          exact ⟨by first | rfl | (simp; done) | (simp; omega), dl.bel⟩
end Go.Proofs.Ytiiieollemhjmab

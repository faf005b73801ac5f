/-
  The walk of the law FnValidShareLess: at every code it returns true and changes nothing that was there. Conditions: none.
-/
import Derived.Test.YtimjalhhigekpaaLawSh
import Derived.Test.YtimjalhhigekpaaLawFrame
import Derived.BigQuiet
import Derived.Deep.RegionHeld3

namespace Go.Proofs.Ytimjalhhigekpaa
open Go.RowKit Sha

set_option maxHeartbeats 8000000 in
set_option maxRecDepth 16384 in
theorem walkValidShareLess (a : Option Addr) (len cap : Nat) (zs : List Int) (w : World) (hn : zs.length = len) (hc : len ≤ cap) (hcc : cap ≤ maxLen) (h : Sees w w.heap.size a (byts zs)) (hz : ∀ y ∈ zs, 0 ≤ y ∧ y ≤ 255) :
    Calls Try.prog 4 #[.slice a len cap] w fun e w' => e = .returned (.bool true) ∧ Below w.heap.size w w' := by
  have HE := hid hn
  have HC := hid hcc
  have HZ := hid hz
  clear hn hcc hz
  by_cases hbig : 1048576 < len
  · go_enter Try.func4, Try.ntmps4
    go_wp2
    go_ret
    exact ⟨rfl, Below.refl _ _⟩
  · go_enter Try.func4, Try.ntmps4
    go_wp2_with fail
    refine (drawValidShare_any _ _ _ _ _ h HZ.out HE.out hc (by omega) HC.out).mono ?_
    rintro e w2 ⟨A1, A2, c1, c2, s, rfl, dl⟩
    have hl6 := dl.2.2.2
    replace dl := dl.alloc (.cells #[.int .i64 s.t, .slice A1 s.m.length c1, .slice A2 s.h.length c2] 25)
    have ps := At.new w2 25 #[.int .i64 s.t, .slice A1 s.m.length c1, .slice A2 s.h.length c2]
    rcases hv : shareB s with _ | _
    · skip
      have HV := hid hv
      clear hv
      obtain ⟨ps0, ps1, ps2, psl, psf⟩ := ps.three
      go_wp2_with fail
      with_reducible refine (iValidShare_any s A1 A2 c1 c2 _ dl.sees dl.m4 dl.h4).mono ?_
      rintro e w3 ⟨he, hb⟩
      rw [HV.out] at he
      subst he
      replace dl := dl.below hb
      replace ps := ps.below hb ps.lt
      clear hb
      clear ps0 ps1 ps2 psl psf
      obtain ⟨ps0, ps1, ps2, psl, psf⟩ := ps.three
      go_wp2_with fail
      with_reducible refine (sValidShare_any s A1 A2 c1 c2 _ dl.sees dl.m4 dl.h4).mono ?_
      rintro e w4 ⟨he, hb⟩
      rw [HV.out] at he
      subst he
      replace dl := dl.below hb
      replace ps := ps.below hb ps.lt
      clear hb
      clear ps0 ps1 ps2 psl psf
      obtain ⟨ps0, ps1, ps2, psl, psf⟩ := ps.three
      go_wp2_with fail
      with_reducible refine (sValidShare_any s A1 A2 c1 c2 _ dl.sees dl.m4 dl.h4).mono ?_
      rintro e w5 ⟨he, hb⟩
      rw [HV.out] at he
      subst he
      replace dl := dl.below hb
      replace ps := ps.below hb ps.lt
      clear hb
      clear ps0 ps1 ps2 psl psf
      obtain ⟨ps0, ps1, ps2, psl, psf⟩ := ps.three
      go_wp2
      go_ret
      exact ⟨by first | rfl | (simp; done) | (simp; omega), dl.bel⟩
    · skip
      have HV := hid hv
      have HTK := hid (fun (k : Nat) (hk : k < 5) (hl : k < s.h.length) => take_ok hv hk hl)
      have H5 := hid (shareB_iff.1 hv).2.2.2.1
      clear hv
      obtain ⟨ps0, ps1, ps2, psl, psf⟩ := ps.three
      go_wp2_with fail
      with_reducible refine (iValidShare_any s A1 A2 c1 c2 _ dl.sees dl.m4 dl.h4).mono ?_
      rintro e w3 ⟨he, hb⟩
      rw [HV.out] at he
      subst he
      replace dl := dl.below hb
      replace ps := ps.below hb ps.lt
      clear hb
      clear ps0 ps1 ps2 psl psf
      obtain ⟨ps0, ps1, ps2, psl, psf⟩ := ps.three
      go_wp2_with fail
      with_reducible refine (sValidShare_any s A1 A2 c1 c2 _ dl.sees dl.m4 dl.h4).mono ?_
      rintro e w4 ⟨he, hb⟩
      rw [HV.out] at he
      subst he
      replace dl := dl.below hb
      replace ps := ps.below hb ps.lt
      clear hb
      clear ps0 ps1 ps2 psl psf
      obtain ⟨ps0, ps1, ps2, psl, psf⟩ := ps.three
      go_wp2_with fail
      go_loopw [5] (fun i wr => ∃ k : Nat, k ≤ 5 ∧ i = .int .i64 k ∧ DSh w wr A1 A2 s ∧ At wr w2.heap.size 25 #[.int .i64 s.t, .slice A1 s.m.length c1, .slice A2 s.h.length c2]) (fun i _ => 5 - (intOf i).toNat)
      case atStart => exact ⟨0, Nat.zero_le _, rfl, dl, ps⟩
      case round =>
        clear ps0 ps1 ps2 psl psf
        clear dl ps
        obtain ⟨k, hk, rfl, dl, ps⟩ := hrel
        by_cases hk5 : k < 5
        · skip
          have hki : (k : Int) < 5 := by omega
          have h5 := H5.out
          have hkl : k < s.h.length := by omega
          have hk0 : (0 : Int) ≤ (k : Int) := by omega
          have hkh : (k : Int) < (s.h.length : Int) := by omega
          obtain ⟨t1, t2, t3⟩ := HTK.out k hk5 hkl
          obtain ⟨R, hR⟩ : ∃ R, R = giveS s k (-1) := ⟨_, rfl⟩
          have ER : Hid (giveS s k (-1) = R) := hid hR.symm
          obtain ⟨K, hK⟩ : ∃ K, K = giveB s k (-1) := ⟨_, rfl⟩
          have EK : Hid (giveB s k (-1) = K) := hid hK.symm
          have HRl := hid (show R.m.length ≤ 6 ∧ R.h.length ≤ 6 by rw [hR]; exact give_len hl6 _ _)
          rw [← hR, ← hK] at t3
          rw [← hK] at t1
          have HT3 := hid t3
          obtain ⟨y, hy⟩ : ∃ y, y = s.h[k]'hkl := ⟨_, rfl⟩
          have HY := hid hy
          rw [← hy] at t1 t2
          have HKL := hid hkl
          have HK5 := hid hk5
          clear hR hK t3 hy h5
          obtain ⟨ps0, ps1, ps2, psl, psf⟩ := ps.three
          go_wp2_with fail
          with_reducible refine (iTakeShare_any s k A1 A2 c1 c2 _ dl.sees dl.m4 dl.h4).mono ?_
          rintro e w5 ⟨B5, D5, d5, e5, he, ho5, hb⟩
          rw [ER.out, EK.out] at he
          rw [ER.out] at ho5
          subst he
          have o1 : OwnQ w5 _ B5 D5 d5 e5 R := ⟨ho5, HRl.out⟩
          clear ho5
          replace dl := dl.below hb
          replace ps := ps.below hb ps.lt
          clear hb
          clear ps0 ps1 ps2 psl psf
          -- o1
          replace dl := dl.alloc (.cells #[.int .i64 R.t, .slice B5 R.m.length d5, .slice D5 R.h.length e5] 25)
          replace o1 := o1.alloc (.cells #[.int .i64 R.t, .slice B5 R.m.length d5, .slice D5 R.h.length e5] 25)
          replace ps := ps.alloc (.cells #[.int .i64 R.t, .slice B5 R.m.length d5, .slice D5 R.h.length e5] 25)
          have xo1 := At.new w5 25 #[.int .i64 R.t, .slice B5 R.m.length d5, .slice D5 R.h.length e5]
          obtain ⟨b, o, rfl, hbl, hcl⟩ := dl.seesh.int HKL.out
          rw [← HY.out] at hcl
          cases K with
          | false =>
            have hy0 : decide (0 < y) = false := t1.symm
            have hyx : ¬ 0 < y := of_decide_eq_false hy0
            clear t1
            obtain ⟨ps0, ps1, ps2, psl, psf⟩ := ps.three
            obtain ⟨xo10, xo11, xo12, xo1l, xo1f⟩ := xo1.three
            go_wp2
            go_roundw
            case rel => exact ⟨k + 1, by have := HK5.out; omega, by go_num, dl, ps⟩
            case measure => have := HK5.out; simp [intOf]; omega
          | true =>
            have hy0 : decide (0 < y) = true := t1.symm
            have hyx : 0 < y := of_decide_eq_true hy0
            clear t1
            have HVR := hid (HT3.out rfl)
            obtain ⟨ps0, ps1, ps2, psl, psf⟩ := ps.three
            obtain ⟨xo10, xo11, xo12, xo1l, xo1f⟩ := xo1.three
            go_wp2_with fail
            with_reducible refine (iValidShare_any R B5 D5 d5 e5 _ o1.sees o1.m4 o1.h4).mono ?_
            rintro e w6 ⟨he, hb⟩
            rw [HVR.out] at he
            subst he
            replace dl := dl.below hb
            replace o1 := o1.below hb
            replace ps := ps.below hb ps.lt
            replace xo1 := xo1.below hb xo1.lt
            clear hb
            clear ps0 ps1 ps2 psl psf
            clear xo10 xo11 xo12 xo1l xo1f
            obtain ⟨ps0, ps1, ps2, psl, psf⟩ := ps.three
            obtain ⟨xo10, xo11, xo12, xo1l, xo1f⟩ := xo1.three
            go_wp2
            go_roundw
            case rel => exact ⟨k + 1, by have := HK5.out; omega, by go_num, dl, ps⟩
            case measure => have := HK5.out; simp [intOf]; omega
        · skip
          have hki : ¬ (k : Int) < 5 := by omega
          obtain ⟨ps0, ps1, ps2, psl, psf⟩ := ps.three
          go_wp2
          go_ret
          exact ⟨by first | rfl | (simp; done) | (simp; omega), dl.bel⟩
end Go.Proofs.Ytimjalhhigekpaa

/-
  The walk of the law FnValidPool: at every code it returns true and changes nothing that was there. Conditions: none.
-/
import Derived.Test.YtnfpnpdiglaebaaLawPl
import Derived.Test.YtnfpnpdiglaebaaLawFrame
import Derived.BigQuiet
import Derived.Deep.RegionHeld3

namespace Go.Proofs.Ytnfpnpdiglaebaa
open Go.RowKit Pol

set_option maxHeartbeats 8000000 in
set_option maxRecDepth 16384 in
theorem walkValidPool (a : Option Addr) (len cap : Nat) (zs : List Int) (w : World) (hn : zs.length = len) (hc : len ≤ cap) (hcc : cap ≤ maxLen) (h : Sees w w.heap.size a (byts zs)) (hz : ∀ y ∈ zs, 0 ≤ y ∧ y ≤ 255) :
    Calls Try.prog 3 #[.slice a len cap] w fun e w' => e = .returned (.bool true) ∧ Below w.heap.size w w' := by
  have HE := hid hn
  have HC := hid hcc
  have HZ := hid hz
  clear hn hcc hz
  by_cases hbig : 1048576 < len
  · go_enter Try.func3, Try.ntmps3
    go_wp2
    go_ret
    exact ⟨rfl, Below.refl _ _⟩
  · go_enter Try.func3, Try.ntmps3
    go_wp2_with fail
    refine (drawValidPool_any _ _ _ _ _ h HZ.out HE.out hc (by omega) HC.out).mono ?_
    rintro e w2 ⟨A1, A2, A3, c1, c2, c3, p, rfl, dq⟩
    have dp := dq.ownk
    have hB : DB w w2 := dq.belw
    have hl7 := dq.2.2
    clear dq
    replace dp := dp.alloc (.cells #[.int .i64 p.mx, .slice A1 p.idle.length c1, .slice A2 p.held.length c2, .slice A3 p.wait.length c3] 26)
    replace hB := hB.alloc (.cells #[.int .i64 p.mx, .slice A1 p.idle.length c1, .slice A2 p.held.length c2, .slice A3 p.wait.length c3] 26)
    have ps := At.new w2 26 #[.int .i64 p.mx, .slice A1 p.idle.length c1, .slice A2 p.held.length c2, .slice A3 p.wait.length c3]
    rcases hv : okB p with _ | _
    · skip
      have HV := hid hv
      clear hv
      obtain ⟨ps0, ps1, ps2, ps3, psl, psf⟩ := ps.fourP
      go_wp2_with fail
      with_reducible refine (iValidPool_any p A1 A2 A3 c1 c2 c3 _ dp.sees dp.i2 dp.h2 (Nat.le_trans dp.w2 (by decide))).mono ?_
      rintro e w3 ⟨he, hb⟩
      rw [HV.out] at he
      subst he
      replace dp := dp.below hb
      replace hB := hB.below hb
      replace ps := ps.below hb ps.lt
      clear hb
      clear ps0 ps1 ps2 ps3 psl psf
      obtain ⟨ps0, ps1, ps2, ps3, psl, psf⟩ := ps.fourP
      go_wp2_with fail
      with_reducible refine (sValidPool_any p A1 A2 A3 c1 c2 c3 _ dp.sees dp.i2 dp.h2 (Nat.le_trans dp.w2 (by decide))).mono ?_
      rintro e w4 ⟨he, hb⟩
      rw [HV.out] at he
      subst he
      replace dp := dp.below hb
      replace hB := hB.below hb
      replace ps := ps.below hb ps.lt
      clear hb
      clear ps0 ps1 ps2 ps3 psl psf
      obtain ⟨ps0, ps1, ps2, ps3, psl, psf⟩ := ps.fourP
      go_wp2_with fail
      with_reducible refine (sValidPool_any p A1 A2 A3 c1 c2 c3 _ dp.sees dp.i2 dp.h2 (Nat.le_trans dp.w2 (by decide))).mono ?_
      rintro e w5 ⟨he, hb⟩
      rw [HV.out] at he
      subst he
      replace dp := dp.below hb
      replace hB := hB.below hb
      replace ps := ps.below hb ps.lt
      clear hb
      clear ps0 ps1 ps2 ps3 psl psf
      obtain ⟨ps0, ps1, ps2, ps3, psl, psf⟩ := ps.fourP
      go_wp2
      go_ret
      exact ⟨by first | rfl | (simp; done) | (simp; omega), hB.bel⟩
    · skip
      have HV := hid hv
      have H1 := hid (ok_bare (okB_iff.1 hv))
      have H2 := hid (ok_nowait (okB_iff.1 hv))
      clear hv
      obtain ⟨ps0, ps1, ps2, ps3, psl, psf⟩ := ps.fourP
      go_wp2_with fail
      with_reducible refine (iValidPool_any p A1 A2 A3 c1 c2 c3 _ dp.sees dp.i2 dp.h2 (Nat.le_trans dp.w2 (by decide))).mono ?_
      rintro e w3 ⟨he, hb⟩
      rw [HV.out] at he
      subst he
      replace dp := dp.below hb
      replace hB := hB.below hb
      replace ps := ps.below hb ps.lt
      clear hb
      clear ps0 ps1 ps2 ps3 psl psf
      obtain ⟨ps0, ps1, ps2, ps3, psl, psf⟩ := ps.fourP
      go_wp2_with fail
      with_reducible refine (sValidPool_any p A1 A2 A3 c1 c2 c3 _ dp.sees dp.i2 dp.h2 (Nat.le_trans dp.w2 (by decide))).mono ?_
      rintro e w4 ⟨he, hb⟩
      rw [HV.out] at he
      subst he
      replace dp := dp.below hb
      replace hB := hB.below hb
      replace ps := ps.below hb ps.lt
      clear hb
      clear ps0 ps1 ps2 ps3 psl psf
      obtain ⟨ps0, ps1, ps2, ps3, psl, psf⟩ := ps.fourP
      go_wp2_with fail
      refine (iValidPool_any ⟨p.mx, [], [], []⟩ none none none 0 0 0 _ ⟨Sees.nil, fun hx => absurd rfl hx, Sees.nil⟩ (by show 0 ≤ 2097152; decide) (by show 0 ≤ 2097152; decide) (by show 0 ≤ 4194304; decide)).mono ?_
      rintro e w5 ⟨he, hb⟩
      rw [H1.out] at he
      subst he
      replace dp := dp.below hb
      replace hB := hB.below hb
      replace ps := ps.below hb ps.lt
      clear hb
      clear ps0 ps1 ps2 ps3 psl psf
      obtain ⟨ps0, ps1, ps2, ps3, psl, psf⟩ := ps.fourP
      go_wp2_with fail
      refine (iValidPool_any ⟨p.mx, p.idle, p.held, []⟩ A1 A2 none c1 c2 0 _ ⟨dp.sees.idle, dp.sees.held, Sees.nil⟩ dp.i2 dp.h2 (by show 0 ≤ 4194304; decide)).mono ?_
      rintro e w6 ⟨he, hb⟩
      rw [H2.out] at he
      subst he
      replace dp := dp.below hb
      replace hB := hB.below hb
      replace ps := ps.below hb ps.lt
      clear hb
      clear ps0 ps1 ps2 ps3 psl psf
      obtain ⟨ps0, ps1, ps2, ps3, psl, psf⟩ := ps.fourP
      go_wp2
      go_ret
      exact ⟨by first | rfl | (simp; done) | (simp; omega), hB.bel⟩
end Go.Proofs.Ytnfpnpdiglaebaa

/-
  The walk of the law FnPoolRoundTrip: at every code it returns true and changes nothing that was there. Conditions: none.
-/
import Derived.Test.YtehdbllpiokbnabLawTx
import Derived.Test.YtehdbllpiokbnabLawFrame
import Derived.BigQuiet
import Derived.Deep.RegionHeld3


namespace Go.Proofs.Ytehdbllpiokbnab
open Go.RowKit Txt Pol

set_option maxHeartbeats 8000000 in
set_option maxRecDepth 16384 in
theorem walkPoolRoundTrip (a : Option Addr) (len cap : Nat) (zs : List Int) (w : World) (hn : zs.length = len) (hc : len ≤ cap) (hcc : cap ≤ maxLen) (h : Sees w w.heap.size a (byts zs)) (hz : ∀ y ∈ zs, 0 ≤ y ∧ y ≤ 255) :
    Calls Try.prog 3 #[.slice a len cap] w fun e w' => e = .returned (.bool true) ∧ Below w.heap.size w w' := by
  have HE := hid hn
  have HC := hid hcc
  have HZ := hid hz
  clear hn hcc hz
  by_cases hbig : 1048576 < len
  · go_enter Try.func3, Try.ntmps3
    go_wp2
    go_ret
    exact ⟨rfl, Below.refl _ _⟩
  · go_enter Try.func3, Try.ntmps3
    go_wp2_with fail
    refine (drawFormatPool_any _ _ _ _ _ h HZ.out HE.out hc (by omega) HC.out).mono ?_
    rintro e w2 ⟨A1, A2, A3, c1, c2, c3, p, rfl, dq⟩
    have dp := dq.ownk
    have hB : DB w w2 := dq.belw
    have hl7 := dq.2.2
    clear dq
    replace dp := dp.alloc (.cells #[.int .i64 p.mx, .slice A1 p.idle.length c1, .slice A2 p.held.length c2, .slice A3 p.wait.length c3] 26)
    replace hB := hB.alloc (.cells #[.int .i64 p.mx, .slice A1 p.idle.length c1, .slice A2 p.held.length c2, .slice A3 p.wait.length c3] 26)
    have ps := At.new w2 26 #[.int .i64 p.mx, .slice A1 p.idle.length c1, .slice A2 p.held.length c2, .slice A3 p.wait.length c3]
    obtain ⟨T, hT⟩ : ∃ T, T = fmtP p := ⟨_, rfl⟩
    have HT := hid hT.symm
    have hTl : T.length ≤ 900 := by rw [hT]; exact fmtP_len p
    by_cases hne : T = []
    · skip
      have hTe : (T == []) = true := by simpa using hne
      clear hne hT
      obtain ⟨ps0, ps1, ps2, ps3, psl, psf⟩ := ps.fourP
      go_wp2_with fail
      with_reducible refine (iFormatPool_any p A1 A2 A3 c1 c2 c3 _ dp.sees dp.i2 dp.h2 dp.w2).mono ?_
      rintro e w3 ⟨he, hb⟩
      rw [HT.out] at he
      subst he
      unfold tx
      replace dp := dp.below hb
      replace hB := hB.below hb
      replace ps := ps.below hb ps.lt
      clear hb
      clear ps0 ps1 ps2 ps3 psl psf
      obtain ⟨ps0, ps1, ps2, ps3, psl, psf⟩ := ps.fourP
      go_wp2_with fail
      with_reducible refine (sFormatPool_any p A1 A2 A3 c1 c2 c3 _ dp.sees dp.i2 dp.h2 dp.w2).mono ?_
      rintro e w4 ⟨he, hb⟩
      rw [HT.out] at he
      subst he
      unfold tx
      replace dp := dp.below hb
      replace hB := hB.below hb
      replace ps := ps.below hb ps.lt
      clear hb
      clear ps0 ps1 ps2 ps3 psl psf
      obtain ⟨ps0, ps1, ps2, ps3, psl, psf⟩ := ps.fourP
      go_wp2_with fail
      with_reducible refine (sFormatPool_any p A1 A2 A3 c1 c2 c3 _ dp.sees dp.i2 dp.h2 dp.w2).mono ?_
      rintro e w5 ⟨he, hb⟩
      rw [HT.out] at he
      subst he
      unfold tx
      replace dp := dp.below hb
      replace hB := hB.below hb
      replace ps := ps.below hb ps.lt
      clear hb
      clear ps0 ps1 ps2 ps3 psl psf
      obtain ⟨ps0, ps1, ps2, ps3, psl, psf⟩ := ps.fourP
      go_wp2
      go_ret
      exact ⟨by first | rfl | (simp; done) | (simp; omega), hB.bel⟩
    · skip
      have hTe : (T == []) = false := by simpa using hne
      obtain ⟨e1, e2⟩ := fmt_back (p := p) (by rw [← hT]; exact hne)
      rw [← hT] at e1 e2
      have HPP := hid e1
      have HPB := hid e2
      have c0 := fun w => iParsePool_any T w (by omega)
      rw [e1, e2] at c0
      unfold tx at c0
      have C0 := hid c0
      clear e1 e2 c0 hne hT
      obtain ⟨ps0, ps1, ps2, ps3, psl, psf⟩ := ps.fourP
      go_wp2_with fail
      with_reducible refine (iFormatPool_any p A1 A2 A3 c1 c2 c3 _ dp.sees dp.i2 dp.h2 dp.w2).mono ?_
      rintro e w3 ⟨he, hb⟩
      rw [HT.out] at he
      subst he
      unfold tx
      replace dp := dp.below hb
      replace hB := hB.below hb
      replace ps := ps.below hb ps.lt
      clear hb
      clear ps0 ps1 ps2 ps3 psl psf
      obtain ⟨ps0, ps1, ps2, ps3, psl, psf⟩ := ps.fourP
      go_wp2_with fail
      with_reducible refine (sFormatPool_any p A1 A2 A3 c1 c2 c3 _ dp.sees dp.i2 dp.h2 dp.w2).mono ?_
      rintro e w4 ⟨he, hb⟩
      rw [HT.out] at he
      subst he
      unfold tx
      replace dp := dp.below hb
      replace hB := hB.below hb
      replace ps := ps.below hb ps.lt
      clear hb
      clear ps0 ps1 ps2 ps3 psl psf
      have hpl := dp.2
      obtain ⟨ps0, ps1, ps2, ps3, psl, psf⟩ := ps.fourP
      go_wp2_with fail
      with_reducible refine (C0.out _).mono ?_
      rintro e w5 ⟨B5, D5, E5, b5, d5, f5, rfl, ho, hb⟩
      have ob : OwnK w5 _ B5 D5 E5 b5 d5 f5 p := ⟨ho, hpl⟩
      clear ho
      replace dp := dp.below hb
      replace hB := hB.below hb
      replace ps := ps.below hb ps.lt
      clear hb
      clear ps0 ps1 ps2 ps3 psl psf
      replace dp := dp.alloc (.cells #[.int .i64 p.mx, .slice B5 p.idle.length b5, .slice D5 p.held.length d5, .slice E5 p.wait.length f5] 26)
      replace hB := hB.alloc (.cells #[.int .i64 p.mx, .slice B5 p.idle.length b5, .slice D5 p.held.length d5, .slice E5 p.wait.length f5] 26)
      replace ob := ob.alloc (.cells #[.int .i64 p.mx, .slice B5 p.idle.length b5, .slice D5 p.held.length d5, .slice E5 p.wait.length f5] 26)
      replace ps := ps.alloc (.cells #[.int .i64 p.mx, .slice B5 p.idle.length b5, .slice D5 p.held.length d5, .slice E5 p.wait.length f5] 26)
      have xb := At.new w5 26 #[.int .i64 p.mx, .slice B5 p.idle.length b5, .slice D5 p.held.length d5, .slice E5 p.wait.length f5]
      obtain ⟨ps0, ps1, ps2, ps3, psl, psf⟩ := ps.fourP
      obtain ⟨xb0, xb1, xb2, xb3, xbl, xbf⟩ := xb.fourP
      go_wp2_with fail
      with_reducible refine (equalPool_same B5 D5 E5 A1 A2 A3 b5 d5 f5 c1 c2 c3 p _ ob.sees dp.sees (Nat.le_trans ob.i2 (by decide)) (Nat.le_trans ob.h2 (by decide)) (Nat.le_trans ob.w2 (by decide))).mono ?_
      rintro e w6 ⟨rfl, hb⟩
      replace dp := dp.below hb
      replace hB := hB.below hb
      replace ob := ob.below hb
      replace ps := ps.below hb ps.lt
      replace xb := xb.below hb xb.lt
      clear hb
      clear ps0 ps1 ps2 ps3 psl psf
      clear xb0 xb1 xb2 xb3 xbl xbf
      obtain ⟨ps0, ps1, ps2, ps3, psl, psf⟩ := ps.fourP
      obtain ⟨xb0, xb1, xb2, xb3, xbl, xbf⟩ := xb.fourP
      go_wp2
      go_ret
      exact ⟨by first | rfl | (simp; done) | (simp; omega), hB.bel⟩
end Go.Proofs.Ytehdbllpiokbnab

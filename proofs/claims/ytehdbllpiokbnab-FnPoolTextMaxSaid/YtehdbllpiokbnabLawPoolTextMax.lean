/-
  The walk of the law FnPoolTextMax: at every code it returns true and changes nothing that was there. Conditions: none.
-/
import Derived.Test.YtehdbllpiokbnabLawTx
import Derived.Test.YtehdbllpiokbnabLawFrame
import Derived.BigQuiet
import Derived.Deep.RegionHeld3


namespace Go.Proofs.Ytehdbllpiokbnab
open Go.RowKit Txt Pol

set_option maxHeartbeats 8000000 in
set_option maxRecDepth 16384 in
theorem walkPoolTextMax (a : Option Addr) (len cap : Nat) (zs : List Int) (w : World) (hn : zs.length = len) (hc : len ≤ cap) (hcc : cap ≤ maxLen) (h : Sees w w.heap.size a (byts zs)) (hz : ∀ y ∈ zs, 0 ≤ y ∧ y ≤ 255) :
    Calls Try.prog 6 #[.slice a len cap] w fun e w' => e = .returned (.bool true) ∧ Below w.heap.size w w' := by
  have HE := hid hn
  have HC := hid hcc
  have HZ := hid hz
  clear hn hcc hz
  by_cases hbig : 1048576 < len
  · go_enter Try.func6, Try.ntmps6
    go_wp2
    go_ret
    exact ⟨rfl, Below.refl _ _⟩
  · go_enter Try.func6, Try.ntmps6
    go_wp2_with fail
    refine (drawFormatPool_any _ _ _ _ _ h HZ.out HE.out hc (by omega) HC.out).mono ?_
    rintro e w2 ⟨A1, A2, A3, c1, c2, c3, p, rfl, dq⟩
    have dp := dq.ownk
    have hB : DB w w2 := dq.belw
    have hl7 := dq.2.2
    clear dq
    replace dp := dp.alloc (.cells #[.int .i64 p.mx, .slice A1 p.idle.length c1, .slice A2 p.held.length c2, .slice A3 p.wait.length c3] 26)
    replace hB := hB.alloc (.cells #[.int .i64 p.mx, .slice A1 p.idle.length c1, .slice A2 p.held.length c2, .slice A3 p.wait.length c3] 26)
    have ps := At.new w2 26 #[.int .i64 p.mx, .slice A1 p.idle.length c1, .slice A2 p.held.length c2, .slice A3 p.wait.length c3]
    obtain ⟨T, hT⟩ : ∃ T, T = fmtP p := ⟨_, rfl⟩
    have HT := hid hT.symm
    have hTl : T.length ≤ 900 := by rw [hT]; exact fmtP_len p
    by_cases hne : T = []
    · skip
      have hTe : (T == []) = true := by simpa using hne
      clear hne hT
      obtain ⟨ps0, ps1, ps2, ps3, psl, psf⟩ := ps.fourP
      go_wp2_with fail
      with_reducible refine (iFormatPool_any p A1 A2 A3 c1 c2 c3 _ dp.sees dp.i2 dp.h2 dp.w2).mono ?_
      rintro e w3 ⟨he, hb⟩
      rw [HT.out] at he
      subst he
      unfold tx
      replace dp := dp.below hb
      replace hB := hB.below hb
      replace ps := ps.below hb ps.lt
      clear hb
      clear ps0 ps1 ps2 ps3 psl psf
      obtain ⟨ps0, ps1, ps2, ps3, psl, psf⟩ := ps.fourP
      go_wp2_with fail
      with_reducible refine (sFormatPool_any p A1 A2 A3 c1 c2 c3 _ dp.sees dp.i2 dp.h2 dp.w2).mono ?_
      rintro e w4 ⟨he, hb⟩
      rw [HT.out] at he
      subst he
      unfold tx
      replace dp := dp.below hb
      replace hB := hB.below hb
      replace ps := ps.below hb ps.lt
      clear hb
      clear ps0 ps1 ps2 ps3 psl psf
      obtain ⟨ps0, ps1, ps2, ps3, psl, psf⟩ := ps.fourP
      go_wp2_with fail
      with_reducible refine (sFormatPool_any p A1 A2 A3 c1 c2 c3 _ dp.sees dp.i2 dp.h2 dp.w2).mono ?_
      rintro e w5 ⟨he, hb⟩
      rw [HT.out] at he
      subst he
      unfold tx
      replace dp := dp.below hb
      replace hB := hB.below hb
      replace ps := ps.below hb ps.lt
      clear hb
      clear ps0 ps1 ps2 ps3 psl psf
      obtain ⟨ps0, ps1, ps2, ps3, psl, psf⟩ := ps.fourP
      go_wp2
      go_ret
      exact ⟨by first | rfl | (simp; done) | (simp; omega), hB.bel⟩
    · skip
      have hTe : (T == []) = false := by simpa using hne
      have hok := fmt_ok (p := p) (by rw [← hT]; exact hne)
      obtain ⟨d, R, ea, eb⟩ := fmt_max hok
      rw [← hT] at ea
      obtain ⟨Z, hZ⟩ : ∃ Z : List UInt8, Z = [d, 32, 124, 124] := ⟨_, rfl⟩
      obtain ⟨Q, hQ⟩ : ∃ Q : List UInt8, Q = [d, 32] := ⟨_, rfl⟩
      rw [← hZ] at eb
      have hZ4 : Z.length = 4 := by rw [hZ]; rfl
      have hT2 : 2 ≤ T.length := by rw [ea]; simp
      have f1 : (ByteArray.mk T.toArray).extract 0 2 = ByteArray.mk Q.toArray := by rw [ByteArray.extract_mk, ea, hQ]; rfl
      have f2 : (ByteArray.mk Z.toArray).extract 0 2 = ByteArray.mk Q.toArray := by rw [ByteArray.extract_mk, hZ, hQ]; rfl
      have f3 : (ByteArray.mk Z.toArray).extract 2 4 = ByteArray.mk ([124, 124] : List UInt8).toArray := by rw [ByteArray.extract_mk, hZ]; rfl
      have h1T : 1 < T.length := by omega
      have f4 := byte_at h1T
      have f5 : T[1] = 32 := by simp only [ea]; rfl
      have g1 : (2 : Int) ≤ (T.length : Int) := by omega
      have g2 : ¬ ((T.length : Int) < 2) := by omega
      have g3 : (1 : Int) < (T.length : Int) := by omega
      have EB := hid eb
      clear hok hne hT ea eb hZ hQ
      obtain ⟨ps0, ps1, ps2, ps3, psl, psf⟩ := ps.fourP
      go_wp2_with fail
      with_reducible refine (iFormatPool_any p A1 A2 A3 c1 c2 c3 _ dp.sees dp.i2 dp.h2 dp.w2).mono ?_
      rintro e w3 ⟨he, hb⟩
      rw [HT.out] at he
      subst he
      unfold tx
      replace dp := dp.below hb
      replace hB := hB.below hb
      replace ps := ps.below hb ps.lt
      clear hb
      clear ps0 ps1 ps2 ps3 psl psf
      obtain ⟨ps0, ps1, ps2, ps3, psl, psf⟩ := ps.fourP
      go_wp2_with fail
      with_reducible refine (sFormatPool_any p A1 A2 A3 c1 c2 c3 _ dp.sees dp.i2 dp.h2 dp.w2).mono ?_
      rintro e w4 ⟨he, hb⟩
      rw [HT.out] at he
      subst he
      unfold tx
      replace dp := dp.below hb
      replace hB := hB.below hb
      replace ps := ps.below hb ps.lt
      clear hb
      clear ps0 ps1 ps2 ps3 psl psf
      obtain ⟨ps0, ps1, ps2, ps3, psl, psf⟩ := ps.fourP
      go_wp2_with fail
      refine (iFormatPool_any ⟨p.mx, [], [], []⟩ none none none 0 0 0 _ ⟨Sees.nil, fun hx => absurd rfl hx, Sees.nil⟩ (by show 0 ≤ 2097152; decide) (by show 0 ≤ 2097152; decide) (by show 0 ≤ 2097152; decide)).mono ?_
      rintro e w5 ⟨he, hb⟩
      rw [EB.out] at he
      subst he
      replace dp := dp.below hb
      replace hB := hB.below hb
      replace ps := ps.below hb ps.lt
      clear hb
      clear ps0 ps1 ps2 ps3 psl psf
      unfold tx
      obtain ⟨ps0, ps1, ps2, ps3, psl, psf⟩ := ps.fourP
      go_wp2
      go_quiet (fail)
      go_wp2
      go_ret
      exact ⟨by first | rfl | (simp; done) | (simp; omega), (hB.drewN _).bel⟩
end Go.Proofs.Ytehdbllpiokbnab

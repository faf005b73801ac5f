/-
  The walk of the law FnSettingsCanonical: at every code it returns true and changes nothing that was there. Conditions: none.
-/
import Derived.Test.YtehdbllpiokbnacLawTs
import Derived.Test.YtehdbllpiokbnacLawFrame
import Derived.BigQuiet
import Derived.Deep.RegionHeld3
namespace Go.Proofs.Ytehdbllpiokbnac
open Go.RowKit Txt Stt

set_option maxHeartbeats 8000000 in
set_option maxRecDepth 16384 in
theorem walkSettingsCanonical (a : Option Addr) (len cap : Nat) (zs : List Int) (w : World) (hn : zs.length = len) (hc : len ≤ cap) (hcc : cap ≤ maxLen) (h : Sees w w.heap.size a (byts zs)) (hz : ∀ y ∈ zs, 0 ≤ y ∧ y ≤ 255) :
    Calls Try.prog 3 #[.slice a len cap] w fun e w' => e = .returned (.bool true) ∧ Below w.heap.size w w' := by
  have HE := hid hn
  have HC := hid hcc
  have HZ := hid hz
  clear hn hcc hz
  by_cases hbig : 1048576 < len
  · go_enter Try.func3, Try.ntmps3
    go_wp2
    go_ret
    exact ⟨rfl, Below.refl _ _⟩
  · go_enter Try.func3, Try.ntmps3
    go_wp2_with fail
    refine (drawParseSettings_any _ _ _ _ _ h HZ.out HE.out hc (by omega) HC.out).mono ?_
    rintro e w2 ⟨T, rfl, hTl, hB⟩
    have hB : DS w w2 := hB
    have c1 := fun w => iParseSettings_any T w (by omega)
    have c2 := fun w => sParseSettings_any T w (by omega)
    unfold tx at c1 c2
    have hPl := prsS_small T
    have HFO := hid (fun h => sfmt_fore (S := T) h)
    obtain ⟨P, hP⟩ : ∃ P, P = prsS T := ⟨_, rfl⟩
    rw [← hP] at c1 c2 hPl HFO
    have hP4 : P.length ≤ 4194304 := by omega
    rcases hv : prsSB T with _ | _
    · skip
      rw [hv] at c1 c2
      have C1 := hid c1
      have C2 := hid c2
      clear c1 c2
      clear hv hP HFO
      unfold tx
      go_wp2_with fail
      with_reducible refine (C1.out _).mono ?_
      rintro e w3 ⟨v, rfl, oa, hb⟩
      obtain ⟨A1, c1, rfl, _, _, _⟩ := OwnS.form oa
      replace hB := hB.below hb
      clear hb
      go_wp2_with fail
      with_reducible refine (C2.out _).mono ?_
      rintro e w4 ⟨v, rfl, ob, hb⟩
      obtain ⟨A2, c2, rfl, _, _, _⟩ := OwnS.form ob
      replace hB := hB.below hb
      replace oa := oa.below hb
      clear hb
      go_wp2_with fail
      with_reducible refine (equalSettings_same A1 A2 c1 c2 P _ oa.sees ob.sees hP4).mono ?_
      rintro e w5 ⟨rfl, hb⟩
      replace hB := hB.below hb
      replace oa := oa.below hb
      replace ob := ob.below hb
      clear hb
      go_wp2
      go_ret
      exact ⟨by first | rfl | (simp; done) | (simp; omega), hB.bel⟩
    · skip
      rw [hv] at c1 c2
      have C1 := hid c1
      have C2 := hid c2
      clear c1 c2
      obtain ⟨e1, e2⟩ := HFO.out hv
      have HF := hid e1
      have HV := hid e2
      clear e1 e2
      clear hv hP HFO
      unfold tx
      go_wp2_with fail
      with_reducible refine (C1.out _).mono ?_
      rintro e w3 ⟨v, rfl, oa, hb⟩
      obtain ⟨A1, c1, rfl, _, _, _⟩ := OwnS.form oa
      replace hB := hB.below hb
      clear hb
      go_wp2_with fail
      with_reducible refine (C2.out _).mono ?_
      rintro e w4 ⟨v, rfl, ob, hb⟩
      obtain ⟨A2, c2, rfl, _, _, _⟩ := OwnS.form ob
      replace hB := hB.below hb
      replace oa := oa.below hb
      clear hb
      go_wp2_with fail
      with_reducible refine (equalSettings_same A1 A2 c1 c2 P _ oa.sees ob.sees hP4).mono ?_
      rintro e w5 ⟨rfl, hb⟩
      replace hB := hB.below hb
      replace oa := oa.below hb
      replace ob := ob.below hb
      clear hb
      go_wp2_with fail
      with_reducible refine (iFormatSettings_any A1 c1 P _ oa.sees hP4).mono ?_
      rintro e w6 ⟨he, hb⟩
      rw [HF.out] at he
      subst he
      unfold tx
      replace hB := hB.below hb
      replace oa := oa.below hb
      replace ob := ob.below hb
      clear hb
      go_wp2_with fail
      with_reducible refine (iValidSettings_any A1 c1 P _ oa.sees hP4).mono ?_
      rintro e w7 ⟨he, hb⟩
      rw [HV.out] at he
      subst he
      replace hB := hB.below hb
      replace oa := oa.below hb
      replace ob := ob.below hb
      clear hb
      go_wp2
      go_ret
      exact ⟨by first | rfl | (simp; done) | (simp; omega), hB.bel⟩
end Go.Proofs.Ytehdbllpiokbnac

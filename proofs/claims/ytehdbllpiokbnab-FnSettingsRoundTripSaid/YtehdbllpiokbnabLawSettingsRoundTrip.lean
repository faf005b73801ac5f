/-
  The walk of the law FnSettingsRoundTrip: at every code it returns true and changes nothing that was there. Conditions: none.
-/
import Derived.Test.YtehdbllpiokbnabLawTs
import Derived.Test.YtehdbllpiokbnabLawFrame
import Derived.BigQuiet
import Derived.Deep.RegionHeld3

namespace Go.Proofs.Ytehdbllpiokbnab
open Go.RowKit Txt Stt

set_option maxHeartbeats 8000000 in
set_option maxRecDepth 16384 in
theorem walkSettingsRoundTrip (a : Option Addr) (len cap : Nat) (zs : List Int) (w : World) (hn : zs.length = len) (hc : len ≤ cap) (hcc : cap ≤ maxLen) (h : Sees w w.heap.size a (byts zs)) (hz : ∀ y ∈ zs, 0 ≤ y ∧ y ≤ 255) :
    Calls Try.prog 7 #[.slice a len cap] w fun e w' => e = .returned (.bool true) ∧ Below w.heap.size w w' := by
  have HE := hid hn
  have HC := hid hcc
  have HZ := hid hz
  clear hn hcc hz
  by_cases hbig : 1048576 < len
  · go_enter Try.func7, Try.ntmps7
    go_wp2
    go_ret
    exact ⟨rfl, Below.refl _ _⟩
  · go_enter Try.func7, Try.ntmps7
    go_wp2_with fail
    refine (drawFormatSettings_any _ _ _ _ _ h HZ.out HE.out hc (by omega) HC.out).mono ?_
    rintro e w2 ⟨A, c, l, rfl, dl⟩
    obtain ⟨T, hT⟩ : ∃ T, T = fmtS l := ⟨_, rfl⟩
    have HT := hid hT.symm
    have hTl : T.length ≤ 900 := by rw [hT]; exact fmtS_len l
    rcases hv : setsB l with _ | _
    · skip
      have HV := hid hv
      clear hv hT
      go_wp2_with fail
      with_reducible refine (iFormatSettings_any A c l _ dl.sees dl.nT).mono ?_
      rintro e w3 ⟨he, hb⟩
      rw [HT.out] at he
      subst he
      unfold tx
      replace dl := dl.below hb
      clear hb
      go_wp2_with fail
      with_reducible refine (sFormatSettings_any A c l _ dl.sees dl.nT).mono ?_
      rintro e w4 ⟨he, hb⟩
      rw [HT.out] at he
      subst he
      unfold tx
      replace dl := dl.below hb
      clear hb
      go_wp2_with fail
      with_reducible refine (iValidSettings_any A c l _ dl.sees dl.nT).mono ?_
      rintro e w5 ⟨he, hb⟩
      rw [HV.out] at he
      subst he
      replace dl := dl.below hb
      clear hb
      go_wp2_with fail
      with_reducible refine (sFormatSettings_any A c l _ dl.sees dl.nT).mono ?_
      rintro e w6 ⟨he, hb⟩
      rw [HT.out] at he
      subst he
      unfold tx
      replace dl := dl.below hb
      clear hb
      go_wp2
      go_ret
      exact ⟨by first | rfl | (simp; done) | (simp; omega), dl.bel⟩
    · skip
      obtain ⟨e1, e2⟩ := sfmt_back hv
      rw [← hT] at e1 e2
      have c0 := fun w => iParseSettings_any T w (by omega)
      rw [e1, e2] at c0
      unfold tx at c0
      have C0 := hid c0
      have HV := hid hv
      have hbb : (T == []) = true ∧ ((l.length : Int) == 0) = true ∨ (T == []) = false ∧ ((l.length : Int) == 0) = false := by
        by_cases h0 : T = []
        · have := sfmt_nil hv (by rw [← hT]; exact h0)
          exact .inl ⟨by simpa using h0, by rw [this]; rfl⟩
        · obtain ⟨_, hl0⟩ := sfmt_ok (l := l) (by rw [← hT]; exact h0)
          refine .inr ⟨by simpa using h0, ?_⟩
          have := List.length_pos_iff.2 hl0
          simp only [beq_eq_false_iff_ne, ne_eq]; omega
      clear hv hT e1 e2 c0
      rcases hbb with ⟨b1, b2⟩ | ⟨b1, b2⟩
      · skip
        go_wp2_with fail
        with_reducible refine (iFormatSettings_any A c l _ dl.sees dl.nT).mono ?_
        rintro e w3 ⟨he, hb⟩
        rw [HT.out] at he
        subst he
        unfold tx
        replace dl := dl.below hb
        clear hb
        go_wp2_with fail
        with_reducible refine (sFormatSettings_any A c l _ dl.sees dl.nT).mono ?_
        rintro e w4 ⟨he, hb⟩
        rw [HT.out] at he
        subst he
        unfold tx
        replace dl := dl.below hb
        clear hb
        go_wp2_with fail
        with_reducible refine (iValidSettings_any A c l _ dl.sees dl.nT).mono ?_
        rintro e w5 ⟨he, hb⟩
        rw [HV.out] at he
        subst he
        replace dl := dl.below hb
        clear hb
        go_wp2_with fail
        with_reducible refine (C0.out _).mono ?_
        rintro e w6 ⟨v, rfl, ho, hb⟩
        obtain ⟨A2, c2, rfl, _, _, _⟩ := OwnS.form ho
        replace dl := dl.below hb
        clear hb
        go_wp2_with fail
        with_reducible refine (equalSettings_same A2 A c2 c l _ ho.sees dl.sees dl.nT).mono ?_
        rintro e w7 ⟨rfl, hb⟩
        replace dl := dl.below hb
        clear hb
        go_wp2
        go_ret
        exact ⟨by first | rfl | (simp; done) | (simp; omega), dl.bel⟩
      · skip
        go_wp2_with fail
        with_reducible refine (iFormatSettings_any A c l _ dl.sees dl.nT).mono ?_
        rintro e w3 ⟨he, hb⟩
        rw [HT.out] at he
        subst he
        unfold tx
        replace dl := dl.below hb
        clear hb
        go_wp2_with fail
        with_reducible refine (sFormatSettings_any A c l _ dl.sees dl.nT).mono ?_
        rintro e w4 ⟨he, hb⟩
        rw [HT.out] at he
        subst he
        unfold tx
        replace dl := dl.below hb
        clear hb
        go_wp2_with fail
        with_reducible refine (iValidSettings_any A c l _ dl.sees dl.nT).mono ?_
        rintro e w5 ⟨he, hb⟩
        rw [HV.out] at he
        subst he
        replace dl := dl.below hb
        clear hb
        go_wp2_with fail
        with_reducible refine (C0.out _).mono ?_
        rintro e w6 ⟨v, rfl, ho, hb⟩
        obtain ⟨A2, c2, rfl, _, _, _⟩ := OwnS.form ho
        replace dl := dl.below hb
        clear hb
        go_wp2_with fail
        with_reducible refine (equalSettings_same A2 A c2 c l _ ho.sees dl.sees dl.nT).mono ?_
        rintro e w7 ⟨rfl, hb⟩
        replace dl := dl.below hb
        clear hb
        go_wp2
        go_ret
        exact ⟨by first | rfl | (simp; done) | (simp; omega), dl.bel⟩
end Go.Proofs.Ytehdbllpiokbnab

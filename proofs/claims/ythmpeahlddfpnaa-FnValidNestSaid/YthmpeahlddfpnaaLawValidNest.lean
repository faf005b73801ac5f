/-
  The walk of the law FnValidNest: at every code it returns true and changes nothing that was there. Conditions: none.
-/
import Derived.Test.YthmpeahlddfpnaaLawNs
import Derived.Test.YthmpeahlddfpnaaLawFrame
import Derived.BigQuiet

namespace Go.Proofs.Ythmpeahlddfpnaa
open Go.RowKit Nes

set_option maxHeartbeats 4000000 in
theorem walkValidNest (a : Option Addr) (len cap : Nat) (zs : List Int) (w : World) (hn : zs.length = len) (hc : len ≤ cap) (hcc : cap ≤ maxLen) (h : Sees w w.heap.size a (byts zs)) (hz : ∀ y ∈ zs, 0 ≤ y ∧ y ≤ 255) :
    Calls Try.prog 8 #[.slice a len cap] w fun e w' => e = .returned (.bool true) ∧ Below w.heap.size w w' := by
  have HE := hid hn
  have HC := hid hcc
  have HZ := hid hz
  clear hn hcc hz
  by_cases hbig : 1048576 < len
  · go_enter Try.func8, Try.ntmps8
    go_wp2
    go_ret
    exact ⟨rfl, Below.refl _ _⟩
  · go_enter Try.func8, Try.ntmps8
    go_wp2_with fail
    refine (drawValidNest_any _ _ _ _ _ h HZ.out HE.out hc (by omega) HC.out).mono ?_
    rintro e w2 ⟨B, d, C, rfl, dl⟩
    have hs := dl.sees
    have HB2 := hid dl.bel
    have hB0 := Below.refl w2.heap.size w2
    rcases hv : nestB C with _ | _
    · skip
      have HV := hid hv
      clear hv
      have hB1 := hB0.alloc hB0.size (.cells #[.int .i64 C.d, .int .i64 C.w, .slice B C.m.length d, .bool C.b] 27)
      clear hB0
      have xa2 : At (w2.alloc (.cells #[.int .i64 C.d, .int .i64 C.w, .slice B C.m.length d, .bool C.b] 27)) (w2.heap.size) 27 #[.int .i64 C.d, .int .i64 C.w, .slice B C.m.length d, .bool C.b] := At.newAt _ _ (by first | rfl | (simp; done) | (simp; omega))
      obtain ⟨xa_0, xa_1, xa_2, xa_3, xa_l, xa_f⟩ := (⟨xa2.cell 0, xa2.cell 1, xa2.cell 2, xa2.cell 3, xa2.lt, xa2.frozen⟩ : _ ∧ _ ∧ _ ∧ _ ∧ _ ∧ _)
      go_wp2_with fail
      with_reducible refine (iValidNest_any C B d _ (hs.on hB1) dl.cap dl.n4).mono ?_
      rintro e w3 ⟨he, hb3⟩
      rw [HV.out] at he
      subst he
      have sz3 : w2.heap.size + 1 ≤ w3.heap.size := Nat.le_trans (by first | exact Nat.le_refl _ | (simp; done) | (simp; omega)) (hb3.size)
      have hB3 := hB1.trans (hb3.mono hB1.size)
      have xa4 := xa2.below hb3 xa2.lt
      clear hB1 xa2
      clear xa_0 xa_1 xa_2 xa_3 xa_l xa_f
      obtain ⟨xa_0, xa_1, xa_2, xa_3, xa_l, xa_f⟩ := (⟨xa4.cell 0, xa4.cell 1, xa4.cell 2, xa4.cell 3, xa4.lt, xa4.frozen⟩ : _ ∧ _ ∧ _ ∧ _ ∧ _ ∧ _)
      go_wp2_with fail
      with_reducible refine (sValidNest_any C B d _ (hs.on hB3) dl.n4).mono ?_
      rintro e w4 ⟨he, hb4⟩
      rw [HV.out] at he
      subst he
      have sz4 : w3.heap.size ≤ w4.heap.size := Nat.le_trans (by first | exact Nat.le_refl _ | (simp; done) | (simp; omega)) (hb4.size)
      have hB5 := hB3.trans (hb4.mono hB3.size)
      have xa6 := xa4.below hb4 xa4.lt
      clear hB3 xa4
      clear xa_0 xa_1 xa_2 xa_3 xa_l xa_f
      obtain ⟨xa_0, xa_1, xa_2, xa_3, xa_l, xa_f⟩ := (⟨xa6.cell 0, xa6.cell 1, xa6.cell 2, xa6.cell 3, xa6.lt, xa6.frozen⟩ : _ ∧ _ ∧ _ ∧ _ ∧ _ ∧ _)
      go_wp2_with fail
      with_reducible refine (sValidNest_any C B d _ (hs.on hB5) dl.n4).mono ?_
      rintro e w5 ⟨he, hb5⟩
      rw [HV.out] at he
      subst he
      have sz5 : w4.heap.size ≤ w5.heap.size := Nat.le_trans (by first | exact Nat.le_refl _ | (simp; done) | (simp; omega)) (hb5.size)
      have hB7 := hB5.trans (hb5.mono hB5.size)
      have xa8 := xa6.below hb5 xa6.lt
      clear hB5 xa6
      clear xa_0 xa_1 xa_2 xa_3 xa_l xa_f
      obtain ⟨xa_0, xa_1, xa_2, xa_3, xa_l, xa_f⟩ := (⟨xa8.cell 0, xa8.cell 1, xa8.cell 2, xa8.cell 3, xa8.lt, xa8.frozen⟩ : _ ∧ _ ∧ _ ∧ _ ∧ _ ∧ _)
      go_wp2
      go_ret
      exact ⟨by first | rfl | (simp; done) | (simp; omega), HB2.out.trans (hB7.mono HB2.out.size)⟩
    · skip
      have hok := nestB_iff.1 hv
      have HV := hid hv
      have HU := hid (nest_unbroken hok)
      have HZ0 := hid nest_zero
      have hlm := hok.2.2.1
      have hlb : ((C.m.length : Int) == C.d) = true := by simp [hlm]
      have HLM := hid hlm
      clear hv hok hlm
      have hB9 := hB0.alloc hB0.size (.cells #[.int .i64 C.d, .int .i64 C.w, .slice B C.m.length d, .bool C.b] 27)
      clear hB0
      have xa10 : At (w2.alloc (.cells #[.int .i64 C.d, .int .i64 C.w, .slice B C.m.length d, .bool C.b] 27)) (w2.heap.size) 27 #[.int .i64 C.d, .int .i64 C.w, .slice B C.m.length d, .bool C.b] := At.newAt _ _ (by first | rfl | (simp; done) | (simp; omega))
      obtain ⟨xa_0, xa_1, xa_2, xa_3, xa_l, xa_f⟩ := (⟨xa10.cell 0, xa10.cell 1, xa10.cell 2, xa10.cell 3, xa10.lt, xa10.frozen⟩ : _ ∧ _ ∧ _ ∧ _ ∧ _ ∧ _)
      go_wp2_with fail
      with_reducible refine (iValidNest_any C B d _ (hs.on hB9) dl.cap dl.n4).mono ?_
      rintro e w3 ⟨he, hb3⟩
      rw [HV.out] at he
      subst he
      have sz3 : w2.heap.size + 1 ≤ w3.heap.size := Nat.le_trans (by first | exact Nat.le_refl _ | (simp; done) | (simp; omega)) (hb3.size)
      have hB11 := hB9.trans (hb3.mono hB9.size)
      have xa12 := xa10.below hb3 xa10.lt
      clear hB9 xa10
      clear xa_0 xa_1 xa_2 xa_3 xa_l xa_f
      obtain ⟨xa_0, xa_1, xa_2, xa_3, xa_l, xa_f⟩ := (⟨xa12.cell 0, xa12.cell 1, xa12.cell 2, xa12.cell 3, xa12.lt, xa12.frozen⟩ : _ ∧ _ ∧ _ ∧ _ ∧ _ ∧ _)
      go_wp2_with fail
      with_reducible refine (sValidNest_any C B d _ (hs.on hB11) dl.n4).mono ?_
      rintro e w4 ⟨he, hb4⟩
      rw [HV.out] at he
      subst he
      have sz4 : w3.heap.size ≤ w4.heap.size := Nat.le_trans (by first | exact Nat.le_refl _ | (simp; done) | (simp; omega)) (hb4.size)
      have hB13 := hB11.trans (hb4.mono hB11.size)
      have xa14 := xa12.below hb4 xa12.lt
      clear hB11 xa12
      clear xa_0 xa_1 xa_2 xa_3 xa_l xa_f
      obtain ⟨xa_0, xa_1, xa_2, xa_3, xa_l, xa_f⟩ := (⟨xa14.cell 0, xa14.cell 1, xa14.cell 2, xa14.cell 3, xa14.lt, xa14.frozen⟩ : _ ∧ _ ∧ _ ∧ _ ∧ _ ∧ _)
      go_wp2_with fail
      with_reducible refine (iValidNest_any ⟨C.d, C.w, C.m, false⟩ B d _ (show SeesM _ _ B ⟨C.d, C.w, C.m, false⟩ from (hs.on hB13)) dl.cap dl.n4).mono ?_
      rintro e w5 ⟨he, hb5⟩
      rw [HU.out] at he
      subst he
      have sz5 : w4.heap.size ≤ w5.heap.size := Nat.le_trans (by first | exact Nat.le_refl _ | (simp; done) | (simp; omega)) (hb5.size)
      have hB15 := hB13.trans (hb5.mono hB13.size)
      have xa16 := xa14.below hb5 xa14.lt
      clear hB13 xa14
      clear xa_0 xa_1 xa_2 xa_3 xa_l xa_f
      obtain ⟨xa_0, xa_1, xa_2, xa_3, xa_l, xa_f⟩ := (⟨xa16.cell 0, xa16.cell 1, xa16.cell 2, xa16.cell 3, xa16.lt, xa16.frozen⟩ : _ ∧ _ ∧ _ ∧ _ ∧ _ ∧ _)
      go_wp2_with fail
      with_reducible refine (iValidNest_zero _).mono ?_
      rintro e w6 ⟨he, hb6⟩
      rw [HZ0.out] at he
      subst he
      have sz6 : w5.heap.size ≤ w6.heap.size := Nat.le_trans (by first | exact Nat.le_refl _ | (simp; done) | (simp; omega)) (hb6.size)
      have hB17 := hB15.trans (hb6.mono hB15.size)
      have xa18 := xa16.below hb6 xa16.lt
      clear hB15 xa16
      clear xa_0 xa_1 xa_2 xa_3 xa_l xa_f
      obtain ⟨xa_0, xa_1, xa_2, xa_3, xa_l, xa_f⟩ := (⟨xa18.cell 0, xa18.cell 1, xa18.cell 2, xa18.cell 3, xa18.lt, xa18.frozen⟩ : _ ∧ _ ∧ _ ∧ _ ∧ _ ∧ _)
      go_wp2
      go_ret
      exact ⟨by first | rfl | (simp; done) | (simp; omega), HB2.out.trans (hB17.mono HB2.out.size)⟩
end Go.Proofs.Ythmpeahlddfpnaa

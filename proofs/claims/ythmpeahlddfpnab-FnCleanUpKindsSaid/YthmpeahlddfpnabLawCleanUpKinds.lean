/-
  The walk of the law FnCleanUpKinds: at every code it returns true and changes nothing that was there. Conditions: none.
-/
import Derived.Test.YthmpeahlddfpnabLawNsB
import Derived.Test.YthmpeahlddfpnabLawFrame
import Derived.BigQuiet

namespace Go.Proofs.Ythmpeahlddfpnab
open Go.RowKit Nes

set_option maxHeartbeats 8000000 in
theorem walkCleanUpKinds (a : Option Addr) (len cap : Nat) (zs : List Int) (w : World) (hn : zs.length = len) (hc : len ≤ cap) (hcc : cap ≤ maxLen) (h : Sees w w.heap.size a (byts zs)) (hz : ∀ y ∈ zs, 0 ≤ y ∧ y ≤ 255) :
    Calls Try.prog 11 #[.slice a len cap] w fun e w' => e = .returned (.bool true) ∧ Below w.heap.size w w' := by
  have HE := hid hn
  have HC := hid hcc
  have HZ := hid hz
  clear hn hcc hz
  by_cases hbig : 1048576 < len
  · go_enter Try.func11, Try.ntmps11
    go_wp2
    go_ret
    exact ⟨rfl, Below.refl _ _⟩
  · go_enter Try.func11, Try.ntmps11
    go_wp2_with fail
    refine (drawCleanUp_any _ _ _ _ _ h HZ.out HE.out hc (by omega) HC.out).mono ?_
    rintro e w2 ⟨B, d, C, rfl, dl⟩
    have hs := dl.sees
    have HB2 := hid dl.bel
    have hB0 := Below.refl w2.heap.size w2
    obtain ⟨X, hX⟩ : ∃ X, X = cleanL C := ⟨_, rfl⟩
    have EX : Hid (cleanL C = X) := hid hX.symm
    have HX4 := hid (show X.length ≤ 4 by rw [hX]; exact clean_len C)
    have HX3 := hid (Nat.le_trans HX4.out (by decide) : X.length ≤ 4194304)
    have HXA := hid (fun (k : Nat) (h : k < X.length) => (show X[k] = 4 by subst hX; exact clean_at h))
    have EZ := hid clean_zero
    clear hX
    have hB1 := hB0.alloc hB0.size (.cells #[.int .i64 C.d, .int .i64 C.w, .slice B C.m.length d, .bool C.b] 25)
    clear hB0
    have xa2 : At (w2.alloc (.cells #[.int .i64 C.d, .int .i64 C.w, .slice B C.m.length d, .bool C.b] 25)) (w2.heap.size) 25 #[.int .i64 C.d, .int .i64 C.w, .slice B C.m.length d, .bool C.b] := At.newAt _ _ (by first | rfl | (simp; done) | (simp; omega))
    obtain ⟨xa_0, xa_1, xa_2, xa_3, xa_l, xa_f⟩ := (⟨xa2.cell 0, xa2.cell 1, xa2.cell 2, xa2.cell 3, xa2.lt, xa2.frozen⟩ : _ ∧ _ ∧ _ ∧ _ ∧ _ ∧ _)
    go_wp2_with fail
    with_reducible refine (iCleanUp_any C B d _ (hs.on hB1) dl.cap dl.n4).mono ?_
    rintro e w3 ⟨v3, rfl, ho3, hb3⟩
    rw [EX.out] at ho3
    obtain ⟨A3, c3, rfl, _⟩ := ho3.form
    have sz3 : w2.heap.size + 1 ≤ w3.heap.size := Nat.le_trans (by first | exact Nat.le_refl _ | (simp; done) | (simp; omega)) (hb3.size)
    have hB3 := hB1.trans (hb3.mono hB1.size)
    have xa4 := xa2.below hb3 xa2.lt
    clear hB1 xa2
    clear xa_0 xa_1 xa_2 xa_3 xa_l xa_f
    have u5 : Own w3 w2.heap.size (.slice A3 X.length c3) X := ho3.mono (by first | omega | (simp; omega) | (simp; done))
    clear ho3
    obtain ⟨xa_0, xa_1, xa_2, xa_3, xa_l, xa_f⟩ := (⟨xa4.cell 0, xa4.cell 1, xa4.cell 2, xa4.cell 3, xa4.lt, xa4.frozen⟩ : _ ∧ _ ∧ _ ∧ _ ∧ _ ∧ _)
    go_wp2_with fail
    with_reducible refine (sCleanUp_any C B d _ (hs.on hB3) dl.n4).mono ?_
    rintro e w4 ⟨v4, rfl, ho4, hb4⟩
    rw [EX.out] at ho4
    obtain ⟨A4, c4, rfl, _⟩ := ho4.form
    have sz4 : w3.heap.size ≤ w4.heap.size := Nat.le_trans (by first | exact Nat.le_refl _ | (simp; done) | (simp; omega)) (hb4.size)
    have hB6 := hB3.trans (hb4.mono hB3.size)
    have xa7 := xa4.below hb4 xa4.lt
    have u8 := u5.below hb4
    clear hB3 xa4 u5
    clear xa_0 xa_1 xa_2 xa_3 xa_l xa_f
    have v9 : Own w4 w2.heap.size (.slice A4 X.length c4) X := ho4.mono (by first | omega | (simp; omega) | (simp; done))
    clear ho4
    obtain ⟨xa_0, xa_1, xa_2, xa_3, xa_l, xa_f⟩ := (⟨xa7.cell 0, xa7.cell 1, xa7.cell 2, xa7.cell 3, xa7.lt, xa7.frozen⟩ : _ ∧ _ ∧ _ ∧ _ ∧ _ ∧ _)
    go_wp2_with fail
    with_reducible refine (equalIntsN_same A3 A4 c3 c4 X _ u8.seesN' v9.seesN' HX3.out).mono ?_
    rintro e w5 ⟨rfl, hb5⟩
    have sz5 : w4.heap.size ≤ w5.heap.size := Nat.le_trans (by first | exact Nat.le_refl _ | (simp; done) | (simp; omega)) (hb5.size)
    have hB10 := hB6.trans (hb5.mono hB6.size)
    have xa11 := xa7.below hb5 xa7.lt
    have u12 := u8.below hb5
    have v13 := v9.below hb5
    clear hB6 xa7 u8 v9
    clear xa_0 xa_1 xa_2 xa_3 xa_l xa_f
    obtain ⟨xa_0, xa_1, xa_2, xa_3, xa_l, xa_f⟩ := (⟨xa11.cell 0, xa11.cell 1, xa11.cell 2, xa11.cell 3, xa11.lt, xa11.frozen⟩ : _ ∧ _ ∧ _ ∧ _ ∧ _ ∧ _)
    go_wp2_with fail
    go_loop [5] (fun i => ∃ k : Nat, k ≤ X.length ∧ i = .int .i64 k) (fun i => X.length - (intOf i).toNat)
    case atStart => exact ⟨0, Nat.zero_le _, rfl⟩
    case round =>
      obtain ⟨k, hk, rfl⟩ := hrel
      have hx4 := HX4.out
      by_cases hkl : k < X.length
      · skip
        have hki : (k : Int) < (X.length : Int) := by omega
        obtain ⟨b, o, rfl, _, hcl⟩ := u12.seesN'.int hkl
        rw [HXA.out k hkl] at hcl
        go_wp2
        go_round
        case rel => exact ⟨k + 1, by omega, by go_num⟩
        case measure => simp [intOf]; omega
      · skip
        have hki : ¬ (k : Int) < (X.length : Int) := by omega
        go_wp2_with fail
        with_reducible refine (iCleanUp_zero _).mono ?_
        rintro e w6 ⟨v6, rfl, ho6, hb6⟩
        rw [EZ.out] at ho6
        obtain ⟨A6, c6, rfl, _⟩ := ho6.form
        clear ho6
        have sz6 : w5.heap.size ≤ w6.heap.size := Nat.le_trans (by first | exact Nat.le_refl _ | (simp; done) | (simp; omega)) (hb6.size)
        have hB14 := hB10.trans (hb6.mono hB10.size)
        have xa15 := xa11.below hb6 xa11.lt
        have u16 := u12.below hb6
        have v17 := v13.below hb6
        clear hB10 xa11 u12 v13
        clear xa_0 xa_1 xa_2 xa_3 xa_l xa_f
        have hxb : decide ((X.length : Int) ≤ 4) = true := by simp; omega
        obtain ⟨xa_0, xa_1, xa_2, xa_3, xa_l, xa_f⟩ := (⟨xa15.cell 0, xa15.cell 1, xa15.cell 2, xa15.cell 3, xa15.lt, xa15.frozen⟩ : _ ∧ _ ∧ _ ∧ _ ∧ _ ∧ _)
        go_wp2
        go_ret
        exact ⟨by first | rfl | (simp; done) | (simp; omega), HB2.out.trans (hB14.mono HB2.out.size)⟩
end Go.Proofs.Ythmpeahlddfpnab

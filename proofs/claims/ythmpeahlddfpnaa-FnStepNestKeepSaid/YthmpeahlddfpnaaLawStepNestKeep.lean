/-
  The walk of the law FnStepNestKeep: at every code it returns true and changes nothing that was there. Conditions: none.
-/
import Derived.Test.YthmpeahlddfpnaaLawNs
import Derived.Test.YthmpeahlddfpnaaLawFrame
import Derived.BigQuiet

namespace Go.Proofs.Ythmpeahlddfpnaa
open Go.RowKit Nes

set_option maxHeartbeats 4000000 in
theorem walkStepNestKeep (a : Option Addr) (len cap : Nat) (zs : List Int) (w : World) (hn : zs.length = len) (hc : len ≤ cap) (hcc : cap ≤ maxLen) (h : Sees w w.heap.size a (byts zs)) (hz : ∀ y ∈ zs, 0 ≤ y ∧ y ≤ 255) :
    Calls Try.prog 11 #[.slice a len cap] w fun e w' => e = .returned (.bool true) ∧ Below w.heap.size w w' := by
  have HE := hid hn
  have HC := hid hcc
  have HZ := hid hz
  clear hn hcc hz
  by_cases hbig : 1048576 < len
  · go_enter Try.func11, Try.ntmps11
    go_wp2
    go_ret
    exact ⟨rfl, Below.refl _ _⟩
  · go_enter Try.func11, Try.ntmps11
    go_wp2_with fail
    refine (drawStepNest_any _ _ _ _ _ h HZ.out HE.out hc (by omega) HC.out).mono ?_
    rintro e w2 ⟨B, d, C, i, rfl, dl⟩
    have hs := dl.sees
    have HB2 := hid dl.bel
    have hB0 := Below.refl w2.heap.size w2
    obtain ⟨R, hR⟩ : ∃ R, R = stepS C i := ⟨_, rfl⟩
    have ER : Hid (stepS C i = R) := hid hR.symm
    have HRl := hid (show R.m.length ≤ 4194304 by rw [hR]; exact Nat.le_trans (stepS_len C i) (by decide))
    have HR := hid hR
    clear hR
    obtain ⟨K, hK⟩ : ∃ K, K = stepB C i := ⟨_, rfl⟩
    have EK : Hid (stepB C i = K) := hid hK.symm
    have HK := hid hK
    clear hK
    have HKP := hid (fun (h : Ok C) (e : stepB C 0 = true) (f : stepB (stepC C 0) 1 = true) => keep_law h e f)
    rcases hv : nestB C with _ | _
    · skip
      have HV := hid hv
      clear hv
      have hB1 := hB0.alloc hB0.size (.cells #[.int .i64 C.d, .int .i64 C.w, .slice B C.m.length d, .bool C.b] 27)
      clear hB0
      have xa2 : At (w2.alloc (.cells #[.int .i64 C.d, .int .i64 C.w, .slice B C.m.length d, .bool C.b] 27)) (w2.heap.size) 27 #[.int .i64 C.d, .int .i64 C.w, .slice B C.m.length d, .bool C.b] := At.newAt _ _ (by first | rfl | (simp; done) | (simp; omega))
      obtain ⟨xa_0, xa_1, xa_2, xa_3, xa_l, xa_f⟩ := (⟨xa2.cell 0, xa2.cell 1, xa2.cell 2, xa2.cell 3, xa2.lt, xa2.frozen⟩ : _ ∧ _ ∧ _ ∧ _ ∧ _ ∧ _)
      go_wp2_with fail
      refine (iStepNest_any C i B d _ (hs.on hB1) dl.cap dl.n4).mono ?_
      rintro e w3 ⟨A3, c3, he, ho3, hb3⟩
      rw [ER.out, EK.out] at he
      rw [ER.out] at ho3
      subst he
      have sz3 : w2.heap.size + 1 ≤ w3.heap.size := Nat.le_trans (by first | exact Nat.le_refl _ | (simp; done) | (simp; omega)) (hb3.size)
      have hB3 := hB1.trans (hb3.mono hB1.size)
      have xa4 := xa2.below hb3 xa2.lt
      clear hB1 xa2
      clear xa_0 xa_1 xa_2 xa_3 xa_l xa_f
      have oR15 : OwnM w3 w2.heap.size A3 c3 R := OwnM.mono ho3 (by first | omega | (simp; omega) | (simp; done))
      clear ho3
      have hB6 := hB3.alloc hB3.size (.cells #[.int .i64 R.d, .int .i64 R.w, .slice A3 R.m.length c3, .bool R.b] 27)
      have xa7 := xa4.alloc (.cells #[.int .i64 R.d, .int .i64 R.w, .slice A3 R.m.length c3, .bool R.b] 27)
      have oR18 := oR15.alloc (.cells #[.int .i64 R.d, .int .i64 R.w, .slice A3 R.m.length c3, .bool R.b] 27)
      clear hB3 xa4 oR15
      have xb9 : At (w3.alloc (.cells #[.int .i64 R.d, .int .i64 R.w, .slice A3 R.m.length c3, .bool R.b] 27)) (w3.heap.size) 27 #[.int .i64 R.d, .int .i64 R.w, .slice A3 R.m.length c3, .bool R.b] := At.newAt _ _ (by first | rfl | (simp; done) | (simp; omega))
      obtain ⟨xa_0, xa_1, xa_2, xa_3, xa_l, xa_f⟩ := (⟨xa7.cell 0, xa7.cell 1, xa7.cell 2, xa7.cell 3, xa7.lt, xa7.frozen⟩ : _ ∧ _ ∧ _ ∧ _ ∧ _ ∧ _)
      obtain ⟨xb_0, xb_1, xb_2, xb_3, xb_l, xb_f⟩ := (⟨xb9.cell 0, xb9.cell 1, xb9.cell 2, xb9.cell 3, xb9.lt, xb9.frozen⟩ : _ ∧ _ ∧ _ ∧ _ ∧ _ ∧ _)
      go_wp2_with fail
      refine (sStepNest_any C i B d _ (hs.on hB6) dl.cap dl.n4).mono ?_
      rintro e w4 ⟨A4, c4, he, ho4, hb4⟩
      rw [ER.out, EK.out] at he
      rw [ER.out] at ho4
      subst he
      have sz4 : w3.heap.size + 1 ≤ w4.heap.size := Nat.le_trans (by first | exact Nat.le_refl _ | (simp; done) | (simp; omega)) (hb4.size)
      have hB10 := hB6.trans (hb4.mono hB6.size)
      have xa11 := xa7.below hb4 xa7.lt
      have oR112 := oR18.below hb4
      have xb13 := xb9.below hb4 xb9.lt
      clear hB6 xa7 oR18 xb9
      clear xa_0 xa_1 xa_2 xa_3 xa_l xa_f xb_0 xb_1 xb_2 xb_3 xb_l xb_f
      have oR214 : OwnM w4 w2.heap.size A4 c4 R := OwnM.mono ho4 (by first | omega | (simp; omega) | (simp; done))
      clear ho4
      have hB15 := hB10.alloc hB10.size (.cells #[.int .i64 R.d, .int .i64 R.w, .slice A4 R.m.length c4, .bool R.b] 27)
      have xa16 := xa11.alloc (.cells #[.int .i64 R.d, .int .i64 R.w, .slice A4 R.m.length c4, .bool R.b] 27)
      have oR117 := oR112.alloc (.cells #[.int .i64 R.d, .int .i64 R.w, .slice A4 R.m.length c4, .bool R.b] 27)
      have xb18 := xb13.alloc (.cells #[.int .i64 R.d, .int .i64 R.w, .slice A4 R.m.length c4, .bool R.b] 27)
      have oR219 := oR214.alloc (.cells #[.int .i64 R.d, .int .i64 R.w, .slice A4 R.m.length c4, .bool R.b] 27)
      clear hB10 xa11 oR112 xb13 oR214
      have xc20 : At (w4.alloc (.cells #[.int .i64 R.d, .int .i64 R.w, .slice A4 R.m.length c4, .bool R.b] 27)) (w4.heap.size) 27 #[.int .i64 R.d, .int .i64 R.w, .slice A4 R.m.length c4, .bool R.b] := At.newAt _ _ (by first | rfl | (simp; done) | (simp; omega))
      obtain ⟨xa_0, xa_1, xa_2, xa_3, xa_l, xa_f⟩ := (⟨xa16.cell 0, xa16.cell 1, xa16.cell 2, xa16.cell 3, xa16.lt, xa16.frozen⟩ : _ ∧ _ ∧ _ ∧ _ ∧ _ ∧ _)
      obtain ⟨xb_0, xb_1, xb_2, xb_3, xb_l, xb_f⟩ := (⟨xb18.cell 0, xb18.cell 1, xb18.cell 2, xb18.cell 3, xb18.lt, xb18.frozen⟩ : _ ∧ _ ∧ _ ∧ _ ∧ _ ∧ _)
      obtain ⟨xc_0, xc_1, xc_2, xc_3, xc_l, xc_f⟩ := (⟨xc20.cell 0, xc20.cell 1, xc20.cell 2, xc20.cell 3, xc20.lt, xc20.frozen⟩ : _ ∧ _ ∧ _ ∧ _ ∧ _ ∧ _)
      go_wp2_with fail
      with_reducible refine (equalNest_same A3 A4 c3 c4 R _ oR117.sees oR219.sees HRl.out).mono ?_
      rintro e w5 ⟨rfl, hb5⟩
      have sz5 : w4.heap.size + 1 ≤ w5.heap.size := Nat.le_trans (by first | exact Nat.le_refl _ | (simp; done) | (simp; omega)) (hb5.size)
      have hB21 := hB15.trans (hb5.mono hB15.size)
      have xa22 := xa16.below hb5 xa16.lt
      have oR123 := oR117.below hb5
      have xb24 := xb18.below hb5 xb18.lt
      have oR225 := oR219.below hb5
      have xc26 := xc20.below hb5 xc20.lt
      clear hB15 xa16 oR117 xb18 oR219 xc20
      clear xa_0 xa_1 xa_2 xa_3 xa_l xa_f xb_0 xb_1 xb_2 xb_3 xb_l xb_f xc_0 xc_1 xc_2 xc_3 xc_l xc_f
      obtain ⟨xa_0, xa_1, xa_2, xa_3, xa_l, xa_f⟩ := (⟨xa22.cell 0, xa22.cell 1, xa22.cell 2, xa22.cell 3, xa22.lt, xa22.frozen⟩ : _ ∧ _ ∧ _ ∧ _ ∧ _ ∧ _)
      obtain ⟨xb_0, xb_1, xb_2, xb_3, xb_l, xb_f⟩ := (⟨xb24.cell 0, xb24.cell 1, xb24.cell 2, xb24.cell 3, xb24.lt, xb24.frozen⟩ : _ ∧ _ ∧ _ ∧ _ ∧ _ ∧ _)
      obtain ⟨xc_0, xc_1, xc_2, xc_3, xc_l, xc_f⟩ := (⟨xc26.cell 0, xc26.cell 1, xc26.cell 2, xc26.cell 3, xc26.lt, xc26.frozen⟩ : _ ∧ _ ∧ _ ∧ _ ∧ _ ∧ _)
      go_wp2_with fail
      with_reducible refine (iValidNest_any C B d _ (hs.on hB21) dl.cap dl.n4).mono ?_
      rintro e w6 ⟨he, hb6⟩
      rw [HV.out] at he
      subst he
      have sz6 : w5.heap.size ≤ w6.heap.size := Nat.le_trans (by first | exact Nat.le_refl _ | (simp; done) | (simp; omega)) (hb6.size)
      have hB27 := hB21.trans (hb6.mono hB21.size)
      have xa28 := xa22.below hb6 xa22.lt
      have oR129 := oR123.below hb6
      have xb30 := xb24.below hb6 xb24.lt
      have oR231 := oR225.below hb6
      have xc32 := xc26.below hb6 xc26.lt
      clear hB21 xa22 oR123 xb24 oR225 xc26
      clear xa_0 xa_1 xa_2 xa_3 xa_l xa_f xb_0 xb_1 xb_2 xb_3 xb_l xb_f xc_0 xc_1 xc_2 xc_3 xc_l xc_f
      obtain ⟨xa_0, xa_1, xa_2, xa_3, xa_l, xa_f⟩ := (⟨xa28.cell 0, xa28.cell 1, xa28.cell 2, xa28.cell 3, xa28.lt, xa28.frozen⟩ : _ ∧ _ ∧ _ ∧ _ ∧ _ ∧ _)
      obtain ⟨xb_0, xb_1, xb_2, xb_3, xb_l, xb_f⟩ := (⟨xb30.cell 0, xb30.cell 1, xb30.cell 2, xb30.cell 3, xb30.lt, xb30.frozen⟩ : _ ∧ _ ∧ _ ∧ _ ∧ _ ∧ _)
      obtain ⟨xc_0, xc_1, xc_2, xc_3, xc_l, xc_f⟩ := (⟨xc32.cell 0, xc32.cell 1, xc32.cell 2, xc32.cell 3, xc32.lt, xc32.frozen⟩ : _ ∧ _ ∧ _ ∧ _ ∧ _ ∧ _)
      go_wp2_with fail
      with_reducible refine (equalNest_same A3 A4 c3 c4 R _ oR129.sees oR231.sees HRl.out).mono ?_
      rintro e w7 ⟨rfl, hb7⟩
      have sz7 : w6.heap.size ≤ w7.heap.size := Nat.le_trans (by first | exact Nat.le_refl _ | (simp; done) | (simp; omega)) (hb7.size)
      have hB33 := hB27.trans (hb7.mono hB27.size)
      have xa34 := xa28.below hb7 xa28.lt
      have oR135 := oR129.below hb7
      have xb36 := xb30.below hb7 xb30.lt
      have oR237 := oR231.below hb7
      have xc38 := xc32.below hb7 xc32.lt
      clear hB27 xa28 oR129 xb30 oR231 xc32
      clear xa_0 xa_1 xa_2 xa_3 xa_l xa_f xb_0 xb_1 xb_2 xb_3 xb_l xb_f xc_0 xc_1 xc_2 xc_3 xc_l xc_f
      obtain ⟨xa_0, xa_1, xa_2, xa_3, xa_l, xa_f⟩ := (⟨xa34.cell 0, xa34.cell 1, xa34.cell 2, xa34.cell 3, xa34.lt, xa34.frozen⟩ : _ ∧ _ ∧ _ ∧ _ ∧ _ ∧ _)
      obtain ⟨xb_0, xb_1, xb_2, xb_3, xb_l, xb_f⟩ := (⟨xb36.cell 0, xb36.cell 1, xb36.cell 2, xb36.cell 3, xb36.lt, xb36.frozen⟩ : _ ∧ _ ∧ _ ∧ _ ∧ _ ∧ _)
      obtain ⟨xc_0, xc_1, xc_2, xc_3, xc_l, xc_f⟩ := (⟨xc38.cell 0, xc38.cell 1, xc38.cell 2, xc38.cell 3, xc38.lt, xc38.frozen⟩ : _ ∧ _ ∧ _ ∧ _ ∧ _ ∧ _)
      go_wp2
      go_ret
      exact ⟨by first | rfl | (simp; done) | (simp; omega), HB2.out.trans (hB33.mono HB2.out.size)⟩
    · skip
      have hok := nestB_iff.1 hv
      have HV := hid hv
      clear hv
      obtain ⟨O, hO⟩ : ∃ O, O = stepS C 0 := ⟨_, rfl⟩
      have EO : Hid (stepS C 0 = O) := hid hO.symm
      have HOl := hid (show O.m.length ≤ 4194304 by rw [hO]; exact Nat.le_trans (stepS_len C 0) (by decide))
      obtain ⟨W, hW⟩ : ∃ W, W = stepS O 1 := ⟨_, rfl⟩
      have EW : Hid (stepS O 1 = W) := hid hW.symm
      have HWl := hid (show W.m.length ≤ 4194304 by rw [hW]; exact Nat.le_trans (stepS_len O 1) (by decide))
      obtain ⟨P, hP⟩ : ∃ P, P = stepS W 3 := ⟨_, rfl⟩
      have EP : Hid (stepS W 3 = P) := hid hP.symm
      have HPl := hid (show P.m.length ≤ 4194304 by rw [hP]; exact Nat.le_trans (stepS_len W 3) (by decide))
      rcases hf : stepB C 0 with _ | _
      · skip
        have EF := hid hf
        have hOz : O = zeroN := by rw [hO]; exact stepS_no hf
        have EG := hid (show stepB O 1 = false by rw [hOz]; exact work_zero)
        have EL := hid (show stepB W 3 = false from keep_zero _ (by rw [hW]; exact stepS_no EG.out))
        clear hOz hf hO hW hP hok
        have hB39 := hB0.alloc hB0.size (.cells #[.int .i64 C.d, .int .i64 C.w, .slice B C.m.length d, .bool C.b] 27)
        clear hB0
        have xa40 : At (w2.alloc (.cells #[.int .i64 C.d, .int .i64 C.w, .slice B C.m.length d, .bool C.b] 27)) (w2.heap.size) 27 #[.int .i64 C.d, .int .i64 C.w, .slice B C.m.length d, .bool C.b] := At.newAt _ _ (by first | rfl | (simp; done) | (simp; omega))
        obtain ⟨xa_0, xa_1, xa_2, xa_3, xa_l, xa_f⟩ := (⟨xa40.cell 0, xa40.cell 1, xa40.cell 2, xa40.cell 3, xa40.lt, xa40.frozen⟩ : _ ∧ _ ∧ _ ∧ _ ∧ _ ∧ _)
        go_wp2_with fail
        refine (iStepNest_any C i B d _ (hs.on hB39) dl.cap dl.n4).mono ?_
        rintro e w3 ⟨A3, c3, he, ho3, hb3⟩
        rw [ER.out, EK.out] at he
        rw [ER.out] at ho3
        subst he
        have sz3 : w2.heap.size + 1 ≤ w3.heap.size := Nat.le_trans (by first | exact Nat.le_refl _ | (simp; done) | (simp; omega)) (hb3.size)
        have hB41 := hB39.trans (hb3.mono hB39.size)
        have xa42 := xa40.below hb3 xa40.lt
        clear hB39 xa40
        clear xa_0 xa_1 xa_2 xa_3 xa_l xa_f
        have oR143 : OwnM w3 w2.heap.size A3 c3 R := OwnM.mono ho3 (by first | omega | (simp; omega) | (simp; done))
        clear ho3
        have hB44 := hB41.alloc hB41.size (.cells #[.int .i64 R.d, .int .i64 R.w, .slice A3 R.m.length c3, .bool R.b] 27)
        have xa45 := xa42.alloc (.cells #[.int .i64 R.d, .int .i64 R.w, .slice A3 R.m.length c3, .bool R.b] 27)
        have oR146 := oR143.alloc (.cells #[.int .i64 R.d, .int .i64 R.w, .slice A3 R.m.length c3, .bool R.b] 27)
        clear hB41 xa42 oR143
        have xb47 : At (w3.alloc (.cells #[.int .i64 R.d, .int .i64 R.w, .slice A3 R.m.length c3, .bool R.b] 27)) (w3.heap.size) 27 #[.int .i64 R.d, .int .i64 R.w, .slice A3 R.m.length c3, .bool R.b] := At.newAt _ _ (by first | rfl | (simp; done) | (simp; omega))
        obtain ⟨xa_0, xa_1, xa_2, xa_3, xa_l, xa_f⟩ := (⟨xa45.cell 0, xa45.cell 1, xa45.cell 2, xa45.cell 3, xa45.lt, xa45.frozen⟩ : _ ∧ _ ∧ _ ∧ _ ∧ _ ∧ _)
        obtain ⟨xb_0, xb_1, xb_2, xb_3, xb_l, xb_f⟩ := (⟨xb47.cell 0, xb47.cell 1, xb47.cell 2, xb47.cell 3, xb47.lt, xb47.frozen⟩ : _ ∧ _ ∧ _ ∧ _ ∧ _ ∧ _)
        go_wp2_with fail
        refine (sStepNest_any C i B d _ (hs.on hB44) dl.cap dl.n4).mono ?_
        rintro e w4 ⟨A4, c4, he, ho4, hb4⟩
        rw [ER.out, EK.out] at he
        rw [ER.out] at ho4
        subst he
        have sz4 : w3.heap.size + 1 ≤ w4.heap.size := Nat.le_trans (by first | exact Nat.le_refl _ | (simp; done) | (simp; omega)) (hb4.size)
        have hB48 := hB44.trans (hb4.mono hB44.size)
        have xa49 := xa45.below hb4 xa45.lt
        have oR150 := oR146.below hb4
        have xb51 := xb47.below hb4 xb47.lt
        clear hB44 xa45 oR146 xb47
        clear xa_0 xa_1 xa_2 xa_3 xa_l xa_f xb_0 xb_1 xb_2 xb_3 xb_l xb_f
        have oR252 : OwnM w4 w2.heap.size A4 c4 R := OwnM.mono ho4 (by first | omega | (simp; omega) | (simp; done))
        clear ho4
        have hB53 := hB48.alloc hB48.size (.cells #[.int .i64 R.d, .int .i64 R.w, .slice A4 R.m.length c4, .bool R.b] 27)
        have xa54 := xa49.alloc (.cells #[.int .i64 R.d, .int .i64 R.w, .slice A4 R.m.length c4, .bool R.b] 27)
        have oR155 := oR150.alloc (.cells #[.int .i64 R.d, .int .i64 R.w, .slice A4 R.m.length c4, .bool R.b] 27)
        have xb56 := xb51.alloc (.cells #[.int .i64 R.d, .int .i64 R.w, .slice A4 R.m.length c4, .bool R.b] 27)
        have oR257 := oR252.alloc (.cells #[.int .i64 R.d, .int .i64 R.w, .slice A4 R.m.length c4, .bool R.b] 27)
        clear hB48 xa49 oR150 xb51 oR252
        have xc58 : At (w4.alloc (.cells #[.int .i64 R.d, .int .i64 R.w, .slice A4 R.m.length c4, .bool R.b] 27)) (w4.heap.size) 27 #[.int .i64 R.d, .int .i64 R.w, .slice A4 R.m.length c4, .bool R.b] := At.newAt _ _ (by first | rfl | (simp; done) | (simp; omega))
        obtain ⟨xa_0, xa_1, xa_2, xa_3, xa_l, xa_f⟩ := (⟨xa54.cell 0, xa54.cell 1, xa54.cell 2, xa54.cell 3, xa54.lt, xa54.frozen⟩ : _ ∧ _ ∧ _ ∧ _ ∧ _ ∧ _)
        obtain ⟨xb_0, xb_1, xb_2, xb_3, xb_l, xb_f⟩ := (⟨xb56.cell 0, xb56.cell 1, xb56.cell 2, xb56.cell 3, xb56.lt, xb56.frozen⟩ : _ ∧ _ ∧ _ ∧ _ ∧ _ ∧ _)
        obtain ⟨xc_0, xc_1, xc_2, xc_3, xc_l, xc_f⟩ := (⟨xc58.cell 0, xc58.cell 1, xc58.cell 2, xc58.cell 3, xc58.lt, xc58.frozen⟩ : _ ∧ _ ∧ _ ∧ _ ∧ _ ∧ _)
        go_wp2_with fail
        with_reducible refine (equalNest_same A3 A4 c3 c4 R _ oR155.sees oR257.sees HRl.out).mono ?_
        rintro e w5 ⟨rfl, hb5⟩
        have sz5 : w4.heap.size + 1 ≤ w5.heap.size := Nat.le_trans (by first | exact Nat.le_refl _ | (simp; done) | (simp; omega)) (hb5.size)
        have hB59 := hB53.trans (hb5.mono hB53.size)
        have xa60 := xa54.below hb5 xa54.lt
        have oR161 := oR155.below hb5
        have xb62 := xb56.below hb5 xb56.lt
        have oR263 := oR257.below hb5
        have xc64 := xc58.below hb5 xc58.lt
        clear hB53 xa54 oR155 xb56 oR257 xc58
        clear xa_0 xa_1 xa_2 xa_3 xa_l xa_f xb_0 xb_1 xb_2 xb_3 xb_l xb_f xc_0 xc_1 xc_2 xc_3 xc_l xc_f
        obtain ⟨xa_0, xa_1, xa_2, xa_3, xa_l, xa_f⟩ := (⟨xa60.cell 0, xa60.cell 1, xa60.cell 2, xa60.cell 3, xa60.lt, xa60.frozen⟩ : _ ∧ _ ∧ _ ∧ _ ∧ _ ∧ _)
        obtain ⟨xb_0, xb_1, xb_2, xb_3, xb_l, xb_f⟩ := (⟨xb62.cell 0, xb62.cell 1, xb62.cell 2, xb62.cell 3, xb62.lt, xb62.frozen⟩ : _ ∧ _ ∧ _ ∧ _ ∧ _ ∧ _)
        obtain ⟨xc_0, xc_1, xc_2, xc_3, xc_l, xc_f⟩ := (⟨xc64.cell 0, xc64.cell 1, xc64.cell 2, xc64.cell 3, xc64.lt, xc64.frozen⟩ : _ ∧ _ ∧ _ ∧ _ ∧ _ ∧ _)
        go_wp2_with fail
        with_reducible refine (iValidNest_any C B d _ (hs.on hB59) dl.cap dl.n4).mono ?_
        rintro e w6 ⟨he, hb6⟩
        rw [HV.out] at he
        subst he
        have sz6 : w5.heap.size ≤ w6.heap.size := Nat.le_trans (by first | exact Nat.le_refl _ | (simp; done) | (simp; omega)) (hb6.size)
        have hB65 := hB59.trans (hb6.mono hB59.size)
        have xa66 := xa60.below hb6 xa60.lt
        have oR167 := oR161.below hb6
        have xb68 := xb62.below hb6 xb62.lt
        have oR269 := oR263.below hb6
        have xc70 := xc64.below hb6 xc64.lt
        clear hB59 xa60 oR161 xb62 oR263 xc64
        clear xa_0 xa_1 xa_2 xa_3 xa_l xa_f xb_0 xb_1 xb_2 xb_3 xb_l xb_f xc_0 xc_1 xc_2 xc_3 xc_l xc_f
        obtain ⟨xa_0, xa_1, xa_2, xa_3, xa_l, xa_f⟩ := (⟨xa66.cell 0, xa66.cell 1, xa66.cell 2, xa66.cell 3, xa66.lt, xa66.frozen⟩ : _ ∧ _ ∧ _ ∧ _ ∧ _ ∧ _)
        obtain ⟨xb_0, xb_1, xb_2, xb_3, xb_l, xb_f⟩ := (⟨xb68.cell 0, xb68.cell 1, xb68.cell 2, xb68.cell 3, xb68.lt, xb68.frozen⟩ : _ ∧ _ ∧ _ ∧ _ ∧ _ ∧ _)
        obtain ⟨xc_0, xc_1, xc_2, xc_3, xc_l, xc_f⟩ := (⟨xc70.cell 0, xc70.cell 1, xc70.cell 2, xc70.cell 3, xc70.lt, xc70.frozen⟩ : _ ∧ _ ∧ _ ∧ _ ∧ _ ∧ _)
        go_wp2_with fail
        refine (iStepNest_any C 0 B d _ (hs.on hB65) dl.cap dl.n4).mono ?_
        rintro e w7 ⟨A7, c7, he, ho7, hb7⟩
        rw [EO.out, EF.out] at he
        rw [EO.out] at ho7
        subst he
        have sz7 : w6.heap.size ≤ w7.heap.size := Nat.le_trans (by first | exact Nat.le_refl _ | (simp; done) | (simp; omega)) (hb7.size)
        have hB71 := hB65.trans (hb7.mono hB65.size)
        have xa72 := xa66.below hb7 xa66.lt
        have oR173 := oR167.below hb7
        have xb74 := xb68.below hb7 xb68.lt
        have oR275 := oR269.below hb7
        have xc76 := xc70.below hb7 xc70.lt
        clear hB65 xa66 oR167 xb68 oR269 xc70
        clear xa_0 xa_1 xa_2 xa_3 xa_l xa_f xb_0 xb_1 xb_2 xb_3 xb_l xb_f xc_0 xc_1 xc_2 xc_3 xc_l xc_f
        have oO177 : OwnM w7 w2.heap.size A7 c7 O := OwnM.mono ho7 (by first | omega | (simp; omega) | (simp; done))
        clear ho7
        have hB78 := hB71.alloc hB71.size (.cells #[.int .i64 O.d, .int .i64 O.w, .slice A7 O.m.length c7, .bool O.b] 27)
        have xa79 := xa72.alloc (.cells #[.int .i64 O.d, .int .i64 O.w, .slice A7 O.m.length c7, .bool O.b] 27)
        have oR180 := oR173.alloc (.cells #[.int .i64 O.d, .int .i64 O.w, .slice A7 O.m.length c7, .bool O.b] 27)
        have xb81 := xb74.alloc (.cells #[.int .i64 O.d, .int .i64 O.w, .slice A7 O.m.length c7, .bool O.b] 27)
        have oR282 := oR275.alloc (.cells #[.int .i64 O.d, .int .i64 O.w, .slice A7 O.m.length c7, .bool O.b] 27)
        have xc83 := xc76.alloc (.cells #[.int .i64 O.d, .int .i64 O.w, .slice A7 O.m.length c7, .bool O.b] 27)
        have oO184 := oO177.alloc (.cells #[.int .i64 O.d, .int .i64 O.w, .slice A7 O.m.length c7, .bool O.b] 27)
        clear hB71 xa72 oR173 xb74 oR275 xc76 oO177
        have xe85 : At (w7.alloc (.cells #[.int .i64 O.d, .int .i64 O.w, .slice A7 O.m.length c7, .bool O.b] 27)) (w7.heap.size) 27 #[.int .i64 O.d, .int .i64 O.w, .slice A7 O.m.length c7, .bool O.b] := At.newAt _ _ (by first | rfl | (simp; done) | (simp; omega))
        obtain ⟨xa_0, xa_1, xa_2, xa_3, xa_l, xa_f⟩ := (⟨xa79.cell 0, xa79.cell 1, xa79.cell 2, xa79.cell 3, xa79.lt, xa79.frozen⟩ : _ ∧ _ ∧ _ ∧ _ ∧ _ ∧ _)
        obtain ⟨xb_0, xb_1, xb_2, xb_3, xb_l, xb_f⟩ := (⟨xb81.cell 0, xb81.cell 1, xb81.cell 2, xb81.cell 3, xb81.lt, xb81.frozen⟩ : _ ∧ _ ∧ _ ∧ _ ∧ _ ∧ _)
        obtain ⟨xc_0, xc_1, xc_2, xc_3, xc_l, xc_f⟩ := (⟨xc83.cell 0, xc83.cell 1, xc83.cell 2, xc83.cell 3, xc83.lt, xc83.frozen⟩ : _ ∧ _ ∧ _ ∧ _ ∧ _ ∧ _)
        obtain ⟨xe_0, xe_1, xe_2, xe_3, xe_l, xe_f⟩ := (⟨xe85.cell 0, xe85.cell 1, xe85.cell 2, xe85.cell 3, xe85.lt, xe85.frozen⟩ : _ ∧ _ ∧ _ ∧ _ ∧ _ ∧ _)
        go_wp2_with fail
        refine (iStepNest_any O 1 A7 c7 _ oO184.sees oO184.cap HOl.out).mono ?_
        rintro e w8 ⟨A8, c8, he, ho8, hb8⟩
        rw [EW.out, EG.out] at he
        rw [EW.out] at ho8
        subst he
        have sz8 : w7.heap.size + 1 ≤ w8.heap.size := Nat.le_trans (by first | exact Nat.le_refl _ | (simp; done) | (simp; omega)) (hb8.size)
        have hB86 := hB78.trans (hb8.mono hB78.size)
        have xa87 := xa79.below hb8 xa79.lt
        have oR188 := oR180.below hb8
        have xb89 := xb81.below hb8 xb81.lt
        have oR290 := oR282.below hb8
        have xc91 := xc83.below hb8 xc83.lt
        have oO192 := oO184.below hb8
        have xe93 := xe85.below hb8 xe85.lt
        clear hB78 xa79 oR180 xb81 oR282 xc83 oO184 xe85
        clear xa_0 xa_1 xa_2 xa_3 xa_l xa_f xb_0 xb_1 xb_2 xb_3 xb_l xb_f xc_0 xc_1 xc_2 xc_3 xc_l xc_f xe_0 xe_1 xe_2 xe_3 xe_l xe_f
        have oW194 : OwnM w8 w2.heap.size A8 c8 W := OwnM.mono ho8 (by first | omega | (simp; omega) | (simp; done))
        clear ho8
        have hB95 := hB86.alloc hB86.size (.cells #[.int .i64 W.d, .int .i64 W.w, .slice A8 W.m.length c8, .bool W.b] 27)
        have xa96 := xa87.alloc (.cells #[.int .i64 W.d, .int .i64 W.w, .slice A8 W.m.length c8, .bool W.b] 27)
        have oR197 := oR188.alloc (.cells #[.int .i64 W.d, .int .i64 W.w, .slice A8 W.m.length c8, .bool W.b] 27)
        have xb98 := xb89.alloc (.cells #[.int .i64 W.d, .int .i64 W.w, .slice A8 W.m.length c8, .bool W.b] 27)
        have oR299 := oR290.alloc (.cells #[.int .i64 W.d, .int .i64 W.w, .slice A8 W.m.length c8, .bool W.b] 27)
        have xc100 := xc91.alloc (.cells #[.int .i64 W.d, .int .i64 W.w, .slice A8 W.m.length c8, .bool W.b] 27)
        have oO1101 := oO192.alloc (.cells #[.int .i64 W.d, .int .i64 W.w, .slice A8 W.m.length c8, .bool W.b] 27)
        have xe102 := xe93.alloc (.cells #[.int .i64 W.d, .int .i64 W.w, .slice A8 W.m.length c8, .bool W.b] 27)
        have oW1103 := oW194.alloc (.cells #[.int .i64 W.d, .int .i64 W.w, .slice A8 W.m.length c8, .bool W.b] 27)
        clear hB86 xa87 oR188 xb89 oR290 xc91 oO192 xe93 oW194
        have xf104 : At (w8.alloc (.cells #[.int .i64 W.d, .int .i64 W.w, .slice A8 W.m.length c8, .bool W.b] 27)) (w8.heap.size) 27 #[.int .i64 W.d, .int .i64 W.w, .slice A8 W.m.length c8, .bool W.b] := At.newAt _ _ (by first | rfl | (simp; done) | (simp; omega))
        obtain ⟨xa_0, xa_1, xa_2, xa_3, xa_l, xa_f⟩ := (⟨xa96.cell 0, xa96.cell 1, xa96.cell 2, xa96.cell 3, xa96.lt, xa96.frozen⟩ : _ ∧ _ ∧ _ ∧ _ ∧ _ ∧ _)
        obtain ⟨xb_0, xb_1, xb_2, xb_3, xb_l, xb_f⟩ := (⟨xb98.cell 0, xb98.cell 1, xb98.cell 2, xb98.cell 3, xb98.lt, xb98.frozen⟩ : _ ∧ _ ∧ _ ∧ _ ∧ _ ∧ _)
        obtain ⟨xc_0, xc_1, xc_2, xc_3, xc_l, xc_f⟩ := (⟨xc100.cell 0, xc100.cell 1, xc100.cell 2, xc100.cell 3, xc100.lt, xc100.frozen⟩ : _ ∧ _ ∧ _ ∧ _ ∧ _ ∧ _)
        obtain ⟨xe_0, xe_1, xe_2, xe_3, xe_l, xe_f⟩ := (⟨xe102.cell 0, xe102.cell 1, xe102.cell 2, xe102.cell 3, xe102.lt, xe102.frozen⟩ : _ ∧ _ ∧ _ ∧ _ ∧ _ ∧ _)
        obtain ⟨xf_0, xf_1, xf_2, xf_3, xf_l, xf_f⟩ := (⟨xf104.cell 0, xf104.cell 1, xf104.cell 2, xf104.cell 3, xf104.lt, xf104.frozen⟩ : _ ∧ _ ∧ _ ∧ _ ∧ _ ∧ _)
        go_wp2_with fail
        refine (iStepNest_any W 3 A8 c8 _ oW1103.sees oW1103.cap HWl.out).mono ?_
        rintro e w9 ⟨A9, c9, he, ho9, hb9⟩
        rw [EP.out, EL.out] at he
        rw [EP.out] at ho9
        subst he
        have sz9 : w8.heap.size + 1 ≤ w9.heap.size := Nat.le_trans (by first | exact Nat.le_refl _ | (simp; done) | (simp; omega)) (hb9.size)
        have hB105 := hB95.trans (hb9.mono hB95.size)
        have xa106 := xa96.below hb9 xa96.lt
        have oR1107 := oR197.below hb9
        have xb108 := xb98.below hb9 xb98.lt
        have oR2109 := oR299.below hb9
        have xc110 := xc100.below hb9 xc100.lt
        have oO1111 := oO1101.below hb9
        have xe112 := xe102.below hb9 xe102.lt
        have oW1113 := oW1103.below hb9
        have xf114 := xf104.below hb9 xf104.lt
        clear hB95 xa96 oR197 xb98 oR299 xc100 oO1101 xe102 oW1103 xf104
        clear xa_0 xa_1 xa_2 xa_3 xa_l xa_f xb_0 xb_1 xb_2 xb_3 xb_l xb_f xc_0 xc_1 xc_2 xc_3 xc_l xc_f xe_0 xe_1 xe_2 xe_3 xe_l xe_f xf_0 xf_1 xf_2 xf_3 xf_l xf_f
        have oP1115 : OwnM w9 w2.heap.size A9 c9 P := OwnM.mono ho9 (by first | omega | (simp; omega) | (simp; done))
        clear ho9
        have hB116 := hB105.alloc hB105.size (.cells #[.int .i64 P.d, .int .i64 P.w, .slice A9 P.m.length c9, .bool P.b] 27)
        have xa117 := xa106.alloc (.cells #[.int .i64 P.d, .int .i64 P.w, .slice A9 P.m.length c9, .bool P.b] 27)
        have oR1118 := oR1107.alloc (.cells #[.int .i64 P.d, .int .i64 P.w, .slice A9 P.m.length c9, .bool P.b] 27)
        have xb119 := xb108.alloc (.cells #[.int .i64 P.d, .int .i64 P.w, .slice A9 P.m.length c9, .bool P.b] 27)
        have oR2120 := oR2109.alloc (.cells #[.int .i64 P.d, .int .i64 P.w, .slice A9 P.m.length c9, .bool P.b] 27)
        have xc121 := xc110.alloc (.cells #[.int .i64 P.d, .int .i64 P.w, .slice A9 P.m.length c9, .bool P.b] 27)
        have oO1122 := oO1111.alloc (.cells #[.int .i64 P.d, .int .i64 P.w, .slice A9 P.m.length c9, .bool P.b] 27)
        have xe123 := xe112.alloc (.cells #[.int .i64 P.d, .int .i64 P.w, .slice A9 P.m.length c9, .bool P.b] 27)
        have oW1124 := oW1113.alloc (.cells #[.int .i64 P.d, .int .i64 P.w, .slice A9 P.m.length c9, .bool P.b] 27)
        have xf125 := xf114.alloc (.cells #[.int .i64 P.d, .int .i64 P.w, .slice A9 P.m.length c9, .bool P.b] 27)
        have oP1126 := oP1115.alloc (.cells #[.int .i64 P.d, .int .i64 P.w, .slice A9 P.m.length c9, .bool P.b] 27)
        clear hB105 xa106 oR1107 xb108 oR2109 xc110 oO1111 xe112 oW1113 xf114 oP1115
        have xg127 : At (w9.alloc (.cells #[.int .i64 P.d, .int .i64 P.w, .slice A9 P.m.length c9, .bool P.b] 27)) (w9.heap.size) 27 #[.int .i64 P.d, .int .i64 P.w, .slice A9 P.m.length c9, .bool P.b] := At.newAt _ _ (by first | rfl | (simp; done) | (simp; omega))
        obtain ⟨xa_0, xa_1, xa_2, xa_3, xa_l, xa_f⟩ := (⟨xa117.cell 0, xa117.cell 1, xa117.cell 2, xa117.cell 3, xa117.lt, xa117.frozen⟩ : _ ∧ _ ∧ _ ∧ _ ∧ _ ∧ _)
        obtain ⟨xb_0, xb_1, xb_2, xb_3, xb_l, xb_f⟩ := (⟨xb119.cell 0, xb119.cell 1, xb119.cell 2, xb119.cell 3, xb119.lt, xb119.frozen⟩ : _ ∧ _ ∧ _ ∧ _ ∧ _ ∧ _)
        obtain ⟨xc_0, xc_1, xc_2, xc_3, xc_l, xc_f⟩ := (⟨xc121.cell 0, xc121.cell 1, xc121.cell 2, xc121.cell 3, xc121.lt, xc121.frozen⟩ : _ ∧ _ ∧ _ ∧ _ ∧ _ ∧ _)
        obtain ⟨xe_0, xe_1, xe_2, xe_3, xe_l, xe_f⟩ := (⟨xe123.cell 0, xe123.cell 1, xe123.cell 2, xe123.cell 3, xe123.lt, xe123.frozen⟩ : _ ∧ _ ∧ _ ∧ _ ∧ _ ∧ _)
        obtain ⟨xf_0, xf_1, xf_2, xf_3, xf_l, xf_f⟩ := (⟨xf125.cell 0, xf125.cell 1, xf125.cell 2, xf125.cell 3, xf125.lt, xf125.frozen⟩ : _ ∧ _ ∧ _ ∧ _ ∧ _ ∧ _)
        obtain ⟨xg_0, xg_1, xg_2, xg_3, xg_l, xg_f⟩ := (⟨xg127.cell 0, xg127.cell 1, xg127.cell 2, xg127.cell 3, xg127.lt, xg127.frozen⟩ : _ ∧ _ ∧ _ ∧ _ ∧ _ ∧ _)
        go_wp2
        go_ret
        exact ⟨by first | rfl | (simp; done) | (simp; omega), HB2.out.trans (hB116.mono HB2.out.size)⟩
      · skip
        have EF := hid hf
        rcases hg1 : stepB O 1 with _ | _
        · skip
          have EG := hid hg1
          have EL := hid (show stepB W 3 = false from keep_zero _ (by rw [hW]; exact stepS_no EG.out))
          clear hg1 hf hO hW hP hok
          have hB128 := hB0.alloc hB0.size (.cells #[.int .i64 C.d, .int .i64 C.w, .slice B C.m.length d, .bool C.b] 27)
          clear hB0
          have xa129 : At (w2.alloc (.cells #[.int .i64 C.d, .int .i64 C.w, .slice B C.m.length d, .bool C.b] 27)) (w2.heap.size) 27 #[.int .i64 C.d, .int .i64 C.w, .slice B C.m.length d, .bool C.b] := At.newAt _ _ (by first | rfl | (simp; done) | (simp; omega))
          obtain ⟨xa_0, xa_1, xa_2, xa_3, xa_l, xa_f⟩ := (⟨xa129.cell 0, xa129.cell 1, xa129.cell 2, xa129.cell 3, xa129.lt, xa129.frozen⟩ : _ ∧ _ ∧ _ ∧ _ ∧ _ ∧ _)
          go_wp2_with fail
          refine (iStepNest_any C i B d _ (hs.on hB128) dl.cap dl.n4).mono ?_
          rintro e w3 ⟨A3, c3, he, ho3, hb3⟩
          rw [ER.out, EK.out] at he
          rw [ER.out] at ho3
          subst he
          have sz3 : w2.heap.size + 1 ≤ w3.heap.size := Nat.le_trans (by first | exact Nat.le_refl _ | (simp; done) | (simp; omega)) (hb3.size)
          have hB130 := hB128.trans (hb3.mono hB128.size)
          have xa131 := xa129.below hb3 xa129.lt
          clear hB128 xa129
          clear xa_0 xa_1 xa_2 xa_3 xa_l xa_f
          have oR1132 : OwnM w3 w2.heap.size A3 c3 R := OwnM.mono ho3 (by first | omega | (simp; omega) | (simp; done))
          clear ho3
          have hB133 := hB130.alloc hB130.size (.cells #[.int .i64 R.d, .int .i64 R.w, .slice A3 R.m.length c3, .bool R.b] 27)
          have xa134 := xa131.alloc (.cells #[.int .i64 R.d, .int .i64 R.w, .slice A3 R.m.length c3, .bool R.b] 27)
          have oR1135 := oR1132.alloc (.cells #[.int .i64 R.d, .int .i64 R.w, .slice A3 R.m.length c3, .bool R.b] 27)
          clear hB130 xa131 oR1132
          have xb136 : At (w3.alloc (.cells #[.int .i64 R.d, .int .i64 R.w, .slice A3 R.m.length c3, .bool R.b] 27)) (w3.heap.size) 27 #[.int .i64 R.d, .int .i64 R.w, .slice A3 R.m.length c3, .bool R.b] := At.newAt _ _ (by first | rfl | (simp; done) | (simp; omega))
          obtain ⟨xa_0, xa_1, xa_2, xa_3, xa_l, xa_f⟩ := (⟨xa134.cell 0, xa134.cell 1, xa134.cell 2, xa134.cell 3, xa134.lt, xa134.frozen⟩ : _ ∧ _ ∧ _ ∧ _ ∧ _ ∧ _)
          obtain ⟨xb_0, xb_1, xb_2, xb_3, xb_l, xb_f⟩ := (⟨xb136.cell 0, xb136.cell 1, xb136.cell 2, xb136.cell 3, xb136.lt, xb136.frozen⟩ : _ ∧ _ ∧ _ ∧ _ ∧ _ ∧ _)
          go_wp2_with fail
          refine (sStepNest_any C i B d _ (hs.on hB133) dl.cap dl.n4).mono ?_
          rintro e w4 ⟨A4, c4, he, ho4, hb4⟩
          rw [ER.out, EK.out] at he
          rw [ER.out] at ho4
          subst he
          have sz4 : w3.heap.size + 1 ≤ w4.heap.size := Nat.le_trans (by first | exact Nat.le_refl _ | (simp; done) | (simp; omega)) (hb4.size)
          have hB137 := hB133.trans (hb4.mono hB133.size)
          have xa138 := xa134.below hb4 xa134.lt
          have oR1139 := oR1135.below hb4
          have xb140 := xb136.below hb4 xb136.lt
          clear hB133 xa134 oR1135 xb136
          clear xa_0 xa_1 xa_2 xa_3 xa_l xa_f xb_0 xb_1 xb_2 xb_3 xb_l xb_f
          have oR2141 : OwnM w4 w2.heap.size A4 c4 R := OwnM.mono ho4 (by first | omega | (simp; omega) | (simp; done))
          clear ho4
          have hB142 := hB137.alloc hB137.size (.cells #[.int .i64 R.d, .int .i64 R.w, .slice A4 R.m.length c4, .bool R.b] 27)
          have xa143 := xa138.alloc (.cells #[.int .i64 R.d, .int .i64 R.w, .slice A4 R.m.length c4, .bool R.b] 27)
          have oR1144 := oR1139.alloc (.cells #[.int .i64 R.d, .int .i64 R.w, .slice A4 R.m.length c4, .bool R.b] 27)
          have xb145 := xb140.alloc (.cells #[.int .i64 R.d, .int .i64 R.w, .slice A4 R.m.length c4, .bool R.b] 27)
          have oR2146 := oR2141.alloc (.cells #[.int .i64 R.d, .int .i64 R.w, .slice A4 R.m.length c4, .bool R.b] 27)
          clear hB137 xa138 oR1139 xb140 oR2141
          have xc147 : At (w4.alloc (.cells #[.int .i64 R.d, .int .i64 R.w, .slice A4 R.m.length c4, .bool R.b] 27)) (w4.heap.size) 27 #[.int .i64 R.d, .int .i64 R.w, .slice A4 R.m.length c4, .bool R.b] := At.newAt _ _ (by first | rfl | (simp; done) | (simp; omega))
          obtain ⟨xa_0, xa_1, xa_2, xa_3, xa_l, xa_f⟩ := (⟨xa143.cell 0, xa143.cell 1, xa143.cell 2, xa143.cell 3, xa143.lt, xa143.frozen⟩ : _ ∧ _ ∧ _ ∧ _ ∧ _ ∧ _)
          obtain ⟨xb_0, xb_1, xb_2, xb_3, xb_l, xb_f⟩ := (⟨xb145.cell 0, xb145.cell 1, xb145.cell 2, xb145.cell 3, xb145.lt, xb145.frozen⟩ : _ ∧ _ ∧ _ ∧ _ ∧ _ ∧ _)
          obtain ⟨xc_0, xc_1, xc_2, xc_3, xc_l, xc_f⟩ := (⟨xc147.cell 0, xc147.cell 1, xc147.cell 2, xc147.cell 3, xc147.lt, xc147.frozen⟩ : _ ∧ _ ∧ _ ∧ _ ∧ _ ∧ _)
          go_wp2_with fail
          with_reducible refine (equalNest_same A3 A4 c3 c4 R _ oR1144.sees oR2146.sees HRl.out).mono ?_
          rintro e w5 ⟨rfl, hb5⟩
          have sz5 : w4.heap.size + 1 ≤ w5.heap.size := Nat.le_trans (by first | exact Nat.le_refl _ | (simp; done) | (simp; omega)) (hb5.size)
          have hB148 := hB142.trans (hb5.mono hB142.size)
          have xa149 := xa143.below hb5 xa143.lt
          have oR1150 := oR1144.below hb5
          have xb151 := xb145.below hb5 xb145.lt
          have oR2152 := oR2146.below hb5
          have xc153 := xc147.below hb5 xc147.lt
          clear hB142 xa143 oR1144 xb145 oR2146 xc147
          clear xa_0 xa_1 xa_2 xa_3 xa_l xa_f xb_0 xb_1 xb_2 xb_3 xb_l xb_f xc_0 xc_1 xc_2 xc_3 xc_l xc_f
          obtain ⟨xa_0, xa_1, xa_2, xa_3, xa_l, xa_f⟩ := (⟨xa149.cell 0, xa149.cell 1, xa149.cell 2, xa149.cell 3, xa149.lt, xa149.frozen⟩ : _ ∧ _ ∧ _ ∧ _ ∧ _ ∧ _)
          obtain ⟨xb_0, xb_1, xb_2, xb_3, xb_l, xb_f⟩ := (⟨xb151.cell 0, xb151.cell 1, xb151.cell 2, xb151.cell 3, xb151.lt, xb151.frozen⟩ : _ ∧ _ ∧ _ ∧ _ ∧ _ ∧ _)
          obtain ⟨xc_0, xc_1, xc_2, xc_3, xc_l, xc_f⟩ := (⟨xc153.cell 0, xc153.cell 1, xc153.cell 2, xc153.cell 3, xc153.lt, xc153.frozen⟩ : _ ∧ _ ∧ _ ∧ _ ∧ _ ∧ _)
          go_wp2_with fail
          with_reducible refine (iValidNest_any C B d _ (hs.on hB148) dl.cap dl.n4).mono ?_
          rintro e w6 ⟨he, hb6⟩
          rw [HV.out] at he
          subst he
          have sz6 : w5.heap.size ≤ w6.heap.size := Nat.le_trans (by first | exact Nat.le_refl _ | (simp; done) | (simp; omega)) (hb6.size)
          have hB154 := hB148.trans (hb6.mono hB148.size)
          have xa155 := xa149.below hb6 xa149.lt
          have oR1156 := oR1150.below hb6
          have xb157 := xb151.below hb6 xb151.lt
          have oR2158 := oR2152.below hb6
          have xc159 := xc153.below hb6 xc153.lt
          clear hB148 xa149 oR1150 xb151 oR2152 xc153
          clear xa_0 xa_1 xa_2 xa_3 xa_l xa_f xb_0 xb_1 xb_2 xb_3 xb_l xb_f xc_0 xc_1 xc_2 xc_3 xc_l xc_f
          obtain ⟨xa_0, xa_1, xa_2, xa_3, xa_l, xa_f⟩ := (⟨xa155.cell 0, xa155.cell 1, xa155.cell 2, xa155.cell 3, xa155.lt, xa155.frozen⟩ : _ ∧ _ ∧ _ ∧ _ ∧ _ ∧ _)
          obtain ⟨xb_0, xb_1, xb_2, xb_3, xb_l, xb_f⟩ := (⟨xb157.cell 0, xb157.cell 1, xb157.cell 2, xb157.cell 3, xb157.lt, xb157.frozen⟩ : _ ∧ _ ∧ _ ∧ _ ∧ _ ∧ _)
          obtain ⟨xc_0, xc_1, xc_2, xc_3, xc_l, xc_f⟩ := (⟨xc159.cell 0, xc159.cell 1, xc159.cell 2, xc159.cell 3, xc159.lt, xc159.frozen⟩ : _ ∧ _ ∧ _ ∧ _ ∧ _ ∧ _)
          go_wp2_with fail
          refine (iStepNest_any C 0 B d _ (hs.on hB154) dl.cap dl.n4).mono ?_
          rintro e w7 ⟨A7, c7, he, ho7, hb7⟩
          rw [EO.out, EF.out] at he
          rw [EO.out] at ho7
          subst he
          have sz7 : w6.heap.size ≤ w7.heap.size := Nat.le_trans (by first | exact Nat.le_refl _ | (simp; done) | (simp; omega)) (hb7.size)
          have hB160 := hB154.trans (hb7.mono hB154.size)
          have xa161 := xa155.below hb7 xa155.lt
          have oR1162 := oR1156.below hb7
          have xb163 := xb157.below hb7 xb157.lt
          have oR2164 := oR2158.below hb7
          have xc165 := xc159.below hb7 xc159.lt
          clear hB154 xa155 oR1156 xb157 oR2158 xc159
          clear xa_0 xa_1 xa_2 xa_3 xa_l xa_f xb_0 xb_1 xb_2 xb_3 xb_l xb_f xc_0 xc_1 xc_2 xc_3 xc_l xc_f
          have oO1166 : OwnM w7 w2.heap.size A7 c7 O := OwnM.mono ho7 (by first | omega | (simp; omega) | (simp; done))
          clear ho7
          have hB167 := hB160.alloc hB160.size (.cells #[.int .i64 O.d, .int .i64 O.w, .slice A7 O.m.length c7, .bool O.b] 27)
          have xa168 := xa161.alloc (.cells #[.int .i64 O.d, .int .i64 O.w, .slice A7 O.m.length c7, .bool O.b] 27)
          have oR1169 := oR1162.alloc (.cells #[.int .i64 O.d, .int .i64 O.w, .slice A7 O.m.length c7, .bool O.b] 27)
          have xb170 := xb163.alloc (.cells #[.int .i64 O.d, .int .i64 O.w, .slice A7 O.m.length c7, .bool O.b] 27)
          have oR2171 := oR2164.alloc (.cells #[.int .i64 O.d, .int .i64 O.w, .slice A7 O.m.length c7, .bool O.b] 27)
          have xc172 := xc165.alloc (.cells #[.int .i64 O.d, .int .i64 O.w, .slice A7 O.m.length c7, .bool O.b] 27)
          have oO1173 := oO1166.alloc (.cells #[.int .i64 O.d, .int .i64 O.w, .slice A7 O.m.length c7, .bool O.b] 27)
          clear hB160 xa161 oR1162 xb163 oR2164 xc165 oO1166
          have xe174 : At (w7.alloc (.cells #[.int .i64 O.d, .int .i64 O.w, .slice A7 O.m.length c7, .bool O.b] 27)) (w7.heap.size) 27 #[.int .i64 O.d, .int .i64 O.w, .slice A7 O.m.length c7, .bool O.b] := At.newAt _ _ (by first | rfl | (simp; done) | (simp; omega))
          obtain ⟨xa_0, xa_1, xa_2, xa_3, xa_l, xa_f⟩ := (⟨xa168.cell 0, xa168.cell 1, xa168.cell 2, xa168.cell 3, xa168.lt, xa168.frozen⟩ : _ ∧ _ ∧ _ ∧ _ ∧ _ ∧ _)
          obtain ⟨xb_0, xb_1, xb_2, xb_3, xb_l, xb_f⟩ := (⟨xb170.cell 0, xb170.cell 1, xb170.cell 2, xb170.cell 3, xb170.lt, xb170.frozen⟩ : _ ∧ _ ∧ _ ∧ _ ∧ _ ∧ _)
          obtain ⟨xc_0, xc_1, xc_2, xc_3, xc_l, xc_f⟩ := (⟨xc172.cell 0, xc172.cell 1, xc172.cell 2, xc172.cell 3, xc172.lt, xc172.frozen⟩ : _ ∧ _ ∧ _ ∧ _ ∧ _ ∧ _)
          obtain ⟨xe_0, xe_1, xe_2, xe_3, xe_l, xe_f⟩ := (⟨xe174.cell 0, xe174.cell 1, xe174.cell 2, xe174.cell 3, xe174.lt, xe174.frozen⟩ : _ ∧ _ ∧ _ ∧ _ ∧ _ ∧ _)
          go_wp2_with fail
          refine (iStepNest_any O 1 A7 c7 _ oO1173.sees oO1173.cap HOl.out).mono ?_
          rintro e w8 ⟨A8, c8, he, ho8, hb8⟩
          rw [EW.out, EG.out] at he
          rw [EW.out] at ho8
          subst he
          have sz8 : w7.heap.size + 1 ≤ w8.heap.size := Nat.le_trans (by first | exact Nat.le_refl _ | (simp; done) | (simp; omega)) (hb8.size)
          have hB175 := hB167.trans (hb8.mono hB167.size)
          have xa176 := xa168.below hb8 xa168.lt
          have oR1177 := oR1169.below hb8
          have xb178 := xb170.below hb8 xb170.lt
          have oR2179 := oR2171.below hb8
          have xc180 := xc172.below hb8 xc172.lt
          have oO1181 := oO1173.below hb8
          have xe182 := xe174.below hb8 xe174.lt
          clear hB167 xa168 oR1169 xb170 oR2171 xc172 oO1173 xe174
          clear xa_0 xa_1 xa_2 xa_3 xa_l xa_f xb_0 xb_1 xb_2 xb_3 xb_l xb_f xc_0 xc_1 xc_2 xc_3 xc_l xc_f xe_0 xe_1 xe_2 xe_3 xe_l xe_f
          have oW1183 : OwnM w8 w2.heap.size A8 c8 W := OwnM.mono ho8 (by first | omega | (simp; omega) | (simp; done))
          clear ho8
          have hB184 := hB175.alloc hB175.size (.cells #[.int .i64 W.d, .int .i64 W.w, .slice A8 W.m.length c8, .bool W.b] 27)
          have xa185 := xa176.alloc (.cells #[.int .i64 W.d, .int .i64 W.w, .slice A8 W.m.length c8, .bool W.b] 27)
          have oR1186 := oR1177.alloc (.cells #[.int .i64 W.d, .int .i64 W.w, .slice A8 W.m.length c8, .bool W.b] 27)
          have xb187 := xb178.alloc (.cells #[.int .i64 W.d, .int .i64 W.w, .slice A8 W.m.length c8, .bool W.b] 27)
          have oR2188 := oR2179.alloc (.cells #[.int .i64 W.d, .int .i64 W.w, .slice A8 W.m.length c8, .bool W.b] 27)
          have xc189 := xc180.alloc (.cells #[.int .i64 W.d, .int .i64 W.w, .slice A8 W.m.length c8, .bool W.b] 27)
          have oO1190 := oO1181.alloc (.cells #[.int .i64 W.d, .int .i64 W.w, .slice A8 W.m.length c8, .bool W.b] 27)
          have xe191 := xe182.alloc (.cells #[.int .i64 W.d, .int .i64 W.w, .slice A8 W.m.length c8, .bool W.b] 27)
          have oW1192 := oW1183.alloc (.cells #[.int .i64 W.d, .int .i64 W.w, .slice A8 W.m.length c8, .bool W.b] 27)
          clear hB175 xa176 oR1177 xb178 oR2179 xc180 oO1181 xe182 oW1183
          have xf193 : At (w8.alloc (.cells #[.int .i64 W.d, .int .i64 W.w, .slice A8 W.m.length c8, .bool W.b] 27)) (w8.heap.size) 27 #[.int .i64 W.d, .int .i64 W.w, .slice A8 W.m.length c8, .bool W.b] := At.newAt _ _ (by first | rfl | (simp; done) | (simp; omega))
          obtain ⟨xa_0, xa_1, xa_2, xa_3, xa_l, xa_f⟩ := (⟨xa185.cell 0, xa185.cell 1, xa185.cell 2, xa185.cell 3, xa185.lt, xa185.frozen⟩ : _ ∧ _ ∧ _ ∧ _ ∧ _ ∧ _)
          obtain ⟨xb_0, xb_1, xb_2, xb_3, xb_l, xb_f⟩ := (⟨xb187.cell 0, xb187.cell 1, xb187.cell 2, xb187.cell 3, xb187.lt, xb187.frozen⟩ : _ ∧ _ ∧ _ ∧ _ ∧ _ ∧ _)
          obtain ⟨xc_0, xc_1, xc_2, xc_3, xc_l, xc_f⟩ := (⟨xc189.cell 0, xc189.cell 1, xc189.cell 2, xc189.cell 3, xc189.lt, xc189.frozen⟩ : _ ∧ _ ∧ _ ∧ _ ∧ _ ∧ _)
          obtain ⟨xe_0, xe_1, xe_2, xe_3, xe_l, xe_f⟩ := (⟨xe191.cell 0, xe191.cell 1, xe191.cell 2, xe191.cell 3, xe191.lt, xe191.frozen⟩ : _ ∧ _ ∧ _ ∧ _ ∧ _ ∧ _)
          obtain ⟨xf_0, xf_1, xf_2, xf_3, xf_l, xf_f⟩ := (⟨xf193.cell 0, xf193.cell 1, xf193.cell 2, xf193.cell 3, xf193.lt, xf193.frozen⟩ : _ ∧ _ ∧ _ ∧ _ ∧ _ ∧ _)
          go_wp2_with fail
          refine (iStepNest_any W 3 A8 c8 _ oW1192.sees oW1192.cap HWl.out).mono ?_
          rintro e w9 ⟨A9, c9, he, ho9, hb9⟩
          rw [EP.out, EL.out] at he
          rw [EP.out] at ho9
          subst he
          have sz9 : w8.heap.size + 1 ≤ w9.heap.size := Nat.le_trans (by first | exact Nat.le_refl _ | (simp; done) | (simp; omega)) (hb9.size)
          have hB194 := hB184.trans (hb9.mono hB184.size)
          have xa195 := xa185.below hb9 xa185.lt
          have oR1196 := oR1186.below hb9
          have xb197 := xb187.below hb9 xb187.lt
          have oR2198 := oR2188.below hb9
          have xc199 := xc189.below hb9 xc189.lt
          have oO1200 := oO1190.below hb9
          have xe201 := xe191.below hb9 xe191.lt
          have oW1202 := oW1192.below hb9
          have xf203 := xf193.below hb9 xf193.lt
          clear hB184 xa185 oR1186 xb187 oR2188 xc189 oO1190 xe191 oW1192 xf193
          clear xa_0 xa_1 xa_2 xa_3 xa_l xa_f xb_0 xb_1 xb_2 xb_3 xb_l xb_f xc_0 xc_1 xc_2 xc_3 xc_l xc_f xe_0 xe_1 xe_2 xe_3 xe_l xe_f xf_0 xf_1 xf_2 xf_3 xf_l xf_f
          have oP1204 : OwnM w9 w2.heap.size A9 c9 P := OwnM.mono ho9 (by first | omega | (simp; omega) | (simp; done))
          clear ho9
          have hB205 := hB194.alloc hB194.size (.cells #[.int .i64 P.d, .int .i64 P.w, .slice A9 P.m.length c9, .bool P.b] 27)
          have xa206 := xa195.alloc (.cells #[.int .i64 P.d, .int .i64 P.w, .slice A9 P.m.length c9, .bool P.b] 27)
          have oR1207 := oR1196.alloc (.cells #[.int .i64 P.d, .int .i64 P.w, .slice A9 P.m.length c9, .bool P.b] 27)
          have xb208 := xb197.alloc (.cells #[.int .i64 P.d, .int .i64 P.w, .slice A9 P.m.length c9, .bool P.b] 27)
          have oR2209 := oR2198.alloc (.cells #[.int .i64 P.d, .int .i64 P.w, .slice A9 P.m.length c9, .bool P.b] 27)
          have xc210 := xc199.alloc (.cells #[.int .i64 P.d, .int .i64 P.w, .slice A9 P.m.length c9, .bool P.b] 27)
          have oO1211 := oO1200.alloc (.cells #[.int .i64 P.d, .int .i64 P.w, .slice A9 P.m.length c9, .bool P.b] 27)
          have xe212 := xe201.alloc (.cells #[.int .i64 P.d, .int .i64 P.w, .slice A9 P.m.length c9, .bool P.b] 27)
          have oW1213 := oW1202.alloc (.cells #[.int .i64 P.d, .int .i64 P.w, .slice A9 P.m.length c9, .bool P.b] 27)
          have xf214 := xf203.alloc (.cells #[.int .i64 P.d, .int .i64 P.w, .slice A9 P.m.length c9, .bool P.b] 27)
          have oP1215 := oP1204.alloc (.cells #[.int .i64 P.d, .int .i64 P.w, .slice A9 P.m.length c9, .bool P.b] 27)
          clear hB194 xa195 oR1196 xb197 oR2198 xc199 oO1200 xe201 oW1202 xf203 oP1204
          have xg216 : At (w9.alloc (.cells #[.int .i64 P.d, .int .i64 P.w, .slice A9 P.m.length c9, .bool P.b] 27)) (w9.heap.size) 27 #[.int .i64 P.d, .int .i64 P.w, .slice A9 P.m.length c9, .bool P.b] := At.newAt _ _ (by first | rfl | (simp; done) | (simp; omega))
          obtain ⟨xa_0, xa_1, xa_2, xa_3, xa_l, xa_f⟩ := (⟨xa206.cell 0, xa206.cell 1, xa206.cell 2, xa206.cell 3, xa206.lt, xa206.frozen⟩ : _ ∧ _ ∧ _ ∧ _ ∧ _ ∧ _)
          obtain ⟨xb_0, xb_1, xb_2, xb_3, xb_l, xb_f⟩ := (⟨xb208.cell 0, xb208.cell 1, xb208.cell 2, xb208.cell 3, xb208.lt, xb208.frozen⟩ : _ ∧ _ ∧ _ ∧ _ ∧ _ ∧ _)
          obtain ⟨xc_0, xc_1, xc_2, xc_3, xc_l, xc_f⟩ := (⟨xc210.cell 0, xc210.cell 1, xc210.cell 2, xc210.cell 3, xc210.lt, xc210.frozen⟩ : _ ∧ _ ∧ _ ∧ _ ∧ _ ∧ _)
          obtain ⟨xe_0, xe_1, xe_2, xe_3, xe_l, xe_f⟩ := (⟨xe212.cell 0, xe212.cell 1, xe212.cell 2, xe212.cell 3, xe212.lt, xe212.frozen⟩ : _ ∧ _ ∧ _ ∧ _ ∧ _ ∧ _)
          obtain ⟨xf_0, xf_1, xf_2, xf_3, xf_l, xf_f⟩ := (⟨xf214.cell 0, xf214.cell 1, xf214.cell 2, xf214.cell 3, xf214.lt, xf214.frozen⟩ : _ ∧ _ ∧ _ ∧ _ ∧ _ ∧ _)
          obtain ⟨xg_0, xg_1, xg_2, xg_3, xg_l, xg_f⟩ := (⟨xg216.cell 0, xg216.cell 1, xg216.cell 2, xg216.cell 3, xg216.lt, xg216.frozen⟩ : _ ∧ _ ∧ _ ∧ _ ∧ _ ∧ _)
          go_wp2
          go_ret
          exact ⟨by first | rfl | (simp; done) | (simp; omega), HB2.out.trans (hB205.mono HB2.out.size)⟩
        · skip
          have EG := hid hg1
          have hg2 := hg1
          rw [hO, stepS_yes hf] at hg2
          obtain ⟨k1, k2, k3⟩ := HKP.out hok hf hg2
          rw [← stepS_yes hf, ← hO] at hg2 k1 k2 k3
          rw [← stepS_yes hg1, ← hW] at k1 k2 k3
          have EL := hid k1
          rw [← stepS_yes k1, ← hP] at k2 k3
          have hd0 := hok.1.1
          by_cases hd : C.d = 0
          · skip
            obtain ⟨k4, k5⟩ := k2 hd
            have hdb : (C.d == 0) = true := by simp [hd]
            have HD := hid hd
            have E5 := hid k5
            clear k1 k2 k3 k5 hg1 hg2 hf hO hW hP hok hd
            have HK4 := hid k4
            obtain ⟨D, hD⟩ : ∃ D, D = stepS C 1 := ⟨_, rfl⟩
            have ED : Hid (stepS C 1 = D) := hid hD.symm
            have HDl := hid (show D.m.length ≤ 4194304 by rw [hD]; exact Nat.le_trans (stepS_len C 1) (by decide))
            clear hD
            clear k4
            have EP2 : Hid (stepS W 3 = C) := hid (EP.out.trans HK4.out)
            have hB217 := hB0.alloc hB0.size (.cells #[.int .i64 C.d, .int .i64 C.w, .slice B C.m.length d, .bool C.b] 27)
            clear hB0
            have xa218 : At (w2.alloc (.cells #[.int .i64 C.d, .int .i64 C.w, .slice B C.m.length d, .bool C.b] 27)) (w2.heap.size) 27 #[.int .i64 C.d, .int .i64 C.w, .slice B C.m.length d, .bool C.b] := At.newAt _ _ (by first | rfl | (simp; done) | (simp; omega))
            obtain ⟨xa_0, xa_1, xa_2, xa_3, xa_l, xa_f⟩ := (⟨xa218.cell 0, xa218.cell 1, xa218.cell 2, xa218.cell 3, xa218.lt, xa218.frozen⟩ : _ ∧ _ ∧ _ ∧ _ ∧ _ ∧ _)
            go_wp2_with fail
            refine (iStepNest_any C i B d _ (hs.on hB217) dl.cap dl.n4).mono ?_
            rintro e w3 ⟨A3, c3, he, ho3, hb3⟩
            rw [ER.out, EK.out] at he
            rw [ER.out] at ho3
            subst he
            have sz3 : w2.heap.size + 1 ≤ w3.heap.size := Nat.le_trans (by first | exact Nat.le_refl _ | (simp; done) | (simp; omega)) (hb3.size)
            have hB219 := hB217.trans (hb3.mono hB217.size)
            have xa220 := xa218.below hb3 xa218.lt
            clear hB217 xa218
            clear xa_0 xa_1 xa_2 xa_3 xa_l xa_f
            have oR1221 : OwnM w3 w2.heap.size A3 c3 R := OwnM.mono ho3 (by first | omega | (simp; omega) | (simp; done))
            clear ho3
            have hB222 := hB219.alloc hB219.size (.cells #[.int .i64 R.d, .int .i64 R.w, .slice A3 R.m.length c3, .bool R.b] 27)
            have xa223 := xa220.alloc (.cells #[.int .i64 R.d, .int .i64 R.w, .slice A3 R.m.length c3, .bool R.b] 27)
            have oR1224 := oR1221.alloc (.cells #[.int .i64 R.d, .int .i64 R.w, .slice A3 R.m.length c3, .bool R.b] 27)
            clear hB219 xa220 oR1221
            have xb225 : At (w3.alloc (.cells #[.int .i64 R.d, .int .i64 R.w, .slice A3 R.m.length c3, .bool R.b] 27)) (w3.heap.size) 27 #[.int .i64 R.d, .int .i64 R.w, .slice A3 R.m.length c3, .bool R.b] := At.newAt _ _ (by first | rfl | (simp; done) | (simp; omega))
            obtain ⟨xa_0, xa_1, xa_2, xa_3, xa_l, xa_f⟩ := (⟨xa223.cell 0, xa223.cell 1, xa223.cell 2, xa223.cell 3, xa223.lt, xa223.frozen⟩ : _ ∧ _ ∧ _ ∧ _ ∧ _ ∧ _)
            obtain ⟨xb_0, xb_1, xb_2, xb_3, xb_l, xb_f⟩ := (⟨xb225.cell 0, xb225.cell 1, xb225.cell 2, xb225.cell 3, xb225.lt, xb225.frozen⟩ : _ ∧ _ ∧ _ ∧ _ ∧ _ ∧ _)
            go_wp2_with fail
            refine (sStepNest_any C i B d _ (hs.on hB222) dl.cap dl.n4).mono ?_
            rintro e w4 ⟨A4, c4, he, ho4, hb4⟩
            rw [ER.out, EK.out] at he
            rw [ER.out] at ho4
            subst he
            have sz4 : w3.heap.size + 1 ≤ w4.heap.size := Nat.le_trans (by first | exact Nat.le_refl _ | (simp; done) | (simp; omega)) (hb4.size)
            have hB226 := hB222.trans (hb4.mono hB222.size)
            have xa227 := xa223.below hb4 xa223.lt
            have oR1228 := oR1224.below hb4
            have xb229 := xb225.below hb4 xb225.lt
            clear hB222 xa223 oR1224 xb225
            clear xa_0 xa_1 xa_2 xa_3 xa_l xa_f xb_0 xb_1 xb_2 xb_3 xb_l xb_f
            have oR2230 : OwnM w4 w2.heap.size A4 c4 R := OwnM.mono ho4 (by first | omega | (simp; omega) | (simp; done))
            clear ho4
            have hB231 := hB226.alloc hB226.size (.cells #[.int .i64 R.d, .int .i64 R.w, .slice A4 R.m.length c4, .bool R.b] 27)
            have xa232 := xa227.alloc (.cells #[.int .i64 R.d, .int .i64 R.w, .slice A4 R.m.length c4, .bool R.b] 27)
            have oR1233 := oR1228.alloc (.cells #[.int .i64 R.d, .int .i64 R.w, .slice A4 R.m.length c4, .bool R.b] 27)
            have xb234 := xb229.alloc (.cells #[.int .i64 R.d, .int .i64 R.w, .slice A4 R.m.length c4, .bool R.b] 27)
            have oR2235 := oR2230.alloc (.cells #[.int .i64 R.d, .int .i64 R.w, .slice A4 R.m.length c4, .bool R.b] 27)
            clear hB226 xa227 oR1228 xb229 oR2230
            have xc236 : At (w4.alloc (.cells #[.int .i64 R.d, .int .i64 R.w, .slice A4 R.m.length c4, .bool R.b] 27)) (w4.heap.size) 27 #[.int .i64 R.d, .int .i64 R.w, .slice A4 R.m.length c4, .bool R.b] := At.newAt _ _ (by first | rfl | (simp; done) | (simp; omega))
            obtain ⟨xa_0, xa_1, xa_2, xa_3, xa_l, xa_f⟩ := (⟨xa232.cell 0, xa232.cell 1, xa232.cell 2, xa232.cell 3, xa232.lt, xa232.frozen⟩ : _ ∧ _ ∧ _ ∧ _ ∧ _ ∧ _)
            obtain ⟨xb_0, xb_1, xb_2, xb_3, xb_l, xb_f⟩ := (⟨xb234.cell 0, xb234.cell 1, xb234.cell 2, xb234.cell 3, xb234.lt, xb234.frozen⟩ : _ ∧ _ ∧ _ ∧ _ ∧ _ ∧ _)
            obtain ⟨xc_0, xc_1, xc_2, xc_3, xc_l, xc_f⟩ := (⟨xc236.cell 0, xc236.cell 1, xc236.cell 2, xc236.cell 3, xc236.lt, xc236.frozen⟩ : _ ∧ _ ∧ _ ∧ _ ∧ _ ∧ _)
            go_wp2_with fail
            with_reducible refine (equalNest_same A3 A4 c3 c4 R _ oR1233.sees oR2235.sees HRl.out).mono ?_
            rintro e w5 ⟨rfl, hb5⟩
            have sz5 : w4.heap.size + 1 ≤ w5.heap.size := Nat.le_trans (by first | exact Nat.le_refl _ | (simp; done) | (simp; omega)) (hb5.size)
            have hB237 := hB231.trans (hb5.mono hB231.size)
            have xa238 := xa232.below hb5 xa232.lt
            have oR1239 := oR1233.below hb5
            have xb240 := xb234.below hb5 xb234.lt
            have oR2241 := oR2235.below hb5
            have xc242 := xc236.below hb5 xc236.lt
            clear hB231 xa232 oR1233 xb234 oR2235 xc236
            clear xa_0 xa_1 xa_2 xa_3 xa_l xa_f xb_0 xb_1 xb_2 xb_3 xb_l xb_f xc_0 xc_1 xc_2 xc_3 xc_l xc_f
            obtain ⟨xa_0, xa_1, xa_2, xa_3, xa_l, xa_f⟩ := (⟨xa238.cell 0, xa238.cell 1, xa238.cell 2, xa238.cell 3, xa238.lt, xa238.frozen⟩ : _ ∧ _ ∧ _ ∧ _ ∧ _ ∧ _)
            obtain ⟨xb_0, xb_1, xb_2, xb_3, xb_l, xb_f⟩ := (⟨xb240.cell 0, xb240.cell 1, xb240.cell 2, xb240.cell 3, xb240.lt, xb240.frozen⟩ : _ ∧ _ ∧ _ ∧ _ ∧ _ ∧ _)
            obtain ⟨xc_0, xc_1, xc_2, xc_3, xc_l, xc_f⟩ := (⟨xc242.cell 0, xc242.cell 1, xc242.cell 2, xc242.cell 3, xc242.lt, xc242.frozen⟩ : _ ∧ _ ∧ _ ∧ _ ∧ _ ∧ _)
            go_wp2_with fail
            with_reducible refine (iValidNest_any C B d _ (hs.on hB237) dl.cap dl.n4).mono ?_
            rintro e w6 ⟨he, hb6⟩
            rw [HV.out] at he
            subst he
            have sz6 : w5.heap.size ≤ w6.heap.size := Nat.le_trans (by first | exact Nat.le_refl _ | (simp; done) | (simp; omega)) (hb6.size)
            have hB243 := hB237.trans (hb6.mono hB237.size)
            have xa244 := xa238.below hb6 xa238.lt
            have oR1245 := oR1239.below hb6
            have xb246 := xb240.below hb6 xb240.lt
            have oR2247 := oR2241.below hb6
            have xc248 := xc242.below hb6 xc242.lt
            clear hB237 xa238 oR1239 xb240 oR2241 xc242
            clear xa_0 xa_1 xa_2 xa_3 xa_l xa_f xb_0 xb_1 xb_2 xb_3 xb_l xb_f xc_0 xc_1 xc_2 xc_3 xc_l xc_f
            obtain ⟨xa_0, xa_1, xa_2, xa_3, xa_l, xa_f⟩ := (⟨xa244.cell 0, xa244.cell 1, xa244.cell 2, xa244.cell 3, xa244.lt, xa244.frozen⟩ : _ ∧ _ ∧ _ ∧ _ ∧ _ ∧ _)
            obtain ⟨xb_0, xb_1, xb_2, xb_3, xb_l, xb_f⟩ := (⟨xb246.cell 0, xb246.cell 1, xb246.cell 2, xb246.cell 3, xb246.lt, xb246.frozen⟩ : _ ∧ _ ∧ _ ∧ _ ∧ _ ∧ _)
            obtain ⟨xc_0, xc_1, xc_2, xc_3, xc_l, xc_f⟩ := (⟨xc248.cell 0, xc248.cell 1, xc248.cell 2, xc248.cell 3, xc248.lt, xc248.frozen⟩ : _ ∧ _ ∧ _ ∧ _ ∧ _ ∧ _)
            go_wp2_with fail
            refine (iStepNest_any C 0 B d _ (hs.on hB243) dl.cap dl.n4).mono ?_
            rintro e w7 ⟨A7, c7, he, ho7, hb7⟩
            rw [EO.out, EF.out] at he
            rw [EO.out] at ho7
            subst he
            have sz7 : w6.heap.size ≤ w7.heap.size := Nat.le_trans (by first | exact Nat.le_refl _ | (simp; done) | (simp; omega)) (hb7.size)
            have hB249 := hB243.trans (hb7.mono hB243.size)
            have xa250 := xa244.below hb7 xa244.lt
            have oR1251 := oR1245.below hb7
            have xb252 := xb246.below hb7 xb246.lt
            have oR2253 := oR2247.below hb7
            have xc254 := xc248.below hb7 xc248.lt
            clear hB243 xa244 oR1245 xb246 oR2247 xc248
            clear xa_0 xa_1 xa_2 xa_3 xa_l xa_f xb_0 xb_1 xb_2 xb_3 xb_l xb_f xc_0 xc_1 xc_2 xc_3 xc_l xc_f
            have oO1255 : OwnM w7 w2.heap.size A7 c7 O := OwnM.mono ho7 (by first | omega | (simp; omega) | (simp; done))
            clear ho7
            have hB256 := hB249.alloc hB249.size (.cells #[.int .i64 O.d, .int .i64 O.w, .slice A7 O.m.length c7, .bool O.b] 27)
            have xa257 := xa250.alloc (.cells #[.int .i64 O.d, .int .i64 O.w, .slice A7 O.m.length c7, .bool O.b] 27)
            have oR1258 := oR1251.alloc (.cells #[.int .i64 O.d, .int .i64 O.w, .slice A7 O.m.length c7, .bool O.b] 27)
            have xb259 := xb252.alloc (.cells #[.int .i64 O.d, .int .i64 O.w, .slice A7 O.m.length c7, .bool O.b] 27)
            have oR2260 := oR2253.alloc (.cells #[.int .i64 O.d, .int .i64 O.w, .slice A7 O.m.length c7, .bool O.b] 27)
            have xc261 := xc254.alloc (.cells #[.int .i64 O.d, .int .i64 O.w, .slice A7 O.m.length c7, .bool O.b] 27)
            have oO1262 := oO1255.alloc (.cells #[.int .i64 O.d, .int .i64 O.w, .slice A7 O.m.length c7, .bool O.b] 27)
            clear hB249 xa250 oR1251 xb252 oR2253 xc254 oO1255
            have xe263 : At (w7.alloc (.cells #[.int .i64 O.d, .int .i64 O.w, .slice A7 O.m.length c7, .bool O.b] 27)) (w7.heap.size) 27 #[.int .i64 O.d, .int .i64 O.w, .slice A7 O.m.length c7, .bool O.b] := At.newAt _ _ (by first | rfl | (simp; done) | (simp; omega))
            obtain ⟨xa_0, xa_1, xa_2, xa_3, xa_l, xa_f⟩ := (⟨xa257.cell 0, xa257.cell 1, xa257.cell 2, xa257.cell 3, xa257.lt, xa257.frozen⟩ : _ ∧ _ ∧ _ ∧ _ ∧ _ ∧ _)
            obtain ⟨xb_0, xb_1, xb_2, xb_3, xb_l, xb_f⟩ := (⟨xb259.cell 0, xb259.cell 1, xb259.cell 2, xb259.cell 3, xb259.lt, xb259.frozen⟩ : _ ∧ _ ∧ _ ∧ _ ∧ _ ∧ _)
            obtain ⟨xc_0, xc_1, xc_2, xc_3, xc_l, xc_f⟩ := (⟨xc261.cell 0, xc261.cell 1, xc261.cell 2, xc261.cell 3, xc261.lt, xc261.frozen⟩ : _ ∧ _ ∧ _ ∧ _ ∧ _ ∧ _)
            obtain ⟨xe_0, xe_1, xe_2, xe_3, xe_l, xe_f⟩ := (⟨xe263.cell 0, xe263.cell 1, xe263.cell 2, xe263.cell 3, xe263.lt, xe263.frozen⟩ : _ ∧ _ ∧ _ ∧ _ ∧ _ ∧ _)
            go_wp2_with fail
            refine (iStepNest_any O 1 A7 c7 _ oO1262.sees oO1262.cap HOl.out).mono ?_
            rintro e w8 ⟨A8, c8, he, ho8, hb8⟩
            rw [EW.out, EG.out] at he
            rw [EW.out] at ho8
            subst he
            have sz8 : w7.heap.size + 1 ≤ w8.heap.size := Nat.le_trans (by first | exact Nat.le_refl _ | (simp; done) | (simp; omega)) (hb8.size)
            have hB264 := hB256.trans (hb8.mono hB256.size)
            have xa265 := xa257.below hb8 xa257.lt
            have oR1266 := oR1258.below hb8
            have xb267 := xb259.below hb8 xb259.lt
            have oR2268 := oR2260.below hb8
            have xc269 := xc261.below hb8 xc261.lt
            have oO1270 := oO1262.below hb8
            have xe271 := xe263.below hb8 xe263.lt
            clear hB256 xa257 oR1258 xb259 oR2260 xc261 oO1262 xe263
            clear xa_0 xa_1 xa_2 xa_3 xa_l xa_f xb_0 xb_1 xb_2 xb_3 xb_l xb_f xc_0 xc_1 xc_2 xc_3 xc_l xc_f xe_0 xe_1 xe_2 xe_3 xe_l xe_f
            have oW1272 : OwnM w8 w2.heap.size A8 c8 W := OwnM.mono ho8 (by first | omega | (simp; omega) | (simp; done))
            clear ho8
            have hB273 := hB264.alloc hB264.size (.cells #[.int .i64 W.d, .int .i64 W.w, .slice A8 W.m.length c8, .bool W.b] 27)
            have xa274 := xa265.alloc (.cells #[.int .i64 W.d, .int .i64 W.w, .slice A8 W.m.length c8, .bool W.b] 27)
            have oR1275 := oR1266.alloc (.cells #[.int .i64 W.d, .int .i64 W.w, .slice A8 W.m.length c8, .bool W.b] 27)
            have xb276 := xb267.alloc (.cells #[.int .i64 W.d, .int .i64 W.w, .slice A8 W.m.length c8, .bool W.b] 27)
            have oR2277 := oR2268.alloc (.cells #[.int .i64 W.d, .int .i64 W.w, .slice A8 W.m.length c8, .bool W.b] 27)
            have xc278 := xc269.alloc (.cells #[.int .i64 W.d, .int .i64 W.w, .slice A8 W.m.length c8, .bool W.b] 27)
            have oO1279 := oO1270.alloc (.cells #[.int .i64 W.d, .int .i64 W.w, .slice A8 W.m.length c8, .bool W.b] 27)
            have xe280 := xe271.alloc (.cells #[.int .i64 W.d, .int .i64 W.w, .slice A8 W.m.length c8, .bool W.b] 27)
            have oW1281 := oW1272.alloc (.cells #[.int .i64 W.d, .int .i64 W.w, .slice A8 W.m.length c8, .bool W.b] 27)
            clear hB264 xa265 oR1266 xb267 oR2268 xc269 oO1270 xe271 oW1272
            have xf282 : At (w8.alloc (.cells #[.int .i64 W.d, .int .i64 W.w, .slice A8 W.m.length c8, .bool W.b] 27)) (w8.heap.size) 27 #[.int .i64 W.d, .int .i64 W.w, .slice A8 W.m.length c8, .bool W.b] := At.newAt _ _ (by first | rfl | (simp; done) | (simp; omega))
            obtain ⟨xa_0, xa_1, xa_2, xa_3, xa_l, xa_f⟩ := (⟨xa274.cell 0, xa274.cell 1, xa274.cell 2, xa274.cell 3, xa274.lt, xa274.frozen⟩ : _ ∧ _ ∧ _ ∧ _ ∧ _ ∧ _)
            obtain ⟨xb_0, xb_1, xb_2, xb_3, xb_l, xb_f⟩ := (⟨xb276.cell 0, xb276.cell 1, xb276.cell 2, xb276.cell 3, xb276.lt, xb276.frozen⟩ : _ ∧ _ ∧ _ ∧ _ ∧ _ ∧ _)
            obtain ⟨xc_0, xc_1, xc_2, xc_3, xc_l, xc_f⟩ := (⟨xc278.cell 0, xc278.cell 1, xc278.cell 2, xc278.cell 3, xc278.lt, xc278.frozen⟩ : _ ∧ _ ∧ _ ∧ _ ∧ _ ∧ _)
            obtain ⟨xe_0, xe_1, xe_2, xe_3, xe_l, xe_f⟩ := (⟨xe280.cell 0, xe280.cell 1, xe280.cell 2, xe280.cell 3, xe280.lt, xe280.frozen⟩ : _ ∧ _ ∧ _ ∧ _ ∧ _ ∧ _)
            obtain ⟨xf_0, xf_1, xf_2, xf_3, xf_l, xf_f⟩ := (⟨xf282.cell 0, xf282.cell 1, xf282.cell 2, xf282.cell 3, xf282.lt, xf282.frozen⟩ : _ ∧ _ ∧ _ ∧ _ ∧ _ ∧ _)
            go_wp2_with fail
            refine (iStepNest_any W 3 A8 c8 _ oW1281.sees oW1281.cap HWl.out).mono ?_
            rintro e w9 ⟨A9, c9, he, ho9, hb9⟩
            rw [EP2.out, EL.out] at he
            rw [EP2.out] at ho9
            subst he
            have sz9 : w8.heap.size + 1 ≤ w9.heap.size := Nat.le_trans (by first | exact Nat.le_refl _ | (simp; done) | (simp; omega)) (hb9.size)
            have hB283 := hB273.trans (hb9.mono hB273.size)
            have xa284 := xa274.below hb9 xa274.lt
            have oR1285 := oR1275.below hb9
            have xb286 := xb276.below hb9 xb276.lt
            have oR2287 := oR2277.below hb9
            have xc288 := xc278.below hb9 xc278.lt
            have oO1289 := oO1279.below hb9
            have xe290 := xe280.below hb9 xe280.lt
            have oW1291 := oW1281.below hb9
            have xf292 := xf282.below hb9 xf282.lt
            clear hB273 xa274 oR1275 xb276 oR2277 xc278 oO1279 xe280 oW1281 xf282
            clear xa_0 xa_1 xa_2 xa_3 xa_l xa_f xb_0 xb_1 xb_2 xb_3 xb_l xb_f xc_0 xc_1 xc_2 xc_3 xc_l xc_f xe_0 xe_1 xe_2 xe_3 xe_l xe_f xf_0 xf_1 xf_2 xf_3 xf_l xf_f
            have oP1293 : OwnM w9 w2.heap.size A9 c9 C := OwnM.mono ho9 (by first | omega | (simp; omega) | (simp; done))
            clear ho9
            have hB294 := hB283.alloc hB283.size (.cells #[.int .i64 C.d, .int .i64 C.w, .slice A9 C.m.length c9, .bool C.b] 27)
            have xa295 := xa284.alloc (.cells #[.int .i64 C.d, .int .i64 C.w, .slice A9 C.m.length c9, .bool C.b] 27)
            have oR1296 := oR1285.alloc (.cells #[.int .i64 C.d, .int .i64 C.w, .slice A9 C.m.length c9, .bool C.b] 27)
            have xb297 := xb286.alloc (.cells #[.int .i64 C.d, .int .i64 C.w, .slice A9 C.m.length c9, .bool C.b] 27)
            have oR2298 := oR2287.alloc (.cells #[.int .i64 C.d, .int .i64 C.w, .slice A9 C.m.length c9, .bool C.b] 27)
            have xc299 := xc288.alloc (.cells #[.int .i64 C.d, .int .i64 C.w, .slice A9 C.m.length c9, .bool C.b] 27)
            have oO1300 := oO1289.alloc (.cells #[.int .i64 C.d, .int .i64 C.w, .slice A9 C.m.length c9, .bool C.b] 27)
            have xe301 := xe290.alloc (.cells #[.int .i64 C.d, .int .i64 C.w, .slice A9 C.m.length c9, .bool C.b] 27)
            have oW1302 := oW1291.alloc (.cells #[.int .i64 C.d, .int .i64 C.w, .slice A9 C.m.length c9, .bool C.b] 27)
            have xf303 := xf292.alloc (.cells #[.int .i64 C.d, .int .i64 C.w, .slice A9 C.m.length c9, .bool C.b] 27)
            have oP1304 := oP1293.alloc (.cells #[.int .i64 C.d, .int .i64 C.w, .slice A9 C.m.length c9, .bool C.b] 27)
            clear hB283 xa284 oR1285 xb286 oR2287 xc288 oO1289 xe290 oW1291 xf292 oP1293
            have xg305 : At (w9.alloc (.cells #[.int .i64 C.d, .int .i64 C.w, .slice A9 C.m.length c9, .bool C.b] 27)) (w9.heap.size) 27 #[.int .i64 C.d, .int .i64 C.w, .slice A9 C.m.length c9, .bool C.b] := At.newAt _ _ (by first | rfl | (simp; done) | (simp; omega))
            obtain ⟨xa_0, xa_1, xa_2, xa_3, xa_l, xa_f⟩ := (⟨xa295.cell 0, xa295.cell 1, xa295.cell 2, xa295.cell 3, xa295.lt, xa295.frozen⟩ : _ ∧ _ ∧ _ ∧ _ ∧ _ ∧ _)
            obtain ⟨xb_0, xb_1, xb_2, xb_3, xb_l, xb_f⟩ := (⟨xb297.cell 0, xb297.cell 1, xb297.cell 2, xb297.cell 3, xb297.lt, xb297.frozen⟩ : _ ∧ _ ∧ _ ∧ _ ∧ _ ∧ _)
            obtain ⟨xc_0, xc_1, xc_2, xc_3, xc_l, xc_f⟩ := (⟨xc299.cell 0, xc299.cell 1, xc299.cell 2, xc299.cell 3, xc299.lt, xc299.frozen⟩ : _ ∧ _ ∧ _ ∧ _ ∧ _ ∧ _)
            obtain ⟨xe_0, xe_1, xe_2, xe_3, xe_l, xe_f⟩ := (⟨xe301.cell 0, xe301.cell 1, xe301.cell 2, xe301.cell 3, xe301.lt, xe301.frozen⟩ : _ ∧ _ ∧ _ ∧ _ ∧ _ ∧ _)
            obtain ⟨xf_0, xf_1, xf_2, xf_3, xf_l, xf_f⟩ := (⟨xf303.cell 0, xf303.cell 1, xf303.cell 2, xf303.cell 3, xf303.lt, xf303.frozen⟩ : _ ∧ _ ∧ _ ∧ _ ∧ _ ∧ _)
            obtain ⟨xg_0, xg_1, xg_2, xg_3, xg_l, xg_f⟩ := (⟨xg305.cell 0, xg305.cell 1, xg305.cell 2, xg305.cell 3, xg305.lt, xg305.frozen⟩ : _ ∧ _ ∧ _ ∧ _ ∧ _ ∧ _)
            go_wp2_with fail
            refine (iStepNest_any C 1 B d _ (hs.on hB294) dl.cap dl.n4).mono ?_
            rintro e w10 ⟨A10, c10, he, ho10, hb10⟩
            rw [ED.out, E5.out] at he
            rw [ED.out] at ho10
            subst he
            have sz10 : w9.heap.size + 1 ≤ w10.heap.size := Nat.le_trans (by first | exact Nat.le_refl _ | (simp; done) | (simp; omega)) (hb10.size)
            have hB306 := hB294.trans (hb10.mono hB294.size)
            have xa307 := xa295.below hb10 xa295.lt
            have oR1308 := oR1296.below hb10
            have xb309 := xb297.below hb10 xb297.lt
            have oR2310 := oR2298.below hb10
            have xc311 := xc299.below hb10 xc299.lt
            have oO1312 := oO1300.below hb10
            have xe313 := xe301.below hb10 xe301.lt
            have oW1314 := oW1302.below hb10
            have xf315 := xf303.below hb10 xf303.lt
            have oP1316 := oP1304.below hb10
            have xg317 := xg305.below hb10 xg305.lt
            clear hB294 xa295 oR1296 xb297 oR2298 xc299 oO1300 xe301 oW1302 xf303 oP1304 xg305
            clear xa_0 xa_1 xa_2 xa_3 xa_l xa_f xb_0 xb_1 xb_2 xb_3 xb_l xb_f xc_0 xc_1 xc_2 xc_3 xc_l xc_f xe_0 xe_1 xe_2 xe_3 xe_l xe_f xf_0 xf_1 xf_2 xf_3 xf_l xf_f xg_0 xg_1 xg_2 xg_3 xg_l xg_f
            have oD1318 : OwnM w10 w2.heap.size A10 c10 D := OwnM.mono ho10 (by first | omega | (simp; omega) | (simp; done))
            clear ho10
            have hB319 := hB306.alloc hB306.size (.cells #[.int .i64 D.d, .int .i64 D.w, .slice A10 D.m.length c10, .bool D.b] 27)
            have xa320 := xa307.alloc (.cells #[.int .i64 D.d, .int .i64 D.w, .slice A10 D.m.length c10, .bool D.b] 27)
            have oR1321 := oR1308.alloc (.cells #[.int .i64 D.d, .int .i64 D.w, .slice A10 D.m.length c10, .bool D.b] 27)
            have xb322 := xb309.alloc (.cells #[.int .i64 D.d, .int .i64 D.w, .slice A10 D.m.length c10, .bool D.b] 27)
            have oR2323 := oR2310.alloc (.cells #[.int .i64 D.d, .int .i64 D.w, .slice A10 D.m.length c10, .bool D.b] 27)
            have xc324 := xc311.alloc (.cells #[.int .i64 D.d, .int .i64 D.w, .slice A10 D.m.length c10, .bool D.b] 27)
            have oO1325 := oO1312.alloc (.cells #[.int .i64 D.d, .int .i64 D.w, .slice A10 D.m.length c10, .bool D.b] 27)
            have xe326 := xe313.alloc (.cells #[.int .i64 D.d, .int .i64 D.w, .slice A10 D.m.length c10, .bool D.b] 27)
            have oW1327 := oW1314.alloc (.cells #[.int .i64 D.d, .int .i64 D.w, .slice A10 D.m.length c10, .bool D.b] 27)
            have xf328 := xf315.alloc (.cells #[.int .i64 D.d, .int .i64 D.w, .slice A10 D.m.length c10, .bool D.b] 27)
            have oP1329 := oP1316.alloc (.cells #[.int .i64 D.d, .int .i64 D.w, .slice A10 D.m.length c10, .bool D.b] 27)
            have xg330 := xg317.alloc (.cells #[.int .i64 D.d, .int .i64 D.w, .slice A10 D.m.length c10, .bool D.b] 27)
            have oD1331 := oD1318.alloc (.cells #[.int .i64 D.d, .int .i64 D.w, .slice A10 D.m.length c10, .bool D.b] 27)
            clear hB306 xa307 oR1308 xb309 oR2310 xc311 oO1312 xe313 oW1314 xf315 oP1316 xg317 oD1318
            have xk332 : At (w10.alloc (.cells #[.int .i64 D.d, .int .i64 D.w, .slice A10 D.m.length c10, .bool D.b] 27)) (w10.heap.size) 27 #[.int .i64 D.d, .int .i64 D.w, .slice A10 D.m.length c10, .bool D.b] := At.newAt _ _ (by first | rfl | (simp; done) | (simp; omega))
            obtain ⟨xa_0, xa_1, xa_2, xa_3, xa_l, xa_f⟩ := (⟨xa320.cell 0, xa320.cell 1, xa320.cell 2, xa320.cell 3, xa320.lt, xa320.frozen⟩ : _ ∧ _ ∧ _ ∧ _ ∧ _ ∧ _)
            obtain ⟨xb_0, xb_1, xb_2, xb_3, xb_l, xb_f⟩ := (⟨xb322.cell 0, xb322.cell 1, xb322.cell 2, xb322.cell 3, xb322.lt, xb322.frozen⟩ : _ ∧ _ ∧ _ ∧ _ ∧ _ ∧ _)
            obtain ⟨xc_0, xc_1, xc_2, xc_3, xc_l, xc_f⟩ := (⟨xc324.cell 0, xc324.cell 1, xc324.cell 2, xc324.cell 3, xc324.lt, xc324.frozen⟩ : _ ∧ _ ∧ _ ∧ _ ∧ _ ∧ _)
            obtain ⟨xe_0, xe_1, xe_2, xe_3, xe_l, xe_f⟩ := (⟨xe326.cell 0, xe326.cell 1, xe326.cell 2, xe326.cell 3, xe326.lt, xe326.frozen⟩ : _ ∧ _ ∧ _ ∧ _ ∧ _ ∧ _)
            obtain ⟨xf_0, xf_1, xf_2, xf_3, xf_l, xf_f⟩ := (⟨xf328.cell 0, xf328.cell 1, xf328.cell 2, xf328.cell 3, xf328.lt, xf328.frozen⟩ : _ ∧ _ ∧ _ ∧ _ ∧ _ ∧ _)
            obtain ⟨xg_0, xg_1, xg_2, xg_3, xg_l, xg_f⟩ := (⟨xg330.cell 0, xg330.cell 1, xg330.cell 2, xg330.cell 3, xg330.lt, xg330.frozen⟩ : _ ∧ _ ∧ _ ∧ _ ∧ _ ∧ _)
            obtain ⟨xk_0, xk_1, xk_2, xk_3, xk_l, xk_f⟩ := (⟨xk332.cell 0, xk332.cell 1, xk332.cell 2, xk332.cell 3, xk332.lt, xk332.frozen⟩ : _ ∧ _ ∧ _ ∧ _ ∧ _ ∧ _)
            go_wp2_with fail
            with_reducible refine (equalNest_same A9 B c9 d C _ oP1329.sees (hs.on hB319) dl.n4).mono ?_
            rintro e w11 ⟨rfl, hb11⟩
            have sz11 : w10.heap.size + 1 ≤ w11.heap.size := Nat.le_trans (by first | exact Nat.le_refl _ | (simp; done) | (simp; omega)) (hb11.size)
            have hB333 := hB319.trans (hb11.mono hB319.size)
            have xa334 := xa320.below hb11 xa320.lt
            have oR1335 := oR1321.below hb11
            have xb336 := xb322.below hb11 xb322.lt
            have oR2337 := oR2323.below hb11
            have xc338 := xc324.below hb11 xc324.lt
            have oO1339 := oO1325.below hb11
            have xe340 := xe326.below hb11 xe326.lt
            have oW1341 := oW1327.below hb11
            have xf342 := xf328.below hb11 xf328.lt
            have oP1343 := oP1329.below hb11
            have xg344 := xg330.below hb11 xg330.lt
            have oD1345 := oD1331.below hb11
            have xk346 := xk332.below hb11 xk332.lt
            clear hB319 xa320 oR1321 xb322 oR2323 xc324 oO1325 xe326 oW1327 xf328 oP1329 xg330 oD1331 xk332
            clear xa_0 xa_1 xa_2 xa_3 xa_l xa_f xb_0 xb_1 xb_2 xb_3 xb_l xb_f xc_0 xc_1 xc_2 xc_3 xc_l xc_f xe_0 xe_1 xe_2 xe_3 xe_l xe_f xf_0 xf_1 xf_2 xf_3 xf_l xf_f xg_0 xg_1 xg_2 xg_3 xg_l xg_f xk_0 xk_1 xk_2 xk_3 xk_l xk_f
            obtain ⟨xa_0, xa_1, xa_2, xa_3, xa_l, xa_f⟩ := (⟨xa334.cell 0, xa334.cell 1, xa334.cell 2, xa334.cell 3, xa334.lt, xa334.frozen⟩ : _ ∧ _ ∧ _ ∧ _ ∧ _ ∧ _)
            obtain ⟨xb_0, xb_1, xb_2, xb_3, xb_l, xb_f⟩ := (⟨xb336.cell 0, xb336.cell 1, xb336.cell 2, xb336.cell 3, xb336.lt, xb336.frozen⟩ : _ ∧ _ ∧ _ ∧ _ ∧ _ ∧ _)
            obtain ⟨xc_0, xc_1, xc_2, xc_3, xc_l, xc_f⟩ := (⟨xc338.cell 0, xc338.cell 1, xc338.cell 2, xc338.cell 3, xc338.lt, xc338.frozen⟩ : _ ∧ _ ∧ _ ∧ _ ∧ _ ∧ _)
            obtain ⟨xe_0, xe_1, xe_2, xe_3, xe_l, xe_f⟩ := (⟨xe340.cell 0, xe340.cell 1, xe340.cell 2, xe340.cell 3, xe340.lt, xe340.frozen⟩ : _ ∧ _ ∧ _ ∧ _ ∧ _ ∧ _)
            obtain ⟨xf_0, xf_1, xf_2, xf_3, xf_l, xf_f⟩ := (⟨xf342.cell 0, xf342.cell 1, xf342.cell 2, xf342.cell 3, xf342.lt, xf342.frozen⟩ : _ ∧ _ ∧ _ ∧ _ ∧ _ ∧ _)
            obtain ⟨xg_0, xg_1, xg_2, xg_3, xg_l, xg_f⟩ := (⟨xg344.cell 0, xg344.cell 1, xg344.cell 2, xg344.cell 3, xg344.lt, xg344.frozen⟩ : _ ∧ _ ∧ _ ∧ _ ∧ _ ∧ _)
            obtain ⟨xk_0, xk_1, xk_2, xk_3, xk_l, xk_f⟩ := (⟨xk346.cell 0, xk346.cell 1, xk346.cell 2, xk346.cell 3, xk346.lt, xk346.frozen⟩ : _ ∧ _ ∧ _ ∧ _ ∧ _ ∧ _)
            go_wp2
            go_ret
            exact ⟨by first | rfl | (simp; done) | (simp; omega), HB2.out.trans (hB333.mono HB2.out.size)⟩
          · skip
            obtain ⟨k4, k5⟩ := k3 (by omega)
            have hdb : (C.d == 0) = false := beq_eq_false_iff_ne.2 hd
            have hdp : C.d > 0 := by omega
            have hdp2 : 0 < C.d := by omega
            have E4 := hid k4
            have EPD : Hid (stepS C 1 = P) := hid ((stepS_yes k4).trans k5.symm)
            clear k1 k2 k3 k4 k5 hg1 hg2 hf hO hW hP hok hd
            have hB347 := hB0.alloc hB0.size (.cells #[.int .i64 C.d, .int .i64 C.w, .slice B C.m.length d, .bool C.b] 27)
            clear hB0
            have xa348 : At (w2.alloc (.cells #[.int .i64 C.d, .int .i64 C.w, .slice B C.m.length d, .bool C.b] 27)) (w2.heap.size) 27 #[.int .i64 C.d, .int .i64 C.w, .slice B C.m.length d, .bool C.b] := At.newAt _ _ (by first | rfl | (simp; done) | (simp; omega))
            obtain ⟨xa_0, xa_1, xa_2, xa_3, xa_l, xa_f⟩ := (⟨xa348.cell 0, xa348.cell 1, xa348.cell 2, xa348.cell 3, xa348.lt, xa348.frozen⟩ : _ ∧ _ ∧ _ ∧ _ ∧ _ ∧ _)
            go_wp2_with fail
            refine (iStepNest_any C i B d _ (hs.on hB347) dl.cap dl.n4).mono ?_
            rintro e w3 ⟨A3, c3, he, ho3, hb3⟩
            rw [ER.out, EK.out] at he
            rw [ER.out] at ho3
            subst he
            have sz3 : w2.heap.size + 1 ≤ w3.heap.size := Nat.le_trans (by first | exact Nat.le_refl _ | (simp; done) | (simp; omega)) (hb3.size)
            have hB349 := hB347.trans (hb3.mono hB347.size)
            have xa350 := xa348.below hb3 xa348.lt
            clear hB347 xa348
            clear xa_0 xa_1 xa_2 xa_3 xa_l xa_f
            have oR1351 : OwnM w3 w2.heap.size A3 c3 R := OwnM.mono ho3 (by first | omega | (simp; omega) | (simp; done))
            clear ho3
            have hB352 := hB349.alloc hB349.size (.cells #[.int .i64 R.d, .int .i64 R.w, .slice A3 R.m.length c3, .bool R.b] 27)
            have xa353 := xa350.alloc (.cells #[.int .i64 R.d, .int .i64 R.w, .slice A3 R.m.length c3, .bool R.b] 27)
            have oR1354 := oR1351.alloc (.cells #[.int .i64 R.d, .int .i64 R.w, .slice A3 R.m.length c3, .bool R.b] 27)
            clear hB349 xa350 oR1351
            have xb355 : At (w3.alloc (.cells #[.int .i64 R.d, .int .i64 R.w, .slice A3 R.m.length c3, .bool R.b] 27)) (w3.heap.size) 27 #[.int .i64 R.d, .int .i64 R.w, .slice A3 R.m.length c3, .bool R.b] := At.newAt _ _ (by first | rfl | (simp; done) | (simp; omega))
            obtain ⟨xa_0, xa_1, xa_2, xa_3, xa_l, xa_f⟩ := (⟨xa353.cell 0, xa353.cell 1, xa353.cell 2, xa353.cell 3, xa353.lt, xa353.frozen⟩ : _ ∧ _ ∧ _ ∧ _ ∧ _ ∧ _)
            obtain ⟨xb_0, xb_1, xb_2, xb_3, xb_l, xb_f⟩ := (⟨xb355.cell 0, xb355.cell 1, xb355.cell 2, xb355.cell 3, xb355.lt, xb355.frozen⟩ : _ ∧ _ ∧ _ ∧ _ ∧ _ ∧ _)
            go_wp2_with fail
            refine (sStepNest_any C i B d _ (hs.on hB352) dl.cap dl.n4).mono ?_
            rintro e w4 ⟨A4, c4, he, ho4, hb4⟩
            rw [ER.out, EK.out] at he
            rw [ER.out] at ho4
            subst he
            have sz4 : w3.heap.size + 1 ≤ w4.heap.size := Nat.le_trans (by first | exact Nat.le_refl _ | (simp; done) | (simp; omega)) (hb4.size)
            have hB356 := hB352.trans (hb4.mono hB352.size)
            have xa357 := xa353.below hb4 xa353.lt
            have oR1358 := oR1354.below hb4
            have xb359 := xb355.below hb4 xb355.lt
            clear hB352 xa353 oR1354 xb355
            clear xa_0 xa_1 xa_2 xa_3 xa_l xa_f xb_0 xb_1 xb_2 xb_3 xb_l xb_f
            have oR2360 : OwnM w4 w2.heap.size A4 c4 R := OwnM.mono ho4 (by first | omega | (simp; omega) | (simp; done))
            clear ho4
            have hB361 := hB356.alloc hB356.size (.cells #[.int .i64 R.d, .int .i64 R.w, .slice A4 R.m.length c4, .bool R.b] 27)
            have xa362 := xa357.alloc (.cells #[.int .i64 R.d, .int .i64 R.w, .slice A4 R.m.length c4, .bool R.b] 27)
            have oR1363 := oR1358.alloc (.cells #[.int .i64 R.d, .int .i64 R.w, .slice A4 R.m.length c4, .bool R.b] 27)
            have xb364 := xb359.alloc (.cells #[.int .i64 R.d, .int .i64 R.w, .slice A4 R.m.length c4, .bool R.b] 27)
            have oR2365 := oR2360.alloc (.cells #[.int .i64 R.d, .int .i64 R.w, .slice A4 R.m.length c4, .bool R.b] 27)
            clear hB356 xa357 oR1358 xb359 oR2360
            have xc366 : At (w4.alloc (.cells #[.int .i64 R.d, .int .i64 R.w, .slice A4 R.m.length c4, .bool R.b] 27)) (w4.heap.size) 27 #[.int .i64 R.d, .int .i64 R.w, .slice A4 R.m.length c4, .bool R.b] := At.newAt _ _ (by first | rfl | (simp; done) | (simp; omega))
            obtain ⟨xa_0, xa_1, xa_2, xa_3, xa_l, xa_f⟩ := (⟨xa362.cell 0, xa362.cell 1, xa362.cell 2, xa362.cell 3, xa362.lt, xa362.frozen⟩ : _ ∧ _ ∧ _ ∧ _ ∧ _ ∧ _)
            obtain ⟨xb_0, xb_1, xb_2, xb_3, xb_l, xb_f⟩ := (⟨xb364.cell 0, xb364.cell 1, xb364.cell 2, xb364.cell 3, xb364.lt, xb364.frozen⟩ : _ ∧ _ ∧ _ ∧ _ ∧ _ ∧ _)
            obtain ⟨xc_0, xc_1, xc_2, xc_3, xc_l, xc_f⟩ := (⟨xc366.cell 0, xc366.cell 1, xc366.cell 2, xc366.cell 3, xc366.lt, xc366.frozen⟩ : _ ∧ _ ∧ _ ∧ _ ∧ _ ∧ _)
            go_wp2_with fail
            with_reducible refine (equalNest_same A3 A4 c3 c4 R _ oR1363.sees oR2365.sees HRl.out).mono ?_
            rintro e w5 ⟨rfl, hb5⟩
            have sz5 : w4.heap.size + 1 ≤ w5.heap.size := Nat.le_trans (by first | exact Nat.le_refl _ | (simp; done) | (simp; omega)) (hb5.size)
            have hB367 := hB361.trans (hb5.mono hB361.size)
            have xa368 := xa362.below hb5 xa362.lt
            have oR1369 := oR1363.below hb5
            have xb370 := xb364.below hb5 xb364.lt
            have oR2371 := oR2365.below hb5
            have xc372 := xc366.below hb5 xc366.lt
            clear hB361 xa362 oR1363 xb364 oR2365 xc366
            clear xa_0 xa_1 xa_2 xa_3 xa_l xa_f xb_0 xb_1 xb_2 xb_3 xb_l xb_f xc_0 xc_1 xc_2 xc_3 xc_l xc_f
            obtain ⟨xa_0, xa_1, xa_2, xa_3, xa_l, xa_f⟩ := (⟨xa368.cell 0, xa368.cell 1, xa368.cell 2, xa368.cell 3, xa368.lt, xa368.frozen⟩ : _ ∧ _ ∧ _ ∧ _ ∧ _ ∧ _)
            obtain ⟨xb_0, xb_1, xb_2, xb_3, xb_l, xb_f⟩ := (⟨xb370.cell 0, xb370.cell 1, xb370.cell 2, xb370.cell 3, xb370.lt, xb370.frozen⟩ : _ ∧ _ ∧ _ ∧ _ ∧ _ ∧ _)
            obtain ⟨xc_0, xc_1, xc_2, xc_3, xc_l, xc_f⟩ := (⟨xc372.cell 0, xc372.cell 1, xc372.cell 2, xc372.cell 3, xc372.lt, xc372.frozen⟩ : _ ∧ _ ∧ _ ∧ _ ∧ _ ∧ _)
            go_wp2_with fail
            with_reducible refine (iValidNest_any C B d _ (hs.on hB367) dl.cap dl.n4).mono ?_
            rintro e w6 ⟨he, hb6⟩
            rw [HV.out] at he
            subst he
            have sz6 : w5.heap.size ≤ w6.heap.size := Nat.le_trans (by first | exact Nat.le_refl _ | (simp; done) | (simp; omega)) (hb6.size)
            have hB373 := hB367.trans (hb6.mono hB367.size)
            have xa374 := xa368.below hb6 xa368.lt
            have oR1375 := oR1369.below hb6
            have xb376 := xb370.below hb6 xb370.lt
            have oR2377 := oR2371.below hb6
            have xc378 := xc372.below hb6 xc372.lt
            clear hB367 xa368 oR1369 xb370 oR2371 xc372
            clear xa_0 xa_1 xa_2 xa_3 xa_l xa_f xb_0 xb_1 xb_2 xb_3 xb_l xb_f xc_0 xc_1 xc_2 xc_3 xc_l xc_f
            obtain ⟨xa_0, xa_1, xa_2, xa_3, xa_l, xa_f⟩ := (⟨xa374.cell 0, xa374.cell 1, xa374.cell 2, xa374.cell 3, xa374.lt, xa374.frozen⟩ : _ ∧ _ ∧ _ ∧ _ ∧ _ ∧ _)
            obtain ⟨xb_0, xb_1, xb_2, xb_3, xb_l, xb_f⟩ := (⟨xb376.cell 0, xb376.cell 1, xb376.cell 2, xb376.cell 3, xb376.lt, xb376.frozen⟩ : _ ∧ _ ∧ _ ∧ _ ∧ _ ∧ _)
            obtain ⟨xc_0, xc_1, xc_2, xc_3, xc_l, xc_f⟩ := (⟨xc378.cell 0, xc378.cell 1, xc378.cell 2, xc378.cell 3, xc378.lt, xc378.frozen⟩ : _ ∧ _ ∧ _ ∧ _ ∧ _ ∧ _)
            go_wp2_with fail
            refine (iStepNest_any C 0 B d _ (hs.on hB373) dl.cap dl.n4).mono ?_
            rintro e w7 ⟨A7, c7, he, ho7, hb7⟩
            rw [EO.out, EF.out] at he
            rw [EO.out] at ho7
            subst he
            have sz7 : w6.heap.size ≤ w7.heap.size := Nat.le_trans (by first | exact Nat.le_refl _ | (simp; done) | (simp; omega)) (hb7.size)
            have hB379 := hB373.trans (hb7.mono hB373.size)
            have xa380 := xa374.below hb7 xa374.lt
            have oR1381 := oR1375.below hb7
            have xb382 := xb376.below hb7 xb376.lt
            have oR2383 := oR2377.below hb7
            have xc384 := xc378.below hb7 xc378.lt
            clear hB373 xa374 oR1375 xb376 oR2377 xc378
            clear xa_0 xa_1 xa_2 xa_3 xa_l xa_f xb_0 xb_1 xb_2 xb_3 xb_l xb_f xc_0 xc_1 xc_2 xc_3 xc_l xc_f
            have oO1385 : OwnM w7 w2.heap.size A7 c7 O := OwnM.mono ho7 (by first | omega | (simp; omega) | (simp; done))
            clear ho7
            have hB386 := hB379.alloc hB379.size (.cells #[.int .i64 O.d, .int .i64 O.w, .slice A7 O.m.length c7, .bool O.b] 27)
            have xa387 := xa380.alloc (.cells #[.int .i64 O.d, .int .i64 O.w, .slice A7 O.m.length c7, .bool O.b] 27)
            have oR1388 := oR1381.alloc (.cells #[.int .i64 O.d, .int .i64 O.w, .slice A7 O.m.length c7, .bool O.b] 27)
            have xb389 := xb382.alloc (.cells #[.int .i64 O.d, .int .i64 O.w, .slice A7 O.m.length c7, .bool O.b] 27)
            have oR2390 := oR2383.alloc (.cells #[.int .i64 O.d, .int .i64 O.w, .slice A7 O.m.length c7, .bool O.b] 27)
            have xc391 := xc384.alloc (.cells #[.int .i64 O.d, .int .i64 O.w, .slice A7 O.m.length c7, .bool O.b] 27)
            have oO1392 := oO1385.alloc (.cells #[.int .i64 O.d, .int .i64 O.w, .slice A7 O.m.length c7, .bool O.b] 27)
            clear hB379 xa380 oR1381 xb382 oR2383 xc384 oO1385
            have xe393 : At (w7.alloc (.cells #[.int .i64 O.d, .int .i64 O.w, .slice A7 O.m.length c7, .bool O.b] 27)) (w7.heap.size) 27 #[.int .i64 O.d, .int .i64 O.w, .slice A7 O.m.length c7, .bool O.b] := At.newAt _ _ (by first | rfl | (simp; done) | (simp; omega))
            obtain ⟨xa_0, xa_1, xa_2, xa_3, xa_l, xa_f⟩ := (⟨xa387.cell 0, xa387.cell 1, xa387.cell 2, xa387.cell 3, xa387.lt, xa387.frozen⟩ : _ ∧ _ ∧ _ ∧ _ ∧ _ ∧ _)
            obtain ⟨xb_0, xb_1, xb_2, xb_3, xb_l, xb_f⟩ := (⟨xb389.cell 0, xb389.cell 1, xb389.cell 2, xb389.cell 3, xb389.lt, xb389.frozen⟩ : _ ∧ _ ∧ _ ∧ _ ∧ _ ∧ _)
            obtain ⟨xc_0, xc_1, xc_2, xc_3, xc_l, xc_f⟩ := (⟨xc391.cell 0, xc391.cell 1, xc391.cell 2, xc391.cell 3, xc391.lt, xc391.frozen⟩ : _ ∧ _ ∧ _ ∧ _ ∧ _ ∧ _)
            obtain ⟨xe_0, xe_1, xe_2, xe_3, xe_l, xe_f⟩ := (⟨xe393.cell 0, xe393.cell 1, xe393.cell 2, xe393.cell 3, xe393.lt, xe393.frozen⟩ : _ ∧ _ ∧ _ ∧ _ ∧ _ ∧ _)
            go_wp2_with fail
            refine (iStepNest_any O 1 A7 c7 _ oO1392.sees oO1392.cap HOl.out).mono ?_
            rintro e w8 ⟨A8, c8, he, ho8, hb8⟩
            rw [EW.out, EG.out] at he
            rw [EW.out] at ho8
            subst he
            have sz8 : w7.heap.size + 1 ≤ w8.heap.size := Nat.le_trans (by first | exact Nat.le_refl _ | (simp; done) | (simp; omega)) (hb8.size)
            have hB394 := hB386.trans (hb8.mono hB386.size)
            have xa395 := xa387.below hb8 xa387.lt
            have oR1396 := oR1388.below hb8
            have xb397 := xb389.below hb8 xb389.lt
            have oR2398 := oR2390.below hb8
            have xc399 := xc391.below hb8 xc391.lt
            have oO1400 := oO1392.below hb8
            have xe401 := xe393.below hb8 xe393.lt
            clear hB386 xa387 oR1388 xb389 oR2390 xc391 oO1392 xe393
            clear xa_0 xa_1 xa_2 xa_3 xa_l xa_f xb_0 xb_1 xb_2 xb_3 xb_l xb_f xc_0 xc_1 xc_2 xc_3 xc_l xc_f xe_0 xe_1 xe_2 xe_3 xe_l xe_f
            have oW1402 : OwnM w8 w2.heap.size A8 c8 W := OwnM.mono ho8 (by first | omega | (simp; omega) | (simp; done))
            clear ho8
            have hB403 := hB394.alloc hB394.size (.cells #[.int .i64 W.d, .int .i64 W.w, .slice A8 W.m.length c8, .bool W.b] 27)
            have xa404 := xa395.alloc (.cells #[.int .i64 W.d, .int .i64 W.w, .slice A8 W.m.length c8, .bool W.b] 27)
            have oR1405 := oR1396.alloc (.cells #[.int .i64 W.d, .int .i64 W.w, .slice A8 W.m.length c8, .bool W.b] 27)
            have xb406 := xb397.alloc (.cells #[.int .i64 W.d, .int .i64 W.w, .slice A8 W.m.length c8, .bool W.b] 27)
            have oR2407 := oR2398.alloc (.cells #[.int .i64 W.d, .int .i64 W.w, .slice A8 W.m.length c8, .bool W.b] 27)
            have xc408 := xc399.alloc (.cells #[.int .i64 W.d, .int .i64 W.w, .slice A8 W.m.length c8, .bool W.b] 27)
            have oO1409 := oO1400.alloc (.cells #[.int .i64 W.d, .int .i64 W.w, .slice A8 W.m.length c8, .bool W.b] 27)
            have xe410 := xe401.alloc (.cells #[.int .i64 W.d, .int .i64 W.w, .slice A8 W.m.length c8, .bool W.b] 27)
            have oW1411 := oW1402.alloc (.cells #[.int .i64 W.d, .int .i64 W.w, .slice A8 W.m.length c8, .bool W.b] 27)
            clear hB394 xa395 oR1396 xb397 oR2398 xc399 oO1400 xe401 oW1402
            have xf412 : At (w8.alloc (.cells #[.int .i64 W.d, .int .i64 W.w, .slice A8 W.m.length c8, .bool W.b] 27)) (w8.heap.size) 27 #[.int .i64 W.d, .int .i64 W.w, .slice A8 W.m.length c8, .bool W.b] := At.newAt _ _ (by first | rfl | (simp; done) | (simp; omega))
            obtain ⟨xa_0, xa_1, xa_2, xa_3, xa_l, xa_f⟩ := (⟨xa404.cell 0, xa404.cell 1, xa404.cell 2, xa404.cell 3, xa404.lt, xa404.frozen⟩ : _ ∧ _ ∧ _ ∧ _ ∧ _ ∧ _)
            obtain ⟨xb_0, xb_1, xb_2, xb_3, xb_l, xb_f⟩ := (⟨xb406.cell 0, xb406.cell 1, xb406.cell 2, xb406.cell 3, xb406.lt, xb406.frozen⟩ : _ ∧ _ ∧ _ ∧ _ ∧ _ ∧ _)
            obtain ⟨xc_0, xc_1, xc_2, xc_3, xc_l, xc_f⟩ := (⟨xc408.cell 0, xc408.cell 1, xc408.cell 2, xc408.cell 3, xc408.lt, xc408.frozen⟩ : _ ∧ _ ∧ _ ∧ _ ∧ _ ∧ _)
            obtain ⟨xe_0, xe_1, xe_2, xe_3, xe_l, xe_f⟩ := (⟨xe410.cell 0, xe410.cell 1, xe410.cell 2, xe410.cell 3, xe410.lt, xe410.frozen⟩ : _ ∧ _ ∧ _ ∧ _ ∧ _ ∧ _)
            obtain ⟨xf_0, xf_1, xf_2, xf_3, xf_l, xf_f⟩ := (⟨xf412.cell 0, xf412.cell 1, xf412.cell 2, xf412.cell 3, xf412.lt, xf412.frozen⟩ : _ ∧ _ ∧ _ ∧ _ ∧ _ ∧ _)
            go_wp2_with fail
            refine (iStepNest_any W 3 A8 c8 _ oW1411.sees oW1411.cap HWl.out).mono ?_
            rintro e w9 ⟨A9, c9, he, ho9, hb9⟩
            rw [EP.out, EL.out] at he
            rw [EP.out] at ho9
            subst he
            have sz9 : w8.heap.size + 1 ≤ w9.heap.size := Nat.le_trans (by first | exact Nat.le_refl _ | (simp; done) | (simp; omega)) (hb9.size)
            have hB413 := hB403.trans (hb9.mono hB403.size)
            have xa414 := xa404.below hb9 xa404.lt
            have oR1415 := oR1405.below hb9
            have xb416 := xb406.below hb9 xb406.lt
            have oR2417 := oR2407.below hb9
            have xc418 := xc408.below hb9 xc408.lt
            have oO1419 := oO1409.below hb9
            have xe420 := xe410.below hb9 xe410.lt
            have oW1421 := oW1411.below hb9
            have xf422 := xf412.below hb9 xf412.lt
            clear hB403 xa404 oR1405 xb406 oR2407 xc408 oO1409 xe410 oW1411 xf412
            clear xa_0 xa_1 xa_2 xa_3 xa_l xa_f xb_0 xb_1 xb_2 xb_3 xb_l xb_f xc_0 xc_1 xc_2 xc_3 xc_l xc_f xe_0 xe_1 xe_2 xe_3 xe_l xe_f xf_0 xf_1 xf_2 xf_3 xf_l xf_f
            have oP1423 : OwnM w9 w2.heap.size A9 c9 P := OwnM.mono ho9 (by first | omega | (simp; omega) | (simp; done))
            clear ho9
            have hB424 := hB413.alloc hB413.size (.cells #[.int .i64 P.d, .int .i64 P.w, .slice A9 P.m.length c9, .bool P.b] 27)
            have xa425 := xa414.alloc (.cells #[.int .i64 P.d, .int .i64 P.w, .slice A9 P.m.length c9, .bool P.b] 27)
            have oR1426 := oR1415.alloc (.cells #[.int .i64 P.d, .int .i64 P.w, .slice A9 P.m.length c9, .bool P.b] 27)
            have xb427 := xb416.alloc (.cells #[.int .i64 P.d, .int .i64 P.w, .slice A9 P.m.length c9, .bool P.b] 27)
            have oR2428 := oR2417.alloc (.cells #[.int .i64 P.d, .int .i64 P.w, .slice A9 P.m.length c9, .bool P.b] 27)
            have xc429 := xc418.alloc (.cells #[.int .i64 P.d, .int .i64 P.w, .slice A9 P.m.length c9, .bool P.b] 27)
            have oO1430 := oO1419.alloc (.cells #[.int .i64 P.d, .int .i64 P.w, .slice A9 P.m.length c9, .bool P.b] 27)
            have xe431 := xe420.alloc (.cells #[.int .i64 P.d, .int .i64 P.w, .slice A9 P.m.length c9, .bool P.b] 27)
            have oW1432 := oW1421.alloc (.cells #[.int .i64 P.d, .int .i64 P.w, .slice A9 P.m.length c9, .bool P.b] 27)
            have xf433 := xf422.alloc (.cells #[.int .i64 P.d, .int .i64 P.w, .slice A9 P.m.length c9, .bool P.b] 27)
            have oP1434 := oP1423.alloc (.cells #[.int .i64 P.d, .int .i64 P.w, .slice A9 P.m.length c9, .bool P.b] 27)
            clear hB413 xa414 oR1415 xb416 oR2417 xc418 oO1419 xe420 oW1421 xf422 oP1423
            have xg435 : At (w9.alloc (.cells #[.int .i64 P.d, .int .i64 P.w, .slice A9 P.m.length c9, .bool P.b] 27)) (w9.heap.size) 27 #[.int .i64 P.d, .int .i64 P.w, .slice A9 P.m.length c9, .bool P.b] := At.newAt _ _ (by first | rfl | (simp; done) | (simp; omega))
            obtain ⟨xa_0, xa_1, xa_2, xa_3, xa_l, xa_f⟩ := (⟨xa425.cell 0, xa425.cell 1, xa425.cell 2, xa425.cell 3, xa425.lt, xa425.frozen⟩ : _ ∧ _ ∧ _ ∧ _ ∧ _ ∧ _)
            obtain ⟨xb_0, xb_1, xb_2, xb_3, xb_l, xb_f⟩ := (⟨xb427.cell 0, xb427.cell 1, xb427.cell 2, xb427.cell 3, xb427.lt, xb427.frozen⟩ : _ ∧ _ ∧ _ ∧ _ ∧ _ ∧ _)
            obtain ⟨xc_0, xc_1, xc_2, xc_3, xc_l, xc_f⟩ := (⟨xc429.cell 0, xc429.cell 1, xc429.cell 2, xc429.cell 3, xc429.lt, xc429.frozen⟩ : _ ∧ _ ∧ _ ∧ _ ∧ _ ∧ _)
            obtain ⟨xe_0, xe_1, xe_2, xe_3, xe_l, xe_f⟩ := (⟨xe431.cell 0, xe431.cell 1, xe431.cell 2, xe431.cell 3, xe431.lt, xe431.frozen⟩ : _ ∧ _ ∧ _ ∧ _ ∧ _ ∧ _)
            obtain ⟨xf_0, xf_1, xf_2, xf_3, xf_l, xf_f⟩ := (⟨xf433.cell 0, xf433.cell 1, xf433.cell 2, xf433.cell 3, xf433.lt, xf433.frozen⟩ : _ ∧ _ ∧ _ ∧ _ ∧ _ ∧ _)
            obtain ⟨xg_0, xg_1, xg_2, xg_3, xg_l, xg_f⟩ := (⟨xg435.cell 0, xg435.cell 1, xg435.cell 2, xg435.cell 3, xg435.lt, xg435.frozen⟩ : _ ∧ _ ∧ _ ∧ _ ∧ _ ∧ _)
            go_wp2_with fail
            refine (iStepNest_any C 1 B d _ (hs.on hB424) dl.cap dl.n4).mono ?_
            rintro e w10 ⟨A10, c10, he, ho10, hb10⟩
            rw [EPD.out, E4.out] at he
            rw [EPD.out] at ho10
            subst he
            have sz10 : w9.heap.size + 1 ≤ w10.heap.size := Nat.le_trans (by first | exact Nat.le_refl _ | (simp; done) | (simp; omega)) (hb10.size)
            have hB436 := hB424.trans (hb10.mono hB424.size)
            have xa437 := xa425.below hb10 xa425.lt
            have oR1438 := oR1426.below hb10
            have xb439 := xb427.below hb10 xb427.lt
            have oR2440 := oR2428.below hb10
            have xc441 := xc429.below hb10 xc429.lt
            have oO1442 := oO1430.below hb10
            have xe443 := xe431.below hb10 xe431.lt
            have oW1444 := oW1432.below hb10
            have xf445 := xf433.below hb10 xf433.lt
            have oP1446 := oP1434.below hb10
            have xg447 := xg435.below hb10 xg435.lt
            clear hB424 xa425 oR1426 xb427 oR2428 xc429 oO1430 xe431 oW1432 xf433 oP1434 xg435
            clear xa_0 xa_1 xa_2 xa_3 xa_l xa_f xb_0 xb_1 xb_2 xb_3 xb_l xb_f xc_0 xc_1 xc_2 xc_3 xc_l xc_f xe_0 xe_1 xe_2 xe_3 xe_l xe_f xf_0 xf_1 xf_2 xf_3 xf_l xf_f xg_0 xg_1 xg_2 xg_3 xg_l xg_f
            have oD1448 : OwnM w10 w2.heap.size A10 c10 P := OwnM.mono ho10 (by first | omega | (simp; omega) | (simp; done))
            clear ho10
            have hB449 := hB436.alloc hB436.size (.cells #[.int .i64 P.d, .int .i64 P.w, .slice A10 P.m.length c10, .bool P.b] 27)
            have xa450 := xa437.alloc (.cells #[.int .i64 P.d, .int .i64 P.w, .slice A10 P.m.length c10, .bool P.b] 27)
            have oR1451 := oR1438.alloc (.cells #[.int .i64 P.d, .int .i64 P.w, .slice A10 P.m.length c10, .bool P.b] 27)
            have xb452 := xb439.alloc (.cells #[.int .i64 P.d, .int .i64 P.w, .slice A10 P.m.length c10, .bool P.b] 27)
            have oR2453 := oR2440.alloc (.cells #[.int .i64 P.d, .int .i64 P.w, .slice A10 P.m.length c10, .bool P.b] 27)
            have xc454 := xc441.alloc (.cells #[.int .i64 P.d, .int .i64 P.w, .slice A10 P.m.length c10, .bool P.b] 27)
            have oO1455 := oO1442.alloc (.cells #[.int .i64 P.d, .int .i64 P.w, .slice A10 P.m.length c10, .bool P.b] 27)
            have xe456 := xe443.alloc (.cells #[.int .i64 P.d, .int .i64 P.w, .slice A10 P.m.length c10, .bool P.b] 27)
            have oW1457 := oW1444.alloc (.cells #[.int .i64 P.d, .int .i64 P.w, .slice A10 P.m.length c10, .bool P.b] 27)
            have xf458 := xf445.alloc (.cells #[.int .i64 P.d, .int .i64 P.w, .slice A10 P.m.length c10, .bool P.b] 27)
            have oP1459 := oP1446.alloc (.cells #[.int .i64 P.d, .int .i64 P.w, .slice A10 P.m.length c10, .bool P.b] 27)
            have xg460 := xg447.alloc (.cells #[.int .i64 P.d, .int .i64 P.w, .slice A10 P.m.length c10, .bool P.b] 27)
            have oD1461 := oD1448.alloc (.cells #[.int .i64 P.d, .int .i64 P.w, .slice A10 P.m.length c10, .bool P.b] 27)
            clear hB436 xa437 oR1438 xb439 oR2440 xc441 oO1442 xe443 oW1444 xf445 oP1446 xg447 oD1448
            have xk462 : At (w10.alloc (.cells #[.int .i64 P.d, .int .i64 P.w, .slice A10 P.m.length c10, .bool P.b] 27)) (w10.heap.size) 27 #[.int .i64 P.d, .int .i64 P.w, .slice A10 P.m.length c10, .bool P.b] := At.newAt _ _ (by first | rfl | (simp; done) | (simp; omega))
            obtain ⟨xa_0, xa_1, xa_2, xa_3, xa_l, xa_f⟩ := (⟨xa450.cell 0, xa450.cell 1, xa450.cell 2, xa450.cell 3, xa450.lt, xa450.frozen⟩ : _ ∧ _ ∧ _ ∧ _ ∧ _ ∧ _)
            obtain ⟨xb_0, xb_1, xb_2, xb_3, xb_l, xb_f⟩ := (⟨xb452.cell 0, xb452.cell 1, xb452.cell 2, xb452.cell 3, xb452.lt, xb452.frozen⟩ : _ ∧ _ ∧ _ ∧ _ ∧ _ ∧ _)
            obtain ⟨xc_0, xc_1, xc_2, xc_3, xc_l, xc_f⟩ := (⟨xc454.cell 0, xc454.cell 1, xc454.cell 2, xc454.cell 3, xc454.lt, xc454.frozen⟩ : _ ∧ _ ∧ _ ∧ _ ∧ _ ∧ _)
            obtain ⟨xe_0, xe_1, xe_2, xe_3, xe_l, xe_f⟩ := (⟨xe456.cell 0, xe456.cell 1, xe456.cell 2, xe456.cell 3, xe456.lt, xe456.frozen⟩ : _ ∧ _ ∧ _ ∧ _ ∧ _ ∧ _)
            obtain ⟨xf_0, xf_1, xf_2, xf_3, xf_l, xf_f⟩ := (⟨xf458.cell 0, xf458.cell 1, xf458.cell 2, xf458.cell 3, xf458.lt, xf458.frozen⟩ : _ ∧ _ ∧ _ ∧ _ ∧ _ ∧ _)
            obtain ⟨xg_0, xg_1, xg_2, xg_3, xg_l, xg_f⟩ := (⟨xg460.cell 0, xg460.cell 1, xg460.cell 2, xg460.cell 3, xg460.lt, xg460.frozen⟩ : _ ∧ _ ∧ _ ∧ _ ∧ _ ∧ _)
            obtain ⟨xk_0, xk_1, xk_2, xk_3, xk_l, xk_f⟩ := (⟨xk462.cell 0, xk462.cell 1, xk462.cell 2, xk462.cell 3, xk462.lt, xk462.frozen⟩ : _ ∧ _ ∧ _ ∧ _ ∧ _ ∧ _)
            go_wp2_with fail
            with_reducible refine (equalNest_same A9 A10 c9 c10 P _ oP1459.sees oD1461.sees HPl.out).mono ?_
            rintro e w11 ⟨rfl, hb11⟩
            have sz11 : w10.heap.size + 1 ≤ w11.heap.size := Nat.le_trans (by first | exact Nat.le_refl _ | (simp; done) | (simp; omega)) (hb11.size)
            have hB463 := hB449.trans (hb11.mono hB449.size)
            have xa464 := xa450.below hb11 xa450.lt
            have oR1465 := oR1451.below hb11
            have xb466 := xb452.below hb11 xb452.lt
            have oR2467 := oR2453.below hb11
            have xc468 := xc454.below hb11 xc454.lt
            have oO1469 := oO1455.below hb11
            have xe470 := xe456.below hb11 xe456.lt
            have oW1471 := oW1457.below hb11
            have xf472 := xf458.below hb11 xf458.lt
            have oP1473 := oP1459.below hb11
            have xg474 := xg460.below hb11 xg460.lt
            have oD1475 := oD1461.below hb11
            have xk476 := xk462.below hb11 xk462.lt
            clear hB449 xa450 oR1451 xb452 oR2453 xc454 oO1455 xe456 oW1457 xf458 oP1459 xg460 oD1461 xk462
            clear xa_0 xa_1 xa_2 xa_3 xa_l xa_f xb_0 xb_1 xb_2 xb_3 xb_l xb_f xc_0 xc_1 xc_2 xc_3 xc_l xc_f xe_0 xe_1 xe_2 xe_3 xe_l xe_f xf_0 xf_1 xf_2 xf_3 xf_l xf_f xg_0 xg_1 xg_2 xg_3 xg_l xg_f xk_0 xk_1 xk_2 xk_3 xk_l xk_f
            obtain ⟨xa_0, xa_1, xa_2, xa_3, xa_l, xa_f⟩ := (⟨xa464.cell 0, xa464.cell 1, xa464.cell 2, xa464.cell 3, xa464.lt, xa464.frozen⟩ : _ ∧ _ ∧ _ ∧ _ ∧ _ ∧ _)
            obtain ⟨xb_0, xb_1, xb_2, xb_3, xb_l, xb_f⟩ := (⟨xb466.cell 0, xb466.cell 1, xb466.cell 2, xb466.cell 3, xb466.lt, xb466.frozen⟩ : _ ∧ _ ∧ _ ∧ _ ∧ _ ∧ _)
            obtain ⟨xc_0, xc_1, xc_2, xc_3, xc_l, xc_f⟩ := (⟨xc468.cell 0, xc468.cell 1, xc468.cell 2, xc468.cell 3, xc468.lt, xc468.frozen⟩ : _ ∧ _ ∧ _ ∧ _ ∧ _ ∧ _)
            obtain ⟨xe_0, xe_1, xe_2, xe_3, xe_l, xe_f⟩ := (⟨xe470.cell 0, xe470.cell 1, xe470.cell 2, xe470.cell 3, xe470.lt, xe470.frozen⟩ : _ ∧ _ ∧ _ ∧ _ ∧ _ ∧ _)
            obtain ⟨xf_0, xf_1, xf_2, xf_3, xf_l, xf_f⟩ := (⟨xf472.cell 0, xf472.cell 1, xf472.cell 2, xf472.cell 3, xf472.lt, xf472.frozen⟩ : _ ∧ _ ∧ _ ∧ _ ∧ _ ∧ _)
            obtain ⟨xg_0, xg_1, xg_2, xg_3, xg_l, xg_f⟩ := (⟨xg474.cell 0, xg474.cell 1, xg474.cell 2, xg474.cell 3, xg474.lt, xg474.frozen⟩ : _ ∧ _ ∧ _ ∧ _ ∧ _ ∧ _)
            obtain ⟨xk_0, xk_1, xk_2, xk_3, xk_l, xk_f⟩ := (⟨xk476.cell 0, xk476.cell 1, xk476.cell 2, xk476.cell 3, xk476.lt, xk476.frozen⟩ : _ ∧ _ ∧ _ ∧ _ ∧ _ ∧ _)
            go_wp2
            go_ret
            exact ⟨by first | rfl | (simp; done) | (simp; omega), HB2.out.trans (hB463.mono HB2.out.size)⟩
end Go.Proofs.Ythmpeahlddfpnaa

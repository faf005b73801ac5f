/-
  The walk of the law FnStepNestBack: at every code it returns true and changes nothing that was there. Conditions: none.
-/
import Derived.Test.YthmpeahlddfpnaaLawNs
import Derived.Test.YthmpeahlddfpnaaLawFrame
import Derived.BigQuiet

namespace Go.Proofs.Ythmpeahlddfpnaa
open Go.RowKit Nes

set_option maxHeartbeats 4000000 in
theorem walkStepNestBack (a : Option Addr) (len cap : Nat) (zs : List Int) (w : World) (hn : zs.length = len) (hc : len ≤ cap) (hcc : cap ≤ maxLen) (h : Sees w w.heap.size a (byts zs)) (hz : ∀ y ∈ zs, 0 ≤ y ∧ y ≤ 255) :
    Calls Try.prog 10 #[.slice a len cap] w fun e w' => e = .returned (.bool true) ∧ Below w.heap.size w w' := by
  have HE := hid hn
  have HC := hid hcc
  have HZ := hid hz
  clear hn hcc hz
  by_cases hbig : 1048576 < len
  · go_enter Try.func10, Try.ntmps10
    go_wp2
    go_ret
    exact ⟨rfl, Below.refl _ _⟩
  · go_enter Try.func10, Try.ntmps10
    go_wp2_with fail
    refine (drawStepNest_any _ _ _ _ _ h HZ.out HE.out hc (by omega) HC.out).mono ?_
    rintro e w2 ⟨B, d, C, i, rfl, dl⟩
    have hs := dl.sees
    have HB2 := hid dl.bel
    have hB0 := Below.refl w2.heap.size w2
    obtain ⟨R, hR⟩ : ∃ R, R = stepS C i := ⟨_, rfl⟩
    have ER : Hid (stepS C i = R) := hid hR.symm
    have HRl := hid (show R.m.length ≤ 4194304 by rw [hR]; exact Nat.le_trans (stepS_len C i) (by decide))
    have HR := hid hR
    clear hR
    obtain ⟨K, hK⟩ : ∃ K, K = stepB C i := ⟨_, rfl⟩
    have EK : Hid (stepB C i = K) := hid hK.symm
    have HK := hid hK
    clear hK
    have HBK := hid (fun (h : Ok C) (e : stepB C 0 = true) => back_law h e)
    have HNO := hid (fun (h : Ok C) (e : stepB C 0 = false) => open_no h e)
    rcases hv : nestB C with _ | _
    · skip
      have HV := hid hv
      clear hv
      have hB1 := hB0.alloc hB0.size (.cells #[.int .i64 C.d, .int .i64 C.w, .slice B C.m.length d, .bool C.b] 27)
      clear hB0
      have xa2 : At (w2.alloc (.cells #[.int .i64 C.d, .int .i64 C.w, .slice B C.m.length d, .bool C.b] 27)) (w2.heap.size) 27 #[.int .i64 C.d, .int .i64 C.w, .slice B C.m.length d, .bool C.b] := At.newAt _ _ (by first | rfl | (simp; done) | (simp; omega))
      obtain ⟨xa_0, xa_1, xa_2, xa_3, xa_l, xa_f⟩ := (⟨xa2.cell 0, xa2.cell 1, xa2.cell 2, xa2.cell 3, xa2.lt, xa2.frozen⟩ : _ ∧ _ ∧ _ ∧ _ ∧ _ ∧ _)
      go_wp2_with fail
      refine (iStepNest_any C i B d _ (hs.on hB1) dl.cap dl.n4).mono ?_
      rintro e w3 ⟨A3, c3, he, ho3, hb3⟩
      rw [ER.out, EK.out] at he
      rw [ER.out] at ho3
      subst he
      have sz3 : w2.heap.size + 1 ≤ w3.heap.size := Nat.le_trans (by first | exact Nat.le_refl _ | (simp; done) | (simp; omega)) (hb3.size)
      have hB3 := hB1.trans (hb3.mono hB1.size)
      have xa4 := xa2.below hb3 xa2.lt
      clear hB1 xa2
      clear xa_0 xa_1 xa_2 xa_3 xa_l xa_f
      have oR15 : OwnM w3 w2.heap.size A3 c3 R := OwnM.mono ho3 (by first | omega | (simp; omega) | (simp; done))
      clear ho3
      have hB6 := hB3.alloc hB3.size (.cells #[.int .i64 R.d, .int .i64 R.w, .slice A3 R.m.length c3, .bool R.b] 27)
      have xa7 := xa4.alloc (.cells #[.int .i64 R.d, .int .i64 R.w, .slice A3 R.m.length c3, .bool R.b] 27)
      have oR18 := oR15.alloc (.cells #[.int .i64 R.d, .int .i64 R.w, .slice A3 R.m.length c3, .bool R.b] 27)
      clear hB3 xa4 oR15
      have xb9 : At (w3.alloc (.cells #[.int .i64 R.d, .int .i64 R.w, .slice A3 R.m.length c3, .bool R.b] 27)) (w3.heap.size) 27 #[.int .i64 R.d, .int .i64 R.w, .slice A3 R.m.length c3, .bool R.b] := At.newAt _ _ (by first | rfl | (simp; done) | (simp; omega))
      obtain ⟨xa_0, xa_1, xa_2, xa_3, xa_l, xa_f⟩ := (⟨xa7.cell 0, xa7.cell 1, xa7.cell 2, xa7.cell 3, xa7.lt, xa7.frozen⟩ : _ ∧ _ ∧ _ ∧ _ ∧ _ ∧ _)
      obtain ⟨xb_0, xb_1, xb_2, xb_3, xb_l, xb_f⟩ := (⟨xb9.cell 0, xb9.cell 1, xb9.cell 2, xb9.cell 3, xb9.lt, xb9.frozen⟩ : _ ∧ _ ∧ _ ∧ _ ∧ _ ∧ _)
      go_wp2_with fail
      refine (sStepNest_any C i B d _ (hs.on hB6) dl.cap dl.n4).mono ?_
      rintro e w4 ⟨A4, c4, he, ho4, hb4⟩
      rw [ER.out, EK.out] at he
      rw [ER.out] at ho4
      subst he
      have sz4 : w3.heap.size + 1 ≤ w4.heap.size := Nat.le_trans (by first | exact Nat.le_refl _ | (simp; done) | (simp; omega)) (hb4.size)
      have hB10 := hB6.trans (hb4.mono hB6.size)
      have xa11 := xa7.below hb4 xa7.lt
      have oR112 := oR18.below hb4
      have xb13 := xb9.below hb4 xb9.lt
      clear hB6 xa7 oR18 xb9
      clear xa_0 xa_1 xa_2 xa_3 xa_l xa_f xb_0 xb_1 xb_2 xb_3 xb_l xb_f
      have oR214 : OwnM w4 w2.heap.size A4 c4 R := OwnM.mono ho4 (by first | omega | (simp; omega) | (simp; done))
      clear ho4
      have hB15 := hB10.alloc hB10.size (.cells #[.int .i64 R.d, .int .i64 R.w, .slice A4 R.m.length c4, .bool R.b] 27)
      have xa16 := xa11.alloc (.cells #[.int .i64 R.d, .int .i64 R.w, .slice A4 R.m.length c4, .bool R.b] 27)
      have oR117 := oR112.alloc (.cells #[.int .i64 R.d, .int .i64 R.w, .slice A4 R.m.length c4, .bool R.b] 27)
      have xb18 := xb13.alloc (.cells #[.int .i64 R.d, .int .i64 R.w, .slice A4 R.m.length c4, .bool R.b] 27)
      have oR219 := oR214.alloc (.cells #[.int .i64 R.d, .int .i64 R.w, .slice A4 R.m.length c4, .bool R.b] 27)
      clear hB10 xa11 oR112 xb13 oR214
      have xc20 : At (w4.alloc (.cells #[.int .i64 R.d, .int .i64 R.w, .slice A4 R.m.length c4, .bool R.b] 27)) (w4.heap.size) 27 #[.int .i64 R.d, .int .i64 R.w, .slice A4 R.m.length c4, .bool R.b] := At.newAt _ _ (by first | rfl | (simp; done) | (simp; omega))
      obtain ⟨xa_0, xa_1, xa_2, xa_3, xa_l, xa_f⟩ := (⟨xa16.cell 0, xa16.cell 1, xa16.cell 2, xa16.cell 3, xa16.lt, xa16.frozen⟩ : _ ∧ _ ∧ _ ∧ _ ∧ _ ∧ _)
      obtain ⟨xb_0, xb_1, xb_2, xb_3, xb_l, xb_f⟩ := (⟨xb18.cell 0, xb18.cell 1, xb18.cell 2, xb18.cell 3, xb18.lt, xb18.frozen⟩ : _ ∧ _ ∧ _ ∧ _ ∧ _ ∧ _)
      obtain ⟨xc_0, xc_1, xc_2, xc_3, xc_l, xc_f⟩ := (⟨xc20.cell 0, xc20.cell 1, xc20.cell 2, xc20.cell 3, xc20.lt, xc20.frozen⟩ : _ ∧ _ ∧ _ ∧ _ ∧ _ ∧ _)
      go_wp2_with fail
      with_reducible refine (equalNest_same A3 A4 c3 c4 R _ oR117.sees oR219.sees HRl.out).mono ?_
      rintro e w5 ⟨rfl, hb5⟩
      have sz5 : w4.heap.size + 1 ≤ w5.heap.size := Nat.le_trans (by first | exact Nat.le_refl _ | (simp; done) | (simp; omega)) (hb5.size)
      have hB21 := hB15.trans (hb5.mono hB15.size)
      have xa22 := xa16.below hb5 xa16.lt
      have oR123 := oR117.below hb5
      have xb24 := xb18.below hb5 xb18.lt
      have oR225 := oR219.below hb5
      have xc26 := xc20.below hb5 xc20.lt
      clear hB15 xa16 oR117 xb18 oR219 xc20
      clear xa_0 xa_1 xa_2 xa_3 xa_l xa_f xb_0 xb_1 xb_2 xb_3 xb_l xb_f xc_0 xc_1 xc_2 xc_3 xc_l xc_f
      obtain ⟨xa_0, xa_1, xa_2, xa_3, xa_l, xa_f⟩ := (⟨xa22.cell 0, xa22.cell 1, xa22.cell 2, xa22.cell 3, xa22.lt, xa22.frozen⟩ : _ ∧ _ ∧ _ ∧ _ ∧ _ ∧ _)
      obtain ⟨xb_0, xb_1, xb_2, xb_3, xb_l, xb_f⟩ := (⟨xb24.cell 0, xb24.cell 1, xb24.cell 2, xb24.cell 3, xb24.lt, xb24.frozen⟩ : _ ∧ _ ∧ _ ∧ _ ∧ _ ∧ _)
      obtain ⟨xc_0, xc_1, xc_2, xc_3, xc_l, xc_f⟩ := (⟨xc26.cell 0, xc26.cell 1, xc26.cell 2, xc26.cell 3, xc26.lt, xc26.frozen⟩ : _ ∧ _ ∧ _ ∧ _ ∧ _ ∧ _)
      go_wp2_with fail
      with_reducible refine (iValidNest_any C B d _ (hs.on hB21) dl.cap dl.n4).mono ?_
      rintro e w6 ⟨he, hb6⟩
      rw [HV.out] at he
      subst he
      have sz6 : w5.heap.size ≤ w6.heap.size := Nat.le_trans (by first | exact Nat.le_refl _ | (simp; done) | (simp; omega)) (hb6.size)
      have hB27 := hB21.trans (hb6.mono hB21.size)
      have xa28 := xa22.below hb6 xa22.lt
      have oR129 := oR123.below hb6
      have xb30 := xb24.below hb6 xb24.lt
      have oR231 := oR225.below hb6
      have xc32 := xc26.below hb6 xc26.lt
      clear hB21 xa22 oR123 xb24 oR225 xc26
      clear xa_0 xa_1 xa_2 xa_3 xa_l xa_f xb_0 xb_1 xb_2 xb_3 xb_l xb_f xc_0 xc_1 xc_2 xc_3 xc_l xc_f
      obtain ⟨xa_0, xa_1, xa_2, xa_3, xa_l, xa_f⟩ := (⟨xa28.cell 0, xa28.cell 1, xa28.cell 2, xa28.cell 3, xa28.lt, xa28.frozen⟩ : _ ∧ _ ∧ _ ∧ _ ∧ _ ∧ _)
      obtain ⟨xb_0, xb_1, xb_2, xb_3, xb_l, xb_f⟩ := (⟨xb30.cell 0, xb30.cell 1, xb30.cell 2, xb30.cell 3, xb30.lt, xb30.frozen⟩ : _ ∧ _ ∧ _ ∧ _ ∧ _ ∧ _)
      obtain ⟨xc_0, xc_1, xc_2, xc_3, xc_l, xc_f⟩ := (⟨xc32.cell 0, xc32.cell 1, xc32.cell 2, xc32.cell 3, xc32.lt, xc32.frozen⟩ : _ ∧ _ ∧ _ ∧ _ ∧ _ ∧ _)
      go_wp2_with fail
      with_reducible refine (equalNest_same A3 A4 c3 c4 R _ oR129.sees oR231.sees HRl.out).mono ?_
      rintro e w7 ⟨rfl, hb7⟩
      have sz7 : w6.heap.size ≤ w7.heap.size := Nat.le_trans (by first | exact Nat.le_refl _ | (simp; done) | (simp; omega)) (hb7.size)
      have hB33 := hB27.trans (hb7.mono hB27.size)
      have xa34 := xa28.below hb7 xa28.lt
      have oR135 := oR129.below hb7
      have xb36 := xb30.below hb7 xb30.lt
      have oR237 := oR231.below hb7
      have xc38 := xc32.below hb7 xc32.lt
      clear hB27 xa28 oR129 xb30 oR231 xc32
      clear xa_0 xa_1 xa_2 xa_3 xa_l xa_f xb_0 xb_1 xb_2 xb_3 xb_l xb_f xc_0 xc_1 xc_2 xc_3 xc_l xc_f
      obtain ⟨xa_0, xa_1, xa_2, xa_3, xa_l, xa_f⟩ := (⟨xa34.cell 0, xa34.cell 1, xa34.cell 2, xa34.cell 3, xa34.lt, xa34.frozen⟩ : _ ∧ _ ∧ _ ∧ _ ∧ _ ∧ _)
      obtain ⟨xb_0, xb_1, xb_2, xb_3, xb_l, xb_f⟩ := (⟨xb36.cell 0, xb36.cell 1, xb36.cell 2, xb36.cell 3, xb36.lt, xb36.frozen⟩ : _ ∧ _ ∧ _ ∧ _ ∧ _ ∧ _)
      obtain ⟨xc_0, xc_1, xc_2, xc_3, xc_l, xc_f⟩ := (⟨xc38.cell 0, xc38.cell 1, xc38.cell 2, xc38.cell 3, xc38.lt, xc38.frozen⟩ : _ ∧ _ ∧ _ ∧ _ ∧ _ ∧ _)
      go_wp2
      go_ret
      exact ⟨by first | rfl | (simp; done) | (simp; omega), HB2.out.trans (hB33.mono HB2.out.size)⟩
    · skip
      have hok := nestB_iff.1 hv
      have HV := hid hv
      clear hv
      obtain ⟨O, hO⟩ : ∃ O, O = stepS C 0 := ⟨_, rfl⟩
      have EO : Hid (stepS C 0 = O) := hid hO.symm
      have HOl := hid (show O.m.length ≤ 4194304 by rw [hO]; exact Nat.le_trans (stepS_len C 0) (by decide))
      rcases hf : stepB C 0 with _ | _
      · skip
        have h4 := HNO.out hok hf
        have EF := hid hf
        rcases (by cases C.b <;> simp : C.b = false ∨ C.b = true) with hcb | hcb
        · skip
          have h4b : (C.d == 4) = true := by rw [hcb] at h4; simpa using h4
          have HCB := hid hcb
          clear hcb h4 hf hO hok
          have hB39 := hB0.alloc hB0.size (.cells #[.int .i64 C.d, .int .i64 C.w, .slice B C.m.length d, .bool C.b] 27)
          clear hB0
          have xa40 : At (w2.alloc (.cells #[.int .i64 C.d, .int .i64 C.w, .slice B C.m.length d, .bool C.b] 27)) (w2.heap.size) 27 #[.int .i64 C.d, .int .i64 C.w, .slice B C.m.length d, .bool C.b] := At.newAt _ _ (by first | rfl | (simp; done) | (simp; omega))
          obtain ⟨xa_0, xa_1, xa_2, xa_3, xa_l, xa_f⟩ := (⟨xa40.cell 0, xa40.cell 1, xa40.cell 2, xa40.cell 3, xa40.lt, xa40.frozen⟩ : _ ∧ _ ∧ _ ∧ _ ∧ _ ∧ _)
          go_wp2_with fail
          refine (iStepNest_any C i B d _ (hs.on hB39) dl.cap dl.n4).mono ?_
          rintro e w3 ⟨A3, c3, he, ho3, hb3⟩
          rw [ER.out, EK.out] at he
          rw [ER.out] at ho3
          subst he
          have sz3 : w2.heap.size + 1 ≤ w3.heap.size := Nat.le_trans (by first | exact Nat.le_refl _ | (simp; done) | (simp; omega)) (hb3.size)
          have hB41 := hB39.trans (hb3.mono hB39.size)
          have xa42 := xa40.below hb3 xa40.lt
          clear hB39 xa40
          clear xa_0 xa_1 xa_2 xa_3 xa_l xa_f
          have oR143 : OwnM w3 w2.heap.size A3 c3 R := OwnM.mono ho3 (by first | omega | (simp; omega) | (simp; done))
          clear ho3
          have hB44 := hB41.alloc hB41.size (.cells #[.int .i64 R.d, .int .i64 R.w, .slice A3 R.m.length c3, .bool R.b] 27)
          have xa45 := xa42.alloc (.cells #[.int .i64 R.d, .int .i64 R.w, .slice A3 R.m.length c3, .bool R.b] 27)
          have oR146 := oR143.alloc (.cells #[.int .i64 R.d, .int .i64 R.w, .slice A3 R.m.length c3, .bool R.b] 27)
          clear hB41 xa42 oR143
          have xb47 : At (w3.alloc (.cells #[.int .i64 R.d, .int .i64 R.w, .slice A3 R.m.length c3, .bool R.b] 27)) (w3.heap.size) 27 #[.int .i64 R.d, .int .i64 R.w, .slice A3 R.m.length c3, .bool R.b] := At.newAt _ _ (by first | rfl | (simp; done) | (simp; omega))
          obtain ⟨xa_0, xa_1, xa_2, xa_3, xa_l, xa_f⟩ := (⟨xa45.cell 0, xa45.cell 1, xa45.cell 2, xa45.cell 3, xa45.lt, xa45.frozen⟩ : _ ∧ _ ∧ _ ∧ _ ∧ _ ∧ _)
          obtain ⟨xb_0, xb_1, xb_2, xb_3, xb_l, xb_f⟩ := (⟨xb47.cell 0, xb47.cell 1, xb47.cell 2, xb47.cell 3, xb47.lt, xb47.frozen⟩ : _ ∧ _ ∧ _ ∧ _ ∧ _ ∧ _)
          go_wp2_with fail
          refine (sStepNest_any C i B d _ (hs.on hB44) dl.cap dl.n4).mono ?_
          rintro e w4 ⟨A4, c4, he, ho4, hb4⟩
          rw [ER.out, EK.out] at he
          rw [ER.out] at ho4
          subst he
          have sz4 : w3.heap.size + 1 ≤ w4.heap.size := Nat.le_trans (by first | exact Nat.le_refl _ | (simp; done) | (simp; omega)) (hb4.size)
          have hB48 := hB44.trans (hb4.mono hB44.size)
          have xa49 := xa45.below hb4 xa45.lt
          have oR150 := oR146.below hb4
          have xb51 := xb47.below hb4 xb47.lt
          clear hB44 xa45 oR146 xb47
          clear xa_0 xa_1 xa_2 xa_3 xa_l xa_f xb_0 xb_1 xb_2 xb_3 xb_l xb_f
          have oR252 : OwnM w4 w2.heap.size A4 c4 R := OwnM.mono ho4 (by first | omega | (simp; omega) | (simp; done))
          clear ho4
          have hB53 := hB48.alloc hB48.size (.cells #[.int .i64 R.d, .int .i64 R.w, .slice A4 R.m.length c4, .bool R.b] 27)
          have xa54 := xa49.alloc (.cells #[.int .i64 R.d, .int .i64 R.w, .slice A4 R.m.length c4, .bool R.b] 27)
          have oR155 := oR150.alloc (.cells #[.int .i64 R.d, .int .i64 R.w, .slice A4 R.m.length c4, .bool R.b] 27)
          have xb56 := xb51.alloc (.cells #[.int .i64 R.d, .int .i64 R.w, .slice A4 R.m.length c4, .bool R.b] 27)
          have oR257 := oR252.alloc (.cells #[.int .i64 R.d, .int .i64 R.w, .slice A4 R.m.length c4, .bool R.b] 27)
          clear hB48 xa49 oR150 xb51 oR252
          have xc58 : At (w4.alloc (.cells #[.int .i64 R.d, .int .i64 R.w, .slice A4 R.m.length c4, .bool R.b] 27)) (w4.heap.size) 27 #[.int .i64 R.d, .int .i64 R.w, .slice A4 R.m.length c4, .bool R.b] := At.newAt _ _ (by first | rfl | (simp; done) | (simp; omega))
          obtain ⟨xa_0, xa_1, xa_2, xa_3, xa_l, xa_f⟩ := (⟨xa54.cell 0, xa54.cell 1, xa54.cell 2, xa54.cell 3, xa54.lt, xa54.frozen⟩ : _ ∧ _ ∧ _ ∧ _ ∧ _ ∧ _)
          obtain ⟨xb_0, xb_1, xb_2, xb_3, xb_l, xb_f⟩ := (⟨xb56.cell 0, xb56.cell 1, xb56.cell 2, xb56.cell 3, xb56.lt, xb56.frozen⟩ : _ ∧ _ ∧ _ ∧ _ ∧ _ ∧ _)
          obtain ⟨xc_0, xc_1, xc_2, xc_3, xc_l, xc_f⟩ := (⟨xc58.cell 0, xc58.cell 1, xc58.cell 2, xc58.cell 3, xc58.lt, xc58.frozen⟩ : _ ∧ _ ∧ _ ∧ _ ∧ _ ∧ _)
          go_wp2_with fail
          with_reducible refine (equalNest_same A3 A4 c3 c4 R _ oR155.sees oR257.sees HRl.out).mono ?_
          rintro e w5 ⟨rfl, hb5⟩
          have sz5 : w4.heap.size + 1 ≤ w5.heap.size := Nat.le_trans (by first | exact Nat.le_refl _ | (simp; done) | (simp; omega)) (hb5.size)
          have hB59 := hB53.trans (hb5.mono hB53.size)
          have xa60 := xa54.below hb5 xa54.lt
          have oR161 := oR155.below hb5
          have xb62 := xb56.below hb5 xb56.lt
          have oR263 := oR257.below hb5
          have xc64 := xc58.below hb5 xc58.lt
          clear hB53 xa54 oR155 xb56 oR257 xc58
          clear xa_0 xa_1 xa_2 xa_3 xa_l xa_f xb_0 xb_1 xb_2 xb_3 xb_l xb_f xc_0 xc_1 xc_2 xc_3 xc_l xc_f
          obtain ⟨xa_0, xa_1, xa_2, xa_3, xa_l, xa_f⟩ := (⟨xa60.cell 0, xa60.cell 1, xa60.cell 2, xa60.cell 3, xa60.lt, xa60.frozen⟩ : _ ∧ _ ∧ _ ∧ _ ∧ _ ∧ _)
          obtain ⟨xb_0, xb_1, xb_2, xb_3, xb_l, xb_f⟩ := (⟨xb62.cell 0, xb62.cell 1, xb62.cell 2, xb62.cell 3, xb62.lt, xb62.frozen⟩ : _ ∧ _ ∧ _ ∧ _ ∧ _ ∧ _)
          obtain ⟨xc_0, xc_1, xc_2, xc_3, xc_l, xc_f⟩ := (⟨xc64.cell 0, xc64.cell 1, xc64.cell 2, xc64.cell 3, xc64.lt, xc64.frozen⟩ : _ ∧ _ ∧ _ ∧ _ ∧ _ ∧ _)
          go_wp2_with fail
          with_reducible refine (iValidNest_any C B d _ (hs.on hB59) dl.cap dl.n4).mono ?_
          rintro e w6 ⟨he, hb6⟩
          rw [HV.out] at he
          subst he
          have sz6 : w5.heap.size ≤ w6.heap.size := Nat.le_trans (by first | exact Nat.le_refl _ | (simp; done) | (simp; omega)) (hb6.size)
          have hB65 := hB59.trans (hb6.mono hB59.size)
          have xa66 := xa60.below hb6 xa60.lt
          have oR167 := oR161.below hb6
          have xb68 := xb62.below hb6 xb62.lt
          have oR269 := oR263.below hb6
          have xc70 := xc64.below hb6 xc64.lt
          clear hB59 xa60 oR161 xb62 oR263 xc64
          clear xa_0 xa_1 xa_2 xa_3 xa_l xa_f xb_0 xb_1 xb_2 xb_3 xb_l xb_f xc_0 xc_1 xc_2 xc_3 xc_l xc_f
          obtain ⟨xa_0, xa_1, xa_2, xa_3, xa_l, xa_f⟩ := (⟨xa66.cell 0, xa66.cell 1, xa66.cell 2, xa66.cell 3, xa66.lt, xa66.frozen⟩ : _ ∧ _ ∧ _ ∧ _ ∧ _ ∧ _)
          obtain ⟨xb_0, xb_1, xb_2, xb_3, xb_l, xb_f⟩ := (⟨xb68.cell 0, xb68.cell 1, xb68.cell 2, xb68.cell 3, xb68.lt, xb68.frozen⟩ : _ ∧ _ ∧ _ ∧ _ ∧ _ ∧ _)
          obtain ⟨xc_0, xc_1, xc_2, xc_3, xc_l, xc_f⟩ := (⟨xc70.cell 0, xc70.cell 1, xc70.cell 2, xc70.cell 3, xc70.lt, xc70.frozen⟩ : _ ∧ _ ∧ _ ∧ _ ∧ _ ∧ _)
          go_wp2_with fail
          refine (iStepNest_any C 0 B d _ (hs.on hB65) dl.cap dl.n4).mono ?_
          rintro e w7 ⟨A7, c7, he, ho7, hb7⟩
          rw [EO.out, EF.out] at he
          rw [EO.out] at ho7
          subst he
          have sz7 : w6.heap.size ≤ w7.heap.size := Nat.le_trans (by first | exact Nat.le_refl _ | (simp; done) | (simp; omega)) (hb7.size)
          have hB71 := hB65.trans (hb7.mono hB65.size)
          have xa72 := xa66.below hb7 xa66.lt
          have oR173 := oR167.below hb7
          have xb74 := xb68.below hb7 xb68.lt
          have oR275 := oR269.below hb7
          have xc76 := xc70.below hb7 xc70.lt
          clear hB65 xa66 oR167 xb68 oR269 xc70
          clear xa_0 xa_1 xa_2 xa_3 xa_l xa_f xb_0 xb_1 xb_2 xb_3 xb_l xb_f xc_0 xc_1 xc_2 xc_3 xc_l xc_f
          have oO177 : OwnM w7 w2.heap.size A7 c7 O := OwnM.mono ho7 (by first | omega | (simp; omega) | (simp; done))
          clear ho7
          have hB78 := hB71.alloc hB71.size (.cells #[.int .i64 O.d, .int .i64 O.w, .slice A7 O.m.length c7, .bool O.b] 27)
          have xa79 := xa72.alloc (.cells #[.int .i64 O.d, .int .i64 O.w, .slice A7 O.m.length c7, .bool O.b] 27)
          have oR180 := oR173.alloc (.cells #[.int .i64 O.d, .int .i64 O.w, .slice A7 O.m.length c7, .bool O.b] 27)
          have xb81 := xb74.alloc (.cells #[.int .i64 O.d, .int .i64 O.w, .slice A7 O.m.length c7, .bool O.b] 27)
          have oR282 := oR275.alloc (.cells #[.int .i64 O.d, .int .i64 O.w, .slice A7 O.m.length c7, .bool O.b] 27)
          have xc83 := xc76.alloc (.cells #[.int .i64 O.d, .int .i64 O.w, .slice A7 O.m.length c7, .bool O.b] 27)
          have oO184 := oO177.alloc (.cells #[.int .i64 O.d, .int .i64 O.w, .slice A7 O.m.length c7, .bool O.b] 27)
          clear hB71 xa72 oR173 xb74 oR275 xc76 oO177
          have xe85 : At (w7.alloc (.cells #[.int .i64 O.d, .int .i64 O.w, .slice A7 O.m.length c7, .bool O.b] 27)) (w7.heap.size) 27 #[.int .i64 O.d, .int .i64 O.w, .slice A7 O.m.length c7, .bool O.b] := At.newAt _ _ (by first | rfl | (simp; done) | (simp; omega))
          have hcbn := HCB.out
          obtain ⟨xa_0, xa_1, xa_2, xa_3, xa_l, xa_f⟩ := (⟨xa79.cell 0, xa79.cell 1, xa79.cell 2, xa79.cell 3, xa79.lt, xa79.frozen⟩ : _ ∧ _ ∧ _ ∧ _ ∧ _ ∧ _)
          obtain ⟨xb_0, xb_1, xb_2, xb_3, xb_l, xb_f⟩ := (⟨xb81.cell 0, xb81.cell 1, xb81.cell 2, xb81.cell 3, xb81.lt, xb81.frozen⟩ : _ ∧ _ ∧ _ ∧ _ ∧ _ ∧ _)
          obtain ⟨xc_0, xc_1, xc_2, xc_3, xc_l, xc_f⟩ := (⟨xc83.cell 0, xc83.cell 1, xc83.cell 2, xc83.cell 3, xc83.lt, xc83.frozen⟩ : _ ∧ _ ∧ _ ∧ _ ∧ _ ∧ _)
          obtain ⟨xe_0, xe_1, xe_2, xe_3, xe_l, xe_f⟩ := (⟨xe85.cell 0, xe85.cell 1, xe85.cell 2, xe85.cell 3, xe85.lt, xe85.frozen⟩ : _ ∧ _ ∧ _ ∧ _ ∧ _ ∧ _)
          go_wp2
          go_ret
          exact ⟨by first | rfl | (simp; done) | (simp; omega), HB2.out.trans (hB78.mono HB2.out.size)⟩
        · skip
          have HCB := hid hcb
          clear hcb h4 hf hO hok
          have hB86 := hB0.alloc hB0.size (.cells #[.int .i64 C.d, .int .i64 C.w, .slice B C.m.length d, .bool C.b] 27)
          clear hB0
          have xa87 : At (w2.alloc (.cells #[.int .i64 C.d, .int .i64 C.w, .slice B C.m.length d, .bool C.b] 27)) (w2.heap.size) 27 #[.int .i64 C.d, .int .i64 C.w, .slice B C.m.length d, .bool C.b] := At.newAt _ _ (by first | rfl | (simp; done) | (simp; omega))
          obtain ⟨xa_0, xa_1, xa_2, xa_3, xa_l, xa_f⟩ := (⟨xa87.cell 0, xa87.cell 1, xa87.cell 2, xa87.cell 3, xa87.lt, xa87.frozen⟩ : _ ∧ _ ∧ _ ∧ _ ∧ _ ∧ _)
          go_wp2_with fail
          refine (iStepNest_any C i B d _ (hs.on hB86) dl.cap dl.n4).mono ?_
          rintro e w3 ⟨A3, c3, he, ho3, hb3⟩
          rw [ER.out, EK.out] at he
          rw [ER.out] at ho3
          subst he
          have sz3 : w2.heap.size + 1 ≤ w3.heap.size := Nat.le_trans (by first | exact Nat.le_refl _ | (simp; done) | (simp; omega)) (hb3.size)
          have hB88 := hB86.trans (hb3.mono hB86.size)
          have xa89 := xa87.below hb3 xa87.lt
          clear hB86 xa87
          clear xa_0 xa_1 xa_2 xa_3 xa_l xa_f
          have oR190 : OwnM w3 w2.heap.size A3 c3 R := OwnM.mono ho3 (by first | omega | (simp; omega) | (simp; done))
          clear ho3
          have hB91 := hB88.alloc hB88.size (.cells #[.int .i64 R.d, .int .i64 R.w, .slice A3 R.m.length c3, .bool R.b] 27)
          have xa92 := xa89.alloc (.cells #[.int .i64 R.d, .int .i64 R.w, .slice A3 R.m.length c3, .bool R.b] 27)
          have oR193 := oR190.alloc (.cells #[.int .i64 R.d, .int .i64 R.w, .slice A3 R.m.length c3, .bool R.b] 27)
          clear hB88 xa89 oR190
          have xb94 : At (w3.alloc (.cells #[.int .i64 R.d, .int .i64 R.w, .slice A3 R.m.length c3, .bool R.b] 27)) (w3.heap.size) 27 #[.int .i64 R.d, .int .i64 R.w, .slice A3 R.m.length c3, .bool R.b] := At.newAt _ _ (by first | rfl | (simp; done) | (simp; omega))
          obtain ⟨xa_0, xa_1, xa_2, xa_3, xa_l, xa_f⟩ := (⟨xa92.cell 0, xa92.cell 1, xa92.cell 2, xa92.cell 3, xa92.lt, xa92.frozen⟩ : _ ∧ _ ∧ _ ∧ _ ∧ _ ∧ _)
          obtain ⟨xb_0, xb_1, xb_2, xb_3, xb_l, xb_f⟩ := (⟨xb94.cell 0, xb94.cell 1, xb94.cell 2, xb94.cell 3, xb94.lt, xb94.frozen⟩ : _ ∧ _ ∧ _ ∧ _ ∧ _ ∧ _)
          go_wp2_with fail
          refine (sStepNest_any C i B d _ (hs.on hB91) dl.cap dl.n4).mono ?_
          rintro e w4 ⟨A4, c4, he, ho4, hb4⟩
          rw [ER.out, EK.out] at he
          rw [ER.out] at ho4
          subst he
          have sz4 : w3.heap.size + 1 ≤ w4.heap.size := Nat.le_trans (by first | exact Nat.le_refl _ | (simp; done) | (simp; omega)) (hb4.size)
          have hB95 := hB91.trans (hb4.mono hB91.size)
          have xa96 := xa92.below hb4 xa92.lt
          have oR197 := oR193.below hb4
          have xb98 := xb94.below hb4 xb94.lt
          clear hB91 xa92 oR193 xb94
          clear xa_0 xa_1 xa_2 xa_3 xa_l xa_f xb_0 xb_1 xb_2 xb_3 xb_l xb_f
          have oR299 : OwnM w4 w2.heap.size A4 c4 R := OwnM.mono ho4 (by first | omega | (simp; omega) | (simp; done))
          clear ho4
          have hB100 := hB95.alloc hB95.size (.cells #[.int .i64 R.d, .int .i64 R.w, .slice A4 R.m.length c4, .bool R.b] 27)
          have xa101 := xa96.alloc (.cells #[.int .i64 R.d, .int .i64 R.w, .slice A4 R.m.length c4, .bool R.b] 27)
          have oR1102 := oR197.alloc (.cells #[.int .i64 R.d, .int .i64 R.w, .slice A4 R.m.length c4, .bool R.b] 27)
          have xb103 := xb98.alloc (.cells #[.int .i64 R.d, .int .i64 R.w, .slice A4 R.m.length c4, .bool R.b] 27)
          have oR2104 := oR299.alloc (.cells #[.int .i64 R.d, .int .i64 R.w, .slice A4 R.m.length c4, .bool R.b] 27)
          clear hB95 xa96 oR197 xb98 oR299
          have xc105 : At (w4.alloc (.cells #[.int .i64 R.d, .int .i64 R.w, .slice A4 R.m.length c4, .bool R.b] 27)) (w4.heap.size) 27 #[.int .i64 R.d, .int .i64 R.w, .slice A4 R.m.length c4, .bool R.b] := At.newAt _ _ (by first | rfl | (simp; done) | (simp; omega))
          obtain ⟨xa_0, xa_1, xa_2, xa_3, xa_l, xa_f⟩ := (⟨xa101.cell 0, xa101.cell 1, xa101.cell 2, xa101.cell 3, xa101.lt, xa101.frozen⟩ : _ ∧ _ ∧ _ ∧ _ ∧ _ ∧ _)
          obtain ⟨xb_0, xb_1, xb_2, xb_3, xb_l, xb_f⟩ := (⟨xb103.cell 0, xb103.cell 1, xb103.cell 2, xb103.cell 3, xb103.lt, xb103.frozen⟩ : _ ∧ _ ∧ _ ∧ _ ∧ _ ∧ _)
          obtain ⟨xc_0, xc_1, xc_2, xc_3, xc_l, xc_f⟩ := (⟨xc105.cell 0, xc105.cell 1, xc105.cell 2, xc105.cell 3, xc105.lt, xc105.frozen⟩ : _ ∧ _ ∧ _ ∧ _ ∧ _ ∧ _)
          go_wp2_with fail
          with_reducible refine (equalNest_same A3 A4 c3 c4 R _ oR1102.sees oR2104.sees HRl.out).mono ?_
          rintro e w5 ⟨rfl, hb5⟩
          have sz5 : w4.heap.size + 1 ≤ w5.heap.size := Nat.le_trans (by first | exact Nat.le_refl _ | (simp; done) | (simp; omega)) (hb5.size)
          have hB106 := hB100.trans (hb5.mono hB100.size)
          have xa107 := xa101.below hb5 xa101.lt
          have oR1108 := oR1102.below hb5
          have xb109 := xb103.below hb5 xb103.lt
          have oR2110 := oR2104.below hb5
          have xc111 := xc105.below hb5 xc105.lt
          clear hB100 xa101 oR1102 xb103 oR2104 xc105
          clear xa_0 xa_1 xa_2 xa_3 xa_l xa_f xb_0 xb_1 xb_2 xb_3 xb_l xb_f xc_0 xc_1 xc_2 xc_3 xc_l xc_f
          obtain ⟨xa_0, xa_1, xa_2, xa_3, xa_l, xa_f⟩ := (⟨xa107.cell 0, xa107.cell 1, xa107.cell 2, xa107.cell 3, xa107.lt, xa107.frozen⟩ : _ ∧ _ ∧ _ ∧ _ ∧ _ ∧ _)
          obtain ⟨xb_0, xb_1, xb_2, xb_3, xb_l, xb_f⟩ := (⟨xb109.cell 0, xb109.cell 1, xb109.cell 2, xb109.cell 3, xb109.lt, xb109.frozen⟩ : _ ∧ _ ∧ _ ∧ _ ∧ _ ∧ _)
          obtain ⟨xc_0, xc_1, xc_2, xc_3, xc_l, xc_f⟩ := (⟨xc111.cell 0, xc111.cell 1, xc111.cell 2, xc111.cell 3, xc111.lt, xc111.frozen⟩ : _ ∧ _ ∧ _ ∧ _ ∧ _ ∧ _)
          go_wp2_with fail
          with_reducible refine (iValidNest_any C B d _ (hs.on hB106) dl.cap dl.n4).mono ?_
          rintro e w6 ⟨he, hb6⟩
          rw [HV.out] at he
          subst he
          have sz6 : w5.heap.size ≤ w6.heap.size := Nat.le_trans (by first | exact Nat.le_refl _ | (simp; done) | (simp; omega)) (hb6.size)
          have hB112 := hB106.trans (hb6.mono hB106.size)
          have xa113 := xa107.below hb6 xa107.lt
          have oR1114 := oR1108.below hb6
          have xb115 := xb109.below hb6 xb109.lt
          have oR2116 := oR2110.below hb6
          have xc117 := xc111.below hb6 xc111.lt
          clear hB106 xa107 oR1108 xb109 oR2110 xc111
          clear xa_0 xa_1 xa_2 xa_3 xa_l xa_f xb_0 xb_1 xb_2 xb_3 xb_l xb_f xc_0 xc_1 xc_2 xc_3 xc_l xc_f
          obtain ⟨xa_0, xa_1, xa_2, xa_3, xa_l, xa_f⟩ := (⟨xa113.cell 0, xa113.cell 1, xa113.cell 2, xa113.cell 3, xa113.lt, xa113.frozen⟩ : _ ∧ _ ∧ _ ∧ _ ∧ _ ∧ _)
          obtain ⟨xb_0, xb_1, xb_2, xb_3, xb_l, xb_f⟩ := (⟨xb115.cell 0, xb115.cell 1, xb115.cell 2, xb115.cell 3, xb115.lt, xb115.frozen⟩ : _ ∧ _ ∧ _ ∧ _ ∧ _ ∧ _)
          obtain ⟨xc_0, xc_1, xc_2, xc_3, xc_l, xc_f⟩ := (⟨xc117.cell 0, xc117.cell 1, xc117.cell 2, xc117.cell 3, xc117.lt, xc117.frozen⟩ : _ ∧ _ ∧ _ ∧ _ ∧ _ ∧ _)
          go_wp2_with fail
          refine (iStepNest_any C 0 B d _ (hs.on hB112) dl.cap dl.n4).mono ?_
          rintro e w7 ⟨A7, c7, he, ho7, hb7⟩
          rw [EO.out, EF.out] at he
          rw [EO.out] at ho7
          subst he
          have sz7 : w6.heap.size ≤ w7.heap.size := Nat.le_trans (by first | exact Nat.le_refl _ | (simp; done) | (simp; omega)) (hb7.size)
          have hB118 := hB112.trans (hb7.mono hB112.size)
          have xa119 := xa113.below hb7 xa113.lt
          have oR1120 := oR1114.below hb7
          have xb121 := xb115.below hb7 xb115.lt
          have oR2122 := oR2116.below hb7
          have xc123 := xc117.below hb7 xc117.lt
          clear hB112 xa113 oR1114 xb115 oR2116 xc117
          clear xa_0 xa_1 xa_2 xa_3 xa_l xa_f xb_0 xb_1 xb_2 xb_3 xb_l xb_f xc_0 xc_1 xc_2 xc_3 xc_l xc_f
          have oO1124 : OwnM w7 w2.heap.size A7 c7 O := OwnM.mono ho7 (by first | omega | (simp; omega) | (simp; done))
          clear ho7
          have hB125 := hB118.alloc hB118.size (.cells #[.int .i64 O.d, .int .i64 O.w, .slice A7 O.m.length c7, .bool O.b] 27)
          have xa126 := xa119.alloc (.cells #[.int .i64 O.d, .int .i64 O.w, .slice A7 O.m.length c7, .bool O.b] 27)
          have oR1127 := oR1120.alloc (.cells #[.int .i64 O.d, .int .i64 O.w, .slice A7 O.m.length c7, .bool O.b] 27)
          have xb128 := xb121.alloc (.cells #[.int .i64 O.d, .int .i64 O.w, .slice A7 O.m.length c7, .bool O.b] 27)
          have oR2129 := oR2122.alloc (.cells #[.int .i64 O.d, .int .i64 O.w, .slice A7 O.m.length c7, .bool O.b] 27)
          have xc130 := xc123.alloc (.cells #[.int .i64 O.d, .int .i64 O.w, .slice A7 O.m.length c7, .bool O.b] 27)
          have oO1131 := oO1124.alloc (.cells #[.int .i64 O.d, .int .i64 O.w, .slice A7 O.m.length c7, .bool O.b] 27)
          clear hB118 xa119 oR1120 xb121 oR2122 xc123 oO1124
          have xe132 : At (w7.alloc (.cells #[.int .i64 O.d, .int .i64 O.w, .slice A7 O.m.length c7, .bool O.b] 27)) (w7.heap.size) 27 #[.int .i64 O.d, .int .i64 O.w, .slice A7 O.m.length c7, .bool O.b] := At.newAt _ _ (by first | rfl | (simp; done) | (simp; omega))
          have hcbn := HCB.out
          obtain ⟨xa_0, xa_1, xa_2, xa_3, xa_l, xa_f⟩ := (⟨xa126.cell 0, xa126.cell 1, xa126.cell 2, xa126.cell 3, xa126.lt, xa126.frozen⟩ : _ ∧ _ ∧ _ ∧ _ ∧ _ ∧ _)
          obtain ⟨xb_0, xb_1, xb_2, xb_3, xb_l, xb_f⟩ := (⟨xb128.cell 0, xb128.cell 1, xb128.cell 2, xb128.cell 3, xb128.lt, xb128.frozen⟩ : _ ∧ _ ∧ _ ∧ _ ∧ _ ∧ _)
          obtain ⟨xc_0, xc_1, xc_2, xc_3, xc_l, xc_f⟩ := (⟨xc130.cell 0, xc130.cell 1, xc130.cell 2, xc130.cell 3, xc130.lt, xc130.frozen⟩ : _ ∧ _ ∧ _ ∧ _ ∧ _ ∧ _)
          obtain ⟨xe_0, xe_1, xe_2, xe_3, xe_l, xe_f⟩ := (⟨xe132.cell 0, xe132.cell 1, xe132.cell 2, xe132.cell 3, xe132.lt, xe132.frozen⟩ : _ ∧ _ ∧ _ ∧ _ ∧ _ ∧ _)
          go_wp2
          go_ret
          exact ⟨by first | rfl | (simp; done) | (simp; omega), HB2.out.trans (hB125.mono HB2.out.size)⟩
      · skip
        obtain ⟨l1, l2, l3⟩ := HBK.out hok hf
        have EF := hid hf
        rw [← stepS_yes hf, ← hO] at l1 l2 l3
        obtain ⟨W, hW⟩ : ∃ W, W = stepS O 1 := ⟨_, rfl⟩
        have EW : Hid (stepS O 1 = W) := hid hW.symm
        have HWl := hid (show W.m.length ≤ 4194304 by rw [hW]; exact Nat.le_trans (stepS_len O 1) (by decide))
        rcases hg1 : stepB O 1 with _ | _
        · skip
          have EG := hid hg1
          have EL := hid l2
          have EB := hid ((stepS_yes l2).trans l3)
          clear hg1 l1 l2 l3 hW hf hO hok
          have hB133 := hB0.alloc hB0.size (.cells #[.int .i64 C.d, .int .i64 C.w, .slice B C.m.length d, .bool C.b] 27)
          clear hB0
          have xa134 : At (w2.alloc (.cells #[.int .i64 C.d, .int .i64 C.w, .slice B C.m.length d, .bool C.b] 27)) (w2.heap.size) 27 #[.int .i64 C.d, .int .i64 C.w, .slice B C.m.length d, .bool C.b] := At.newAt _ _ (by first | rfl | (simp; done) | (simp; omega))
          obtain ⟨xa_0, xa_1, xa_2, xa_3, xa_l, xa_f⟩ := (⟨xa134.cell 0, xa134.cell 1, xa134.cell 2, xa134.cell 3, xa134.lt, xa134.frozen⟩ : _ ∧ _ ∧ _ ∧ _ ∧ _ ∧ _)
          go_wp2_with fail
          refine (iStepNest_any C i B d _ (hs.on hB133) dl.cap dl.n4).mono ?_
          rintro e w3 ⟨A3, c3, he, ho3, hb3⟩
          rw [ER.out, EK.out] at he
          rw [ER.out] at ho3
          subst he
          have sz3 : w2.heap.size + 1 ≤ w3.heap.size := Nat.le_trans (by first | exact Nat.le_refl _ | (simp; done) | (simp; omega)) (hb3.size)
          have hB135 := hB133.trans (hb3.mono hB133.size)
          have xa136 := xa134.below hb3 xa134.lt
          clear hB133 xa134
          clear xa_0 xa_1 xa_2 xa_3 xa_l xa_f
          have oR1137 : OwnM w3 w2.heap.size A3 c3 R := OwnM.mono ho3 (by first | omega | (simp; omega) | (simp; done))
          clear ho3
          have hB138 := hB135.alloc hB135.size (.cells #[.int .i64 R.d, .int .i64 R.w, .slice A3 R.m.length c3, .bool R.b] 27)
          have xa139 := xa136.alloc (.cells #[.int .i64 R.d, .int .i64 R.w, .slice A3 R.m.length c3, .bool R.b] 27)
          have oR1140 := oR1137.alloc (.cells #[.int .i64 R.d, .int .i64 R.w, .slice A3 R.m.length c3, .bool R.b] 27)
          clear hB135 xa136 oR1137
          have xb141 : At (w3.alloc (.cells #[.int .i64 R.d, .int .i64 R.w, .slice A3 R.m.length c3, .bool R.b] 27)) (w3.heap.size) 27 #[.int .i64 R.d, .int .i64 R.w, .slice A3 R.m.length c3, .bool R.b] := At.newAt _ _ (by first | rfl | (simp; done) | (simp; omega))
          obtain ⟨xa_0, xa_1, xa_2, xa_3, xa_l, xa_f⟩ := (⟨xa139.cell 0, xa139.cell 1, xa139.cell 2, xa139.cell 3, xa139.lt, xa139.frozen⟩ : _ ∧ _ ∧ _ ∧ _ ∧ _ ∧ _)
          obtain ⟨xb_0, xb_1, xb_2, xb_3, xb_l, xb_f⟩ := (⟨xb141.cell 0, xb141.cell 1, xb141.cell 2, xb141.cell 3, xb141.lt, xb141.frozen⟩ : _ ∧ _ ∧ _ ∧ _ ∧ _ ∧ _)
          go_wp2_with fail
          refine (sStepNest_any C i B d _ (hs.on hB138) dl.cap dl.n4).mono ?_
          rintro e w4 ⟨A4, c4, he, ho4, hb4⟩
          rw [ER.out, EK.out] at he
          rw [ER.out] at ho4
          subst he
          have sz4 : w3.heap.size + 1 ≤ w4.heap.size := Nat.le_trans (by first | exact Nat.le_refl _ | (simp; done) | (simp; omega)) (hb4.size)
          have hB142 := hB138.trans (hb4.mono hB138.size)
          have xa143 := xa139.below hb4 xa139.lt
          have oR1144 := oR1140.below hb4
          have xb145 := xb141.below hb4 xb141.lt
          clear hB138 xa139 oR1140 xb141
          clear xa_0 xa_1 xa_2 xa_3 xa_l xa_f xb_0 xb_1 xb_2 xb_3 xb_l xb_f
          have oR2146 : OwnM w4 w2.heap.size A4 c4 R := OwnM.mono ho4 (by first | omega | (simp; omega) | (simp; done))
          clear ho4
          have hB147 := hB142.alloc hB142.size (.cells #[.int .i64 R.d, .int .i64 R.w, .slice A4 R.m.length c4, .bool R.b] 27)
          have xa148 := xa143.alloc (.cells #[.int .i64 R.d, .int .i64 R.w, .slice A4 R.m.length c4, .bool R.b] 27)
          have oR1149 := oR1144.alloc (.cells #[.int .i64 R.d, .int .i64 R.w, .slice A4 R.m.length c4, .bool R.b] 27)
          have xb150 := xb145.alloc (.cells #[.int .i64 R.d, .int .i64 R.w, .slice A4 R.m.length c4, .bool R.b] 27)
          have oR2151 := oR2146.alloc (.cells #[.int .i64 R.d, .int .i64 R.w, .slice A4 R.m.length c4, .bool R.b] 27)
          clear hB142 xa143 oR1144 xb145 oR2146
          have xc152 : At (w4.alloc (.cells #[.int .i64 R.d, .int .i64 R.w, .slice A4 R.m.length c4, .bool R.b] 27)) (w4.heap.size) 27 #[.int .i64 R.d, .int .i64 R.w, .slice A4 R.m.length c4, .bool R.b] := At.newAt _ _ (by first | rfl | (simp; done) | (simp; omega))
          obtain ⟨xa_0, xa_1, xa_2, xa_3, xa_l, xa_f⟩ := (⟨xa148.cell 0, xa148.cell 1, xa148.cell 2, xa148.cell 3, xa148.lt, xa148.frozen⟩ : _ ∧ _ ∧ _ ∧ _ ∧ _ ∧ _)
          obtain ⟨xb_0, xb_1, xb_2, xb_3, xb_l, xb_f⟩ := (⟨xb150.cell 0, xb150.cell 1, xb150.cell 2, xb150.cell 3, xb150.lt, xb150.frozen⟩ : _ ∧ _ ∧ _ ∧ _ ∧ _ ∧ _)
          obtain ⟨xc_0, xc_1, xc_2, xc_3, xc_l, xc_f⟩ := (⟨xc152.cell 0, xc152.cell 1, xc152.cell 2, xc152.cell 3, xc152.lt, xc152.frozen⟩ : _ ∧ _ ∧ _ ∧ _ ∧ _ ∧ _)
          go_wp2_with fail
          with_reducible refine (equalNest_same A3 A4 c3 c4 R _ oR1149.sees oR2151.sees HRl.out).mono ?_
          rintro e w5 ⟨rfl, hb5⟩
          have sz5 : w4.heap.size + 1 ≤ w5.heap.size := Nat.le_trans (by first | exact Nat.le_refl _ | (simp; done) | (simp; omega)) (hb5.size)
          have hB153 := hB147.trans (hb5.mono hB147.size)
          have xa154 := xa148.below hb5 xa148.lt
          have oR1155 := oR1149.below hb5
          have xb156 := xb150.below hb5 xb150.lt
          have oR2157 := oR2151.below hb5
          have xc158 := xc152.below hb5 xc152.lt
          clear hB147 xa148 oR1149 xb150 oR2151 xc152
          clear xa_0 xa_1 xa_2 xa_3 xa_l xa_f xb_0 xb_1 xb_2 xb_3 xb_l xb_f xc_0 xc_1 xc_2 xc_3 xc_l xc_f
          obtain ⟨xa_0, xa_1, xa_2, xa_3, xa_l, xa_f⟩ := (⟨xa154.cell 0, xa154.cell 1, xa154.cell 2, xa154.cell 3, xa154.lt, xa154.frozen⟩ : _ ∧ _ ∧ _ ∧ _ ∧ _ ∧ _)
          obtain ⟨xb_0, xb_1, xb_2, xb_3, xb_l, xb_f⟩ := (⟨xb156.cell 0, xb156.cell 1, xb156.cell 2, xb156.cell 3, xb156.lt, xb156.frozen⟩ : _ ∧ _ ∧ _ ∧ _ ∧ _ ∧ _)
          obtain ⟨xc_0, xc_1, xc_2, xc_3, xc_l, xc_f⟩ := (⟨xc158.cell 0, xc158.cell 1, xc158.cell 2, xc158.cell 3, xc158.lt, xc158.frozen⟩ : _ ∧ _ ∧ _ ∧ _ ∧ _ ∧ _)
          go_wp2_with fail
          with_reducible refine (iValidNest_any C B d _ (hs.on hB153) dl.cap dl.n4).mono ?_
          rintro e w6 ⟨he, hb6⟩
          rw [HV.out] at he
          subst he
          have sz6 : w5.heap.size ≤ w6.heap.size := Nat.le_trans (by first | exact Nat.le_refl _ | (simp; done) | (simp; omega)) (hb6.size)
          have hB159 := hB153.trans (hb6.mono hB153.size)
          have xa160 := xa154.below hb6 xa154.lt
          have oR1161 := oR1155.below hb6
          have xb162 := xb156.below hb6 xb156.lt
          have oR2163 := oR2157.below hb6
          have xc164 := xc158.below hb6 xc158.lt
          clear hB153 xa154 oR1155 xb156 oR2157 xc158
          clear xa_0 xa_1 xa_2 xa_3 xa_l xa_f xb_0 xb_1 xb_2 xb_3 xb_l xb_f xc_0 xc_1 xc_2 xc_3 xc_l xc_f
          obtain ⟨xa_0, xa_1, xa_2, xa_3, xa_l, xa_f⟩ := (⟨xa160.cell 0, xa160.cell 1, xa160.cell 2, xa160.cell 3, xa160.lt, xa160.frozen⟩ : _ ∧ _ ∧ _ ∧ _ ∧ _ ∧ _)
          obtain ⟨xb_0, xb_1, xb_2, xb_3, xb_l, xb_f⟩ := (⟨xb162.cell 0, xb162.cell 1, xb162.cell 2, xb162.cell 3, xb162.lt, xb162.frozen⟩ : _ ∧ _ ∧ _ ∧ _ ∧ _ ∧ _)
          obtain ⟨xc_0, xc_1, xc_2, xc_3, xc_l, xc_f⟩ := (⟨xc164.cell 0, xc164.cell 1, xc164.cell 2, xc164.cell 3, xc164.lt, xc164.frozen⟩ : _ ∧ _ ∧ _ ∧ _ ∧ _ ∧ _)
          go_wp2_with fail
          refine (iStepNest_any C 0 B d _ (hs.on hB159) dl.cap dl.n4).mono ?_
          rintro e w7 ⟨A7, c7, he, ho7, hb7⟩
          rw [EO.out, EF.out] at he
          rw [EO.out] at ho7
          subst he
          have sz7 : w6.heap.size ≤ w7.heap.size := Nat.le_trans (by first | exact Nat.le_refl _ | (simp; done) | (simp; omega)) (hb7.size)
          have hB165 := hB159.trans (hb7.mono hB159.size)
          have xa166 := xa160.below hb7 xa160.lt
          have oR1167 := oR1161.below hb7
          have xb168 := xb162.below hb7 xb162.lt
          have oR2169 := oR2163.below hb7
          have xc170 := xc164.below hb7 xc164.lt
          clear hB159 xa160 oR1161 xb162 oR2163 xc164
          clear xa_0 xa_1 xa_2 xa_3 xa_l xa_f xb_0 xb_1 xb_2 xb_3 xb_l xb_f xc_0 xc_1 xc_2 xc_3 xc_l xc_f
          have oO1171 : OwnM w7 w2.heap.size A7 c7 O := OwnM.mono ho7 (by first | omega | (simp; omega) | (simp; done))
          clear ho7
          have hB172 := hB165.alloc hB165.size (.cells #[.int .i64 O.d, .int .i64 O.w, .slice A7 O.m.length c7, .bool O.b] 27)
          have xa173 := xa166.alloc (.cells #[.int .i64 O.d, .int .i64 O.w, .slice A7 O.m.length c7, .bool O.b] 27)
          have oR1174 := oR1167.alloc (.cells #[.int .i64 O.d, .int .i64 O.w, .slice A7 O.m.length c7, .bool O.b] 27)
          have xb175 := xb168.alloc (.cells #[.int .i64 O.d, .int .i64 O.w, .slice A7 O.m.length c7, .bool O.b] 27)
          have oR2176 := oR2169.alloc (.cells #[.int .i64 O.d, .int .i64 O.w, .slice A7 O.m.length c7, .bool O.b] 27)
          have xc177 := xc170.alloc (.cells #[.int .i64 O.d, .int .i64 O.w, .slice A7 O.m.length c7, .bool O.b] 27)
          have oO1178 := oO1171.alloc (.cells #[.int .i64 O.d, .int .i64 O.w, .slice A7 O.m.length c7, .bool O.b] 27)
          clear hB165 xa166 oR1167 xb168 oR2169 xc170 oO1171
          have xe179 : At (w7.alloc (.cells #[.int .i64 O.d, .int .i64 O.w, .slice A7 O.m.length c7, .bool O.b] 27)) (w7.heap.size) 27 #[.int .i64 O.d, .int .i64 O.w, .slice A7 O.m.length c7, .bool O.b] := At.newAt _ _ (by first | rfl | (simp; done) | (simp; omega))
          obtain ⟨xa_0, xa_1, xa_2, xa_3, xa_l, xa_f⟩ := (⟨xa173.cell 0, xa173.cell 1, xa173.cell 2, xa173.cell 3, xa173.lt, xa173.frozen⟩ : _ ∧ _ ∧ _ ∧ _ ∧ _ ∧ _)
          obtain ⟨xb_0, xb_1, xb_2, xb_3, xb_l, xb_f⟩ := (⟨xb175.cell 0, xb175.cell 1, xb175.cell 2, xb175.cell 3, xb175.lt, xb175.frozen⟩ : _ ∧ _ ∧ _ ∧ _ ∧ _ ∧ _)
          obtain ⟨xc_0, xc_1, xc_2, xc_3, xc_l, xc_f⟩ := (⟨xc177.cell 0, xc177.cell 1, xc177.cell 2, xc177.cell 3, xc177.lt, xc177.frozen⟩ : _ ∧ _ ∧ _ ∧ _ ∧ _ ∧ _)
          obtain ⟨xe_0, xe_1, xe_2, xe_3, xe_l, xe_f⟩ := (⟨xe179.cell 0, xe179.cell 1, xe179.cell 2, xe179.cell 3, xe179.lt, xe179.frozen⟩ : _ ∧ _ ∧ _ ∧ _ ∧ _ ∧ _)
          have ne_xa_xe_ : ¬ w2.heap.size = w7.heap.size := by omega
          have ne_xe_xa_ : ¬ w7.heap.size = w2.heap.size := by omega
          have ne_xb_xe_ : ¬ w3.heap.size = w7.heap.size := by omega
          have ne_xe_xb_ : ¬ w7.heap.size = w3.heap.size := by omega
          have ne_xc_xe_ : ¬ w4.heap.size = w7.heap.size := by omega
          have ne_xe_xc_ : ¬ w7.heap.size = w4.heap.size := by omega
          go_wp2_with fail
          refine (iStepNest_any O 1 A7 c7 _ oO1178.sees oO1178.cap HOl.out).mono ?_
          rintro e w8 ⟨A8, c8, he, ho8, hb8⟩
          rw [EW.out, EG.out] at he
          rw [EW.out] at ho8
          subst he
          have sz8 : w7.heap.size + 1 ≤ w8.heap.size := Nat.le_trans (by first | exact Nat.le_refl _ | (simp; done) | (simp; omega)) (hb8.size)
          have hB180 := hB172.trans (hb8.mono hB172.size)
          have xa181 := xa173.below hb8 xa173.lt
          have oR1182 := oR1174.below hb8
          have xb183 := xb175.below hb8 xb175.lt
          have oR2184 := oR2176.below hb8
          have xc185 := xc177.below hb8 xc177.lt
          have oO1186 := oO1178.below hb8
          have xe187 := xe179.below hb8 xe179.lt
          clear hB172 xa173 oR1174 xb175 oR2176 xc177 oO1178 xe179
          clear xa_0 xa_1 xa_2 xa_3 xa_l xa_f xb_0 xb_1 xb_2 xb_3 xb_l xb_f xc_0 xc_1 xc_2 xc_3 xc_l xc_f xe_0 xe_1 xe_2 xe_3 xe_l xe_f ne_xa_xe_ ne_xe_xa_ ne_xb_xe_ ne_xe_xb_ ne_xc_xe_ ne_xe_xc_
          have oW1188 : OwnM w8 w2.heap.size A8 c8 W := OwnM.mono ho8 (by first | omega | (simp; omega) | (simp; done))
          clear ho8
          have hB189 := hB180.alloc hB180.size (.cells #[.int .i64 W.d, .int .i64 W.w, .slice A8 W.m.length c8, .bool W.b] 27)
          have xa190 := xa181.alloc (.cells #[.int .i64 W.d, .int .i64 W.w, .slice A8 W.m.length c8, .bool W.b] 27)
          have oR1191 := oR1182.alloc (.cells #[.int .i64 W.d, .int .i64 W.w, .slice A8 W.m.length c8, .bool W.b] 27)
          have xb192 := xb183.alloc (.cells #[.int .i64 W.d, .int .i64 W.w, .slice A8 W.m.length c8, .bool W.b] 27)
          have oR2193 := oR2184.alloc (.cells #[.int .i64 W.d, .int .i64 W.w, .slice A8 W.m.length c8, .bool W.b] 27)
          have xc194 := xc185.alloc (.cells #[.int .i64 W.d, .int .i64 W.w, .slice A8 W.m.length c8, .bool W.b] 27)
          have oO1195 := oO1186.alloc (.cells #[.int .i64 W.d, .int .i64 W.w, .slice A8 W.m.length c8, .bool W.b] 27)
          have xe196 := xe187.alloc (.cells #[.int .i64 W.d, .int .i64 W.w, .slice A8 W.m.length c8, .bool W.b] 27)
          have oW1197 := oW1188.alloc (.cells #[.int .i64 W.d, .int .i64 W.w, .slice A8 W.m.length c8, .bool W.b] 27)
          clear hB180 xa181 oR1182 xb183 oR2184 xc185 oO1186 xe187 oW1188
          have xf198 : At (w8.alloc (.cells #[.int .i64 W.d, .int .i64 W.w, .slice A8 W.m.length c8, .bool W.b] 27)) (w8.heap.size) 27 #[.int .i64 W.d, .int .i64 W.w, .slice A8 W.m.length c8, .bool W.b] := At.newAt _ _ (by first | rfl | (simp; done) | (simp; omega))
          obtain ⟨xa_0, xa_1, xa_2, xa_3, xa_l, xa_f⟩ := (⟨xa190.cell 0, xa190.cell 1, xa190.cell 2, xa190.cell 3, xa190.lt, xa190.frozen⟩ : _ ∧ _ ∧ _ ∧ _ ∧ _ ∧ _)
          obtain ⟨xb_0, xb_1, xb_2, xb_3, xb_l, xb_f⟩ := (⟨xb192.cell 0, xb192.cell 1, xb192.cell 2, xb192.cell 3, xb192.lt, xb192.frozen⟩ : _ ∧ _ ∧ _ ∧ _ ∧ _ ∧ _)
          obtain ⟨xc_0, xc_1, xc_2, xc_3, xc_l, xc_f⟩ := (⟨xc194.cell 0, xc194.cell 1, xc194.cell 2, xc194.cell 3, xc194.lt, xc194.frozen⟩ : _ ∧ _ ∧ _ ∧ _ ∧ _ ∧ _)
          obtain ⟨xe_0, xe_1, xe_2, xe_3, xe_l, xe_f⟩ := (⟨xe196.cell 0, xe196.cell 1, xe196.cell 2, xe196.cell 3, xe196.lt, xe196.frozen⟩ : _ ∧ _ ∧ _ ∧ _ ∧ _ ∧ _)
          obtain ⟨xf_0, xf_1, xf_2, xf_3, xf_l, xf_f⟩ := (⟨xf198.cell 0, xf198.cell 1, xf198.cell 2, xf198.cell 3, xf198.lt, xf198.frozen⟩ : _ ∧ _ ∧ _ ∧ _ ∧ _ ∧ _)
          have ne_xa_xe_ : ¬ w2.heap.size = w7.heap.size := by omega
          have ne_xe_xa_ : ¬ w7.heap.size = w2.heap.size := by omega
          have ne_xb_xe_ : ¬ w3.heap.size = w7.heap.size := by omega
          have ne_xe_xb_ : ¬ w7.heap.size = w3.heap.size := by omega
          have ne_xc_xe_ : ¬ w4.heap.size = w7.heap.size := by omega
          have ne_xe_xc_ : ¬ w7.heap.size = w4.heap.size := by omega
          have ne_xe_xf_ : ¬ w7.heap.size = w8.heap.size := by omega
          have ne_xf_xe_ : ¬ w8.heap.size = w7.heap.size := by omega
          go_wp2_with fail
          refine (iStepNest_any O 4 A7 c7 _ oO1195.sees oO1195.cap HOl.out).mono ?_
          rintro e w9 ⟨A9, c9, he, ho9, hb9⟩
          rw [EB.out, EL.out] at he
          rw [EB.out] at ho9
          subst he
          have sz9 : w8.heap.size + 1 ≤ w9.heap.size := Nat.le_trans (by first | exact Nat.le_refl _ | (simp; done) | (simp; omega)) (hb9.size)
          have hB199 := hB189.trans (hb9.mono hB189.size)
          have xa200 := xa190.below hb9 xa190.lt
          have oR1201 := oR1191.below hb9
          have xb202 := xb192.below hb9 xb192.lt
          have oR2203 := oR2193.below hb9
          have xc204 := xc194.below hb9 xc194.lt
          have oO1205 := oO1195.below hb9
          have xe206 := xe196.below hb9 xe196.lt
          have oW1207 := oW1197.below hb9
          have xf208 := xf198.below hb9 xf198.lt
          clear hB189 xa190 oR1191 xb192 oR2193 xc194 oO1195 xe196 oW1197 xf198
          clear xa_0 xa_1 xa_2 xa_3 xa_l xa_f xb_0 xb_1 xb_2 xb_3 xb_l xb_f xc_0 xc_1 xc_2 xc_3 xc_l xc_f xe_0 xe_1 xe_2 xe_3 xe_l xe_f xf_0 xf_1 xf_2 xf_3 xf_l xf_f ne_xa_xe_ ne_xe_xa_ ne_xb_xe_ ne_xe_xb_ ne_xc_xe_ ne_xe_xc_ ne_xe_xf_ ne_xf_xe_
          have oB1209 : OwnM w9 w2.heap.size A9 c9 C := OwnM.mono ho9 (by first | omega | (simp; omega) | (simp; done))
          clear ho9
          have hB210 := hB199.alloc hB199.size (.cells #[.int .i64 C.d, .int .i64 C.w, .slice A9 C.m.length c9, .bool C.b] 27)
          have xa211 := xa200.alloc (.cells #[.int .i64 C.d, .int .i64 C.w, .slice A9 C.m.length c9, .bool C.b] 27)
          have oR1212 := oR1201.alloc (.cells #[.int .i64 C.d, .int .i64 C.w, .slice A9 C.m.length c9, .bool C.b] 27)
          have xb213 := xb202.alloc (.cells #[.int .i64 C.d, .int .i64 C.w, .slice A9 C.m.length c9, .bool C.b] 27)
          have oR2214 := oR2203.alloc (.cells #[.int .i64 C.d, .int .i64 C.w, .slice A9 C.m.length c9, .bool C.b] 27)
          have xc215 := xc204.alloc (.cells #[.int .i64 C.d, .int .i64 C.w, .slice A9 C.m.length c9, .bool C.b] 27)
          have oO1216 := oO1205.alloc (.cells #[.int .i64 C.d, .int .i64 C.w, .slice A9 C.m.length c9, .bool C.b] 27)
          have xe217 := xe206.alloc (.cells #[.int .i64 C.d, .int .i64 C.w, .slice A9 C.m.length c9, .bool C.b] 27)
          have oW1218 := oW1207.alloc (.cells #[.int .i64 C.d, .int .i64 C.w, .slice A9 C.m.length c9, .bool C.b] 27)
          have xf219 := xf208.alloc (.cells #[.int .i64 C.d, .int .i64 C.w, .slice A9 C.m.length c9, .bool C.b] 27)
          have oB1220 := oB1209.alloc (.cells #[.int .i64 C.d, .int .i64 C.w, .slice A9 C.m.length c9, .bool C.b] 27)
          clear hB199 xa200 oR1201 xb202 oR2203 xc204 oO1205 xe206 oW1207 xf208 oB1209
          have xg221 : At (w9.alloc (.cells #[.int .i64 C.d, .int .i64 C.w, .slice A9 C.m.length c9, .bool C.b] 27)) (w9.heap.size) 27 #[.int .i64 C.d, .int .i64 C.w, .slice A9 C.m.length c9, .bool C.b] := At.newAt _ _ (by first | rfl | (simp; done) | (simp; omega))
          obtain ⟨xa_0, xa_1, xa_2, xa_3, xa_l, xa_f⟩ := (⟨xa211.cell 0, xa211.cell 1, xa211.cell 2, xa211.cell 3, xa211.lt, xa211.frozen⟩ : _ ∧ _ ∧ _ ∧ _ ∧ _ ∧ _)
          obtain ⟨xb_0, xb_1, xb_2, xb_3, xb_l, xb_f⟩ := (⟨xb213.cell 0, xb213.cell 1, xb213.cell 2, xb213.cell 3, xb213.lt, xb213.frozen⟩ : _ ∧ _ ∧ _ ∧ _ ∧ _ ∧ _)
          obtain ⟨xc_0, xc_1, xc_2, xc_3, xc_l, xc_f⟩ := (⟨xc215.cell 0, xc215.cell 1, xc215.cell 2, xc215.cell 3, xc215.lt, xc215.frozen⟩ : _ ∧ _ ∧ _ ∧ _ ∧ _ ∧ _)
          obtain ⟨xe_0, xe_1, xe_2, xe_3, xe_l, xe_f⟩ := (⟨xe217.cell 0, xe217.cell 1, xe217.cell 2, xe217.cell 3, xe217.lt, xe217.frozen⟩ : _ ∧ _ ∧ _ ∧ _ ∧ _ ∧ _)
          obtain ⟨xf_0, xf_1, xf_2, xf_3, xf_l, xf_f⟩ := (⟨xf219.cell 0, xf219.cell 1, xf219.cell 2, xf219.cell 3, xf219.lt, xf219.frozen⟩ : _ ∧ _ ∧ _ ∧ _ ∧ _ ∧ _)
          obtain ⟨xg_0, xg_1, xg_2, xg_3, xg_l, xg_f⟩ := (⟨xg221.cell 0, xg221.cell 1, xg221.cell 2, xg221.cell 3, xg221.lt, xg221.frozen⟩ : _ ∧ _ ∧ _ ∧ _ ∧ _ ∧ _)
          have ne_xa_xe_ : ¬ w2.heap.size = w7.heap.size := by omega
          have ne_xe_xa_ : ¬ w7.heap.size = w2.heap.size := by omega
          have ne_xb_xe_ : ¬ w3.heap.size = w7.heap.size := by omega
          have ne_xe_xb_ : ¬ w7.heap.size = w3.heap.size := by omega
          have ne_xc_xe_ : ¬ w4.heap.size = w7.heap.size := by omega
          have ne_xe_xc_ : ¬ w7.heap.size = w4.heap.size := by omega
          have ne_xe_xf_ : ¬ w7.heap.size = w8.heap.size := by omega
          have ne_xf_xe_ : ¬ w8.heap.size = w7.heap.size := by omega
          have ne_xe_xg_ : ¬ w7.heap.size = w9.heap.size := by omega
          have ne_xg_xe_ : ¬ w9.heap.size = w7.heap.size := by omega
          go_wp2_with fail
          with_reducible refine (equalNest_same A9 B c9 d C _ oB1220.sees (hs.on hB210) dl.n4).mono ?_
          rintro e w10 ⟨rfl, hb10⟩
          have sz10 : w9.heap.size + 1 ≤ w10.heap.size := Nat.le_trans (by first | exact Nat.le_refl _ | (simp; done) | (simp; omega)) (hb10.size)
          have hB222 := hB210.trans (hb10.mono hB210.size)
          have xa223 := xa211.below hb10 xa211.lt
          have oR1224 := oR1212.below hb10
          have xb225 := xb213.below hb10 xb213.lt
          have oR2226 := oR2214.below hb10
          have xc227 := xc215.below hb10 xc215.lt
          have oO1228 := oO1216.below hb10
          have xe229 := xe217.below hb10 xe217.lt
          have oW1230 := oW1218.below hb10
          have xf231 := xf219.below hb10 xf219.lt
          have oB1232 := oB1220.below hb10
          have xg233 := xg221.below hb10 xg221.lt
          clear hB210 xa211 oR1212 xb213 oR2214 xc215 oO1216 xe217 oW1218 xf219 oB1220 xg221
          clear xa_0 xa_1 xa_2 xa_3 xa_l xa_f xb_0 xb_1 xb_2 xb_3 xb_l xb_f xc_0 xc_1 xc_2 xc_3 xc_l xc_f xe_0 xe_1 xe_2 xe_3 xe_l xe_f xf_0 xf_1 xf_2 xf_3 xf_l xf_f xg_0 xg_1 xg_2 xg_3 xg_l xg_f ne_xa_xe_ ne_xe_xa_ ne_xb_xe_ ne_xe_xb_ ne_xc_xe_ ne_xe_xc_ ne_xe_xf_ ne_xf_xe_ ne_xe_xg_ ne_xg_xe_
          obtain ⟨xa_0, xa_1, xa_2, xa_3, xa_l, xa_f⟩ := (⟨xa223.cell 0, xa223.cell 1, xa223.cell 2, xa223.cell 3, xa223.lt, xa223.frozen⟩ : _ ∧ _ ∧ _ ∧ _ ∧ _ ∧ _)
          obtain ⟨xb_0, xb_1, xb_2, xb_3, xb_l, xb_f⟩ := (⟨xb225.cell 0, xb225.cell 1, xb225.cell 2, xb225.cell 3, xb225.lt, xb225.frozen⟩ : _ ∧ _ ∧ _ ∧ _ ∧ _ ∧ _)
          obtain ⟨xc_0, xc_1, xc_2, xc_3, xc_l, xc_f⟩ := (⟨xc227.cell 0, xc227.cell 1, xc227.cell 2, xc227.cell 3, xc227.lt, xc227.frozen⟩ : _ ∧ _ ∧ _ ∧ _ ∧ _ ∧ _)
          obtain ⟨xe_0, xe_1, xe_2, xe_3, xe_l, xe_f⟩ := (⟨xe229.cell 0, xe229.cell 1, xe229.cell 2, xe229.cell 3, xe229.lt, xe229.frozen⟩ : _ ∧ _ ∧ _ ∧ _ ∧ _ ∧ _)
          obtain ⟨xf_0, xf_1, xf_2, xf_3, xf_l, xf_f⟩ := (⟨xf231.cell 0, xf231.cell 1, xf231.cell 2, xf231.cell 3, xf231.lt, xf231.frozen⟩ : _ ∧ _ ∧ _ ∧ _ ∧ _ ∧ _)
          obtain ⟨xg_0, xg_1, xg_2, xg_3, xg_l, xg_f⟩ := (⟨xg233.cell 0, xg233.cell 1, xg233.cell 2, xg233.cell 3, xg233.lt, xg233.frozen⟩ : _ ∧ _ ∧ _ ∧ _ ∧ _ ∧ _)
          have ne_xa_xe_ : ¬ w2.heap.size = w7.heap.size := by omega
          have ne_xe_xa_ : ¬ w7.heap.size = w2.heap.size := by omega
          have ne_xb_xe_ : ¬ w3.heap.size = w7.heap.size := by omega
          have ne_xe_xb_ : ¬ w7.heap.size = w3.heap.size := by omega
          have ne_xc_xe_ : ¬ w4.heap.size = w7.heap.size := by omega
          have ne_xe_xc_ : ¬ w7.heap.size = w4.heap.size := by omega
          have ne_xe_xf_ : ¬ w7.heap.size = w8.heap.size := by omega
          have ne_xf_xe_ : ¬ w8.heap.size = w7.heap.size := by omega
          have ne_xe_xg_ : ¬ w7.heap.size = w9.heap.size := by omega
          have ne_xg_xe_ : ¬ w9.heap.size = w7.heap.size := by omega
          go_wp2
          go_ret
          exact ⟨by first | rfl | (simp; done) | (simp; omega), HB2.out.trans (hB222.mono HB2.out.size)⟩
        · skip
          obtain ⟨m1, m2⟩ := l1 hg1
          have EG := hid hg1
          rw [← stepS_yes hg1, ← hW] at m1 m2
          have EL := hid m1
          have EB := hid ((stepS_yes m1).trans m2)
          clear hg1 l1 l2 l3 m1 m2 hW hf hO hok
          have hB234 := hB0.alloc hB0.size (.cells #[.int .i64 C.d, .int .i64 C.w, .slice B C.m.length d, .bool C.b] 27)
          clear hB0
          have xa235 : At (w2.alloc (.cells #[.int .i64 C.d, .int .i64 C.w, .slice B C.m.length d, .bool C.b] 27)) (w2.heap.size) 27 #[.int .i64 C.d, .int .i64 C.w, .slice B C.m.length d, .bool C.b] := At.newAt _ _ (by first | rfl | (simp; done) | (simp; omega))
          obtain ⟨xa_0, xa_1, xa_2, xa_3, xa_l, xa_f⟩ := (⟨xa235.cell 0, xa235.cell 1, xa235.cell 2, xa235.cell 3, xa235.lt, xa235.frozen⟩ : _ ∧ _ ∧ _ ∧ _ ∧ _ ∧ _)
          go_wp2_with fail
          refine (iStepNest_any C i B d _ (hs.on hB234) dl.cap dl.n4).mono ?_
          rintro e w3 ⟨A3, c3, he, ho3, hb3⟩
          rw [ER.out, EK.out] at he
          rw [ER.out] at ho3
          subst he
          have sz3 : w2.heap.size + 1 ≤ w3.heap.size := Nat.le_trans (by first | exact Nat.le_refl _ | (simp; done) | (simp; omega)) (hb3.size)
          have hB236 := hB234.trans (hb3.mono hB234.size)
          have xa237 := xa235.below hb3 xa235.lt
          clear hB234 xa235
          clear xa_0 xa_1 xa_2 xa_3 xa_l xa_f
          have oR1238 : OwnM w3 w2.heap.size A3 c3 R := OwnM.mono ho3 (by first | omega | (simp; omega) | (simp; done))
          clear ho3
          have hB239 := hB236.alloc hB236.size (.cells #[.int .i64 R.d, .int .i64 R.w, .slice A3 R.m.length c3, .bool R.b] 27)
          have xa240 := xa237.alloc (.cells #[.int .i64 R.d, .int .i64 R.w, .slice A3 R.m.length c3, .bool R.b] 27)
          have oR1241 := oR1238.alloc (.cells #[.int .i64 R.d, .int .i64 R.w, .slice A3 R.m.length c3, .bool R.b] 27)
          clear hB236 xa237 oR1238
          have xb242 : At (w3.alloc (.cells #[.int .i64 R.d, .int .i64 R.w, .slice A3 R.m.length c3, .bool R.b] 27)) (w3.heap.size) 27 #[.int .i64 R.d, .int .i64 R.w, .slice A3 R.m.length c3, .bool R.b] := At.newAt _ _ (by first | rfl | (simp; done) | (simp; omega))
          obtain ⟨xa_0, xa_1, xa_2, xa_3, xa_l, xa_f⟩ := (⟨xa240.cell 0, xa240.cell 1, xa240.cell 2, xa240.cell 3, xa240.lt, xa240.frozen⟩ : _ ∧ _ ∧ _ ∧ _ ∧ _ ∧ _)
          obtain ⟨xb_0, xb_1, xb_2, xb_3, xb_l, xb_f⟩ := (⟨xb242.cell 0, xb242.cell 1, xb242.cell 2, xb242.cell 3, xb242.lt, xb242.frozen⟩ : _ ∧ _ ∧ _ ∧ _ ∧ _ ∧ _)
          go_wp2_with fail
          refine (sStepNest_any C i B d _ (hs.on hB239) dl.cap dl.n4).mono ?_
          rintro e w4 ⟨A4, c4, he, ho4, hb4⟩
          rw [ER.out, EK.out] at he
          rw [ER.out] at ho4
          subst he
          have sz4 : w3.heap.size + 1 ≤ w4.heap.size := Nat.le_trans (by first | exact Nat.le_refl _ | (simp; done) | (simp; omega)) (hb4.size)
          have hB243 := hB239.trans (hb4.mono hB239.size)
          have xa244 := xa240.below hb4 xa240.lt
          have oR1245 := oR1241.below hb4
          have xb246 := xb242.below hb4 xb242.lt
          clear hB239 xa240 oR1241 xb242
          clear xa_0 xa_1 xa_2 xa_3 xa_l xa_f xb_0 xb_1 xb_2 xb_3 xb_l xb_f
          have oR2247 : OwnM w4 w2.heap.size A4 c4 R := OwnM.mono ho4 (by first | omega | (simp; omega) | (simp; done))
          clear ho4
          have hB248 := hB243.alloc hB243.size (.cells #[.int .i64 R.d, .int .i64 R.w, .slice A4 R.m.length c4, .bool R.b] 27)
          have xa249 := xa244.alloc (.cells #[.int .i64 R.d, .int .i64 R.w, .slice A4 R.m.length c4, .bool R.b] 27)
          have oR1250 := oR1245.alloc (.cells #[.int .i64 R.d, .int .i64 R.w, .slice A4 R.m.length c4, .bool R.b] 27)
          have xb251 := xb246.alloc (.cells #[.int .i64 R.d, .int .i64 R.w, .slice A4 R.m.length c4, .bool R.b] 27)
          have oR2252 := oR2247.alloc (.cells #[.int .i64 R.d, .int .i64 R.w, .slice A4 R.m.length c4, .bool R.b] 27)
          clear hB243 xa244 oR1245 xb246 oR2247
          have xc253 : At (w4.alloc (.cells #[.int .i64 R.d, .int .i64 R.w, .slice A4 R.m.length c4, .bool R.b] 27)) (w4.heap.size) 27 #[.int .i64 R.d, .int .i64 R.w, .slice A4 R.m.length c4, .bool R.b] := At.newAt _ _ (by first | rfl | (simp; done) | (simp; omega))
          obtain ⟨xa_0, xa_1, xa_2, xa_3, xa_l, xa_f⟩ := (⟨xa249.cell 0, xa249.cell 1, xa249.cell 2, xa249.cell 3, xa249.lt, xa249.frozen⟩ : _ ∧ _ ∧ _ ∧ _ ∧ _ ∧ _)
          obtain ⟨xb_0, xb_1, xb_2, xb_3, xb_l, xb_f⟩ := (⟨xb251.cell 0, xb251.cell 1, xb251.cell 2, xb251.cell 3, xb251.lt, xb251.frozen⟩ : _ ∧ _ ∧ _ ∧ _ ∧ _ ∧ _)
          obtain ⟨xc_0, xc_1, xc_2, xc_3, xc_l, xc_f⟩ := (⟨xc253.cell 0, xc253.cell 1, xc253.cell 2, xc253.cell 3, xc253.lt, xc253.frozen⟩ : _ ∧ _ ∧ _ ∧ _ ∧ _ ∧ _)
          go_wp2_with fail
          with_reducible refine (equalNest_same A3 A4 c3 c4 R _ oR1250.sees oR2252.sees HRl.out).mono ?_
          rintro e w5 ⟨rfl, hb5⟩
          have sz5 : w4.heap.size + 1 ≤ w5.heap.size := Nat.le_trans (by first | exact Nat.le_refl _ | (simp; done) | (simp; omega)) (hb5.size)
          have hB254 := hB248.trans (hb5.mono hB248.size)
          have xa255 := xa249.below hb5 xa249.lt
          have oR1256 := oR1250.below hb5
          have xb257 := xb251.below hb5 xb251.lt
          have oR2258 := oR2252.below hb5
          have xc259 := xc253.below hb5 xc253.lt
          clear hB248 xa249 oR1250 xb251 oR2252 xc253
          clear xa_0 xa_1 xa_2 xa_3 xa_l xa_f xb_0 xb_1 xb_2 xb_3 xb_l xb_f xc_0 xc_1 xc_2 xc_3 xc_l xc_f
          obtain ⟨xa_0, xa_1, xa_2, xa_3, xa_l, xa_f⟩ := (⟨xa255.cell 0, xa255.cell 1, xa255.cell 2, xa255.cell 3, xa255.lt, xa255.frozen⟩ : _ ∧ _ ∧ _ ∧ _ ∧ _ ∧ _)
          obtain ⟨xb_0, xb_1, xb_2, xb_3, xb_l, xb_f⟩ := (⟨xb257.cell 0, xb257.cell 1, xb257.cell 2, xb257.cell 3, xb257.lt, xb257.frozen⟩ : _ ∧ _ ∧ _ ∧ _ ∧ _ ∧ _)
          obtain ⟨xc_0, xc_1, xc_2, xc_3, xc_l, xc_f⟩ := (⟨xc259.cell 0, xc259.cell 1, xc259.cell 2, xc259.cell 3, xc259.lt, xc259.frozen⟩ : _ ∧ _ ∧ _ ∧ _ ∧ _ ∧ _)
          go_wp2_with fail
          with_reducible refine (iValidNest_any C B d _ (hs.on hB254) dl.cap dl.n4).mono ?_
          rintro e w6 ⟨he, hb6⟩
          rw [HV.out] at he
          subst he
          have sz6 : w5.heap.size ≤ w6.heap.size := Nat.le_trans (by first | exact Nat.le_refl _ | (simp; done) | (simp; omega)) (hb6.size)
          have hB260 := hB254.trans (hb6.mono hB254.size)
          have xa261 := xa255.below hb6 xa255.lt
          have oR1262 := oR1256.below hb6
          have xb263 := xb257.below hb6 xb257.lt
          have oR2264 := oR2258.below hb6
          have xc265 := xc259.below hb6 xc259.lt
          clear hB254 xa255 oR1256 xb257 oR2258 xc259
          clear xa_0 xa_1 xa_2 xa_3 xa_l xa_f xb_0 xb_1 xb_2 xb_3 xb_l xb_f xc_0 xc_1 xc_2 xc_3 xc_l xc_f
          obtain ⟨xa_0, xa_1, xa_2, xa_3, xa_l, xa_f⟩ := (⟨xa261.cell 0, xa261.cell 1, xa261.cell 2, xa261.cell 3, xa261.lt, xa261.frozen⟩ : _ ∧ _ ∧ _ ∧ _ ∧ _ ∧ _)
          obtain ⟨xb_0, xb_1, xb_2, xb_3, xb_l, xb_f⟩ := (⟨xb263.cell 0, xb263.cell 1, xb263.cell 2, xb263.cell 3, xb263.lt, xb263.frozen⟩ : _ ∧ _ ∧ _ ∧ _ ∧ _ ∧ _)
          obtain ⟨xc_0, xc_1, xc_2, xc_3, xc_l, xc_f⟩ := (⟨xc265.cell 0, xc265.cell 1, xc265.cell 2, xc265.cell 3, xc265.lt, xc265.frozen⟩ : _ ∧ _ ∧ _ ∧ _ ∧ _ ∧ _)
          go_wp2_with fail
          refine (iStepNest_any C 0 B d _ (hs.on hB260) dl.cap dl.n4).mono ?_
          rintro e w7 ⟨A7, c7, he, ho7, hb7⟩
          rw [EO.out, EF.out] at he
          rw [EO.out] at ho7
          subst he
          have sz7 : w6.heap.size ≤ w7.heap.size := Nat.le_trans (by first | exact Nat.le_refl _ | (simp; done) | (simp; omega)) (hb7.size)
          have hB266 := hB260.trans (hb7.mono hB260.size)
          have xa267 := xa261.below hb7 xa261.lt
          have oR1268 := oR1262.below hb7
          have xb269 := xb263.below hb7 xb263.lt
          have oR2270 := oR2264.below hb7
          have xc271 := xc265.below hb7 xc265.lt
          clear hB260 xa261 oR1262 xb263 oR2264 xc265
          clear xa_0 xa_1 xa_2 xa_3 xa_l xa_f xb_0 xb_1 xb_2 xb_3 xb_l xb_f xc_0 xc_1 xc_2 xc_3 xc_l xc_f
          have oO1272 : OwnM w7 w2.heap.size A7 c7 O := OwnM.mono ho7 (by first | omega | (simp; omega) | (simp; done))
          clear ho7
          have hB273 := hB266.alloc hB266.size (.cells #[.int .i64 O.d, .int .i64 O.w, .slice A7 O.m.length c7, .bool O.b] 27)
          have xa274 := xa267.alloc (.cells #[.int .i64 O.d, .int .i64 O.w, .slice A7 O.m.length c7, .bool O.b] 27)
          have oR1275 := oR1268.alloc (.cells #[.int .i64 O.d, .int .i64 O.w, .slice A7 O.m.length c7, .bool O.b] 27)
          have xb276 := xb269.alloc (.cells #[.int .i64 O.d, .int .i64 O.w, .slice A7 O.m.length c7, .bool O.b] 27)
          have oR2277 := oR2270.alloc (.cells #[.int .i64 O.d, .int .i64 O.w, .slice A7 O.m.length c7, .bool O.b] 27)
          have xc278 := xc271.alloc (.cells #[.int .i64 O.d, .int .i64 O.w, .slice A7 O.m.length c7, .bool O.b] 27)
          have oO1279 := oO1272.alloc (.cells #[.int .i64 O.d, .int .i64 O.w, .slice A7 O.m.length c7, .bool O.b] 27)
          clear hB266 xa267 oR1268 xb269 oR2270 xc271 oO1272
          have xe280 : At (w7.alloc (.cells #[.int .i64 O.d, .int .i64 O.w, .slice A7 O.m.length c7, .bool O.b] 27)) (w7.heap.size) 27 #[.int .i64 O.d, .int .i64 O.w, .slice A7 O.m.length c7, .bool O.b] := At.newAt _ _ (by first | rfl | (simp; done) | (simp; omega))
          obtain ⟨xa_0, xa_1, xa_2, xa_3, xa_l, xa_f⟩ := (⟨xa274.cell 0, xa274.cell 1, xa274.cell 2, xa274.cell 3, xa274.lt, xa274.frozen⟩ : _ ∧ _ ∧ _ ∧ _ ∧ _ ∧ _)
          obtain ⟨xb_0, xb_1, xb_2, xb_3, xb_l, xb_f⟩ := (⟨xb276.cell 0, xb276.cell 1, xb276.cell 2, xb276.cell 3, xb276.lt, xb276.frozen⟩ : _ ∧ _ ∧ _ ∧ _ ∧ _ ∧ _)
          obtain ⟨xc_0, xc_1, xc_2, xc_3, xc_l, xc_f⟩ := (⟨xc278.cell 0, xc278.cell 1, xc278.cell 2, xc278.cell 3, xc278.lt, xc278.frozen⟩ : _ ∧ _ ∧ _ ∧ _ ∧ _ ∧ _)
          obtain ⟨xe_0, xe_1, xe_2, xe_3, xe_l, xe_f⟩ := (⟨xe280.cell 0, xe280.cell 1, xe280.cell 2, xe280.cell 3, xe280.lt, xe280.frozen⟩ : _ ∧ _ ∧ _ ∧ _ ∧ _ ∧ _)
          have ne_xa_xe_ : ¬ w2.heap.size = w7.heap.size := by omega
          have ne_xe_xa_ : ¬ w7.heap.size = w2.heap.size := by omega
          have ne_xb_xe_ : ¬ w3.heap.size = w7.heap.size := by omega
          have ne_xe_xb_ : ¬ w7.heap.size = w3.heap.size := by omega
          have ne_xc_xe_ : ¬ w4.heap.size = w7.heap.size := by omega
          have ne_xe_xc_ : ¬ w7.heap.size = w4.heap.size := by omega
          go_wp2_with fail
          refine (iStepNest_any O 1 A7 c7 _ oO1279.sees oO1279.cap HOl.out).mono ?_
          rintro e w8 ⟨A8, c8, he, ho8, hb8⟩
          rw [EW.out, EG.out] at he
          rw [EW.out] at ho8
          subst he
          have sz8 : w7.heap.size + 1 ≤ w8.heap.size := Nat.le_trans (by first | exact Nat.le_refl _ | (simp; done) | (simp; omega)) (hb8.size)
          have hB281 := hB273.trans (hb8.mono hB273.size)
          have xa282 := xa274.below hb8 xa274.lt
          have oR1283 := oR1275.below hb8
          have xb284 := xb276.below hb8 xb276.lt
          have oR2285 := oR2277.below hb8
          have xc286 := xc278.below hb8 xc278.lt
          have oO1287 := oO1279.below hb8
          have xe288 := xe280.below hb8 xe280.lt
          clear hB273 xa274 oR1275 xb276 oR2277 xc278 oO1279 xe280
          clear xa_0 xa_1 xa_2 xa_3 xa_l xa_f xb_0 xb_1 xb_2 xb_3 xb_l xb_f xc_0 xc_1 xc_2 xc_3 xc_l xc_f xe_0 xe_1 xe_2 xe_3 xe_l xe_f ne_xa_xe_ ne_xe_xa_ ne_xb_xe_ ne_xe_xb_ ne_xc_xe_ ne_xe_xc_
          have oW1289 : OwnM w8 w2.heap.size A8 c8 W := OwnM.mono ho8 (by first | omega | (simp; omega) | (simp; done))
          clear ho8
          have hB290 := hB281.alloc hB281.size (.cells #[.int .i64 W.d, .int .i64 W.w, .slice A8 W.m.length c8, .bool W.b] 27)
          have xa291 := xa282.alloc (.cells #[.int .i64 W.d, .int .i64 W.w, .slice A8 W.m.length c8, .bool W.b] 27)
          have oR1292 := oR1283.alloc (.cells #[.int .i64 W.d, .int .i64 W.w, .slice A8 W.m.length c8, .bool W.b] 27)
          have xb293 := xb284.alloc (.cells #[.int .i64 W.d, .int .i64 W.w, .slice A8 W.m.length c8, .bool W.b] 27)
          have oR2294 := oR2285.alloc (.cells #[.int .i64 W.d, .int .i64 W.w, .slice A8 W.m.length c8, .bool W.b] 27)
          have xc295 := xc286.alloc (.cells #[.int .i64 W.d, .int .i64 W.w, .slice A8 W.m.length c8, .bool W.b] 27)
          have oO1296 := oO1287.alloc (.cells #[.int .i64 W.d, .int .i64 W.w, .slice A8 W.m.length c8, .bool W.b] 27)
          have xe297 := xe288.alloc (.cells #[.int .i64 W.d, .int .i64 W.w, .slice A8 W.m.length c8, .bool W.b] 27)
          have oW1298 := oW1289.alloc (.cells #[.int .i64 W.d, .int .i64 W.w, .slice A8 W.m.length c8, .bool W.b] 27)
          clear hB281 xa282 oR1283 xb284 oR2285 xc286 oO1287 xe288 oW1289
          have xf299 : At (w8.alloc (.cells #[.int .i64 W.d, .int .i64 W.w, .slice A8 W.m.length c8, .bool W.b] 27)) (w8.heap.size) 27 #[.int .i64 W.d, .int .i64 W.w, .slice A8 W.m.length c8, .bool W.b] := At.newAt _ _ (by first | rfl | (simp; done) | (simp; omega))
          obtain ⟨xa_0, xa_1, xa_2, xa_3, xa_l, xa_f⟩ := (⟨xa291.cell 0, xa291.cell 1, xa291.cell 2, xa291.cell 3, xa291.lt, xa291.frozen⟩ : _ ∧ _ ∧ _ ∧ _ ∧ _ ∧ _)
          obtain ⟨xb_0, xb_1, xb_2, xb_3, xb_l, xb_f⟩ := (⟨xb293.cell 0, xb293.cell 1, xb293.cell 2, xb293.cell 3, xb293.lt, xb293.frozen⟩ : _ ∧ _ ∧ _ ∧ _ ∧ _ ∧ _)
          obtain ⟨xc_0, xc_1, xc_2, xc_3, xc_l, xc_f⟩ := (⟨xc295.cell 0, xc295.cell 1, xc295.cell 2, xc295.cell 3, xc295.lt, xc295.frozen⟩ : _ ∧ _ ∧ _ ∧ _ ∧ _ ∧ _)
          obtain ⟨xe_0, xe_1, xe_2, xe_3, xe_l, xe_f⟩ := (⟨xe297.cell 0, xe297.cell 1, xe297.cell 2, xe297.cell 3, xe297.lt, xe297.frozen⟩ : _ ∧ _ ∧ _ ∧ _ ∧ _ ∧ _)
          obtain ⟨xf_0, xf_1, xf_2, xf_3, xf_l, xf_f⟩ := (⟨xf299.cell 0, xf299.cell 1, xf299.cell 2, xf299.cell 3, xf299.lt, xf299.frozen⟩ : _ ∧ _ ∧ _ ∧ _ ∧ _ ∧ _)
          have ne_xa_xe_ : ¬ w2.heap.size = w7.heap.size := by omega
          have ne_xe_xa_ : ¬ w7.heap.size = w2.heap.size := by omega
          have ne_xb_xe_ : ¬ w3.heap.size = w7.heap.size := by omega
          have ne_xe_xb_ : ¬ w7.heap.size = w3.heap.size := by omega
          have ne_xc_xe_ : ¬ w4.heap.size = w7.heap.size := by omega
          have ne_xe_xc_ : ¬ w7.heap.size = w4.heap.size := by omega
          have ne_xe_xf_ : ¬ w7.heap.size = w8.heap.size := by omega
          have ne_xf_xe_ : ¬ w8.heap.size = w7.heap.size := by omega
          have hB300 := below_put hB290 (grown_set (w8.alloc (.cells #[.int .i64 W.d, .int .i64 W.w, .slice A8 W.m.length c8, .bool W.b] 27)) (w7.heap.size) 0 (.int .i64 W.d)) (by omega) (by have := hB290.size; omega)
          have xa301 := xa291.past (grown_set (w8.alloc (.cells #[.int .i64 W.d, .int .i64 W.w, .slice A8 W.m.length c8, .bool W.b] 27)) (w7.heap.size) 0 (.int .i64 W.d)) (by omega)
          have oR1302 := oR1292.past4 xe297 (grown_set (w8.alloc (.cells #[.int .i64 W.d, .int .i64 W.w, .slice A8 W.m.length c8, .bool W.b] 27)) (w7.heap.size) 0 (.int .i64 W.d))
          have xb303 := xb293.past (grown_set (w8.alloc (.cells #[.int .i64 W.d, .int .i64 W.w, .slice A8 W.m.length c8, .bool W.b] 27)) (w7.heap.size) 0 (.int .i64 W.d)) (by omega)
          have oR2304 := oR2294.past4 xe297 (grown_set (w8.alloc (.cells #[.int .i64 W.d, .int .i64 W.w, .slice A8 W.m.length c8, .bool W.b] 27)) (w7.heap.size) 0 (.int .i64 W.d))
          have xc305 := xc295.past (grown_set (w8.alloc (.cells #[.int .i64 W.d, .int .i64 W.w, .slice A8 W.m.length c8, .bool W.b] 27)) (w7.heap.size) 0 (.int .i64 W.d)) (by omega)
          have oO1306 := oO1296.past4 xe297 (grown_set (w8.alloc (.cells #[.int .i64 W.d, .int .i64 W.w, .slice A8 W.m.length c8, .bool W.b] 27)) (w7.heap.size) 0 (.int .i64 W.d))
          have oW1307 := oW1298.past4 xe297 (grown_set (w8.alloc (.cells #[.int .i64 W.d, .int .i64 W.w, .slice A8 W.m.length c8, .bool W.b] 27)) (w7.heap.size) 0 (.int .i64 W.d))
          have xf308 := xf299.past (grown_set (w8.alloc (.cells #[.int .i64 W.d, .int .i64 W.w, .slice A8 W.m.length c8, .bool W.b] 27)) (w7.heap.size) 0 (.int .i64 W.d)) (by omega)
          have xe309 : At ((w8.alloc (.cells #[.int .i64 W.d, .int .i64 W.w, .slice A8 W.m.length c8, .bool W.b] 27)).setCell ⟨w7.heap.size, 0, none⟩ (.int .i64 W.d)) (w7.heap.size) 27 #[.int .i64 W.d, .int .i64 O.w, .slice A7 O.m.length c7, .bool O.b] := by simpa using xe297.set 0 (.int .i64 W.d)
          clear hB290 xa291 oR1292 xb293 oR2294 xc295 oO1296 oW1298 xf299 xe297
          have hB310 := below_put hB300 (grown_set ((w8.alloc (.cells #[.int .i64 W.d, .int .i64 W.w, .slice A8 W.m.length c8, .bool W.b] 27)).setCell ⟨w7.heap.size, 0, none⟩ (.int .i64 W.d)) (w7.heap.size) 1 (.int .i64 W.w)) (by omega) (by have := hB300.size; omega)
          have xa311 := xa301.past (grown_set ((w8.alloc (.cells #[.int .i64 W.d, .int .i64 W.w, .slice A8 W.m.length c8, .bool W.b] 27)).setCell ⟨w7.heap.size, 0, none⟩ (.int .i64 W.d)) (w7.heap.size) 1 (.int .i64 W.w)) (by omega)
          have oR1312 := oR1302.past4 xe309 (grown_set ((w8.alloc (.cells #[.int .i64 W.d, .int .i64 W.w, .slice A8 W.m.length c8, .bool W.b] 27)).setCell ⟨w7.heap.size, 0, none⟩ (.int .i64 W.d)) (w7.heap.size) 1 (.int .i64 W.w))
          have xb313 := xb303.past (grown_set ((w8.alloc (.cells #[.int .i64 W.d, .int .i64 W.w, .slice A8 W.m.length c8, .bool W.b] 27)).setCell ⟨w7.heap.size, 0, none⟩ (.int .i64 W.d)) (w7.heap.size) 1 (.int .i64 W.w)) (by omega)
          have oR2314 := oR2304.past4 xe309 (grown_set ((w8.alloc (.cells #[.int .i64 W.d, .int .i64 W.w, .slice A8 W.m.length c8, .bool W.b] 27)).setCell ⟨w7.heap.size, 0, none⟩ (.int .i64 W.d)) (w7.heap.size) 1 (.int .i64 W.w))
          have xc315 := xc305.past (grown_set ((w8.alloc (.cells #[.int .i64 W.d, .int .i64 W.w, .slice A8 W.m.length c8, .bool W.b] 27)).setCell ⟨w7.heap.size, 0, none⟩ (.int .i64 W.d)) (w7.heap.size) 1 (.int .i64 W.w)) (by omega)
          have oO1316 := oO1306.past4 xe309 (grown_set ((w8.alloc (.cells #[.int .i64 W.d, .int .i64 W.w, .slice A8 W.m.length c8, .bool W.b] 27)).setCell ⟨w7.heap.size, 0, none⟩ (.int .i64 W.d)) (w7.heap.size) 1 (.int .i64 W.w))
          have oW1317 := oW1307.past4 xe309 (grown_set ((w8.alloc (.cells #[.int .i64 W.d, .int .i64 W.w, .slice A8 W.m.length c8, .bool W.b] 27)).setCell ⟨w7.heap.size, 0, none⟩ (.int .i64 W.d)) (w7.heap.size) 1 (.int .i64 W.w))
          have xf318 := xf308.past (grown_set ((w8.alloc (.cells #[.int .i64 W.d, .int .i64 W.w, .slice A8 W.m.length c8, .bool W.b] 27)).setCell ⟨w7.heap.size, 0, none⟩ (.int .i64 W.d)) (w7.heap.size) 1 (.int .i64 W.w)) (by omega)
          have xe319 : At (((w8.alloc (.cells #[.int .i64 W.d, .int .i64 W.w, .slice A8 W.m.length c8, .bool W.b] 27)).setCell ⟨w7.heap.size, 0, none⟩ (.int .i64 W.d)).setCell ⟨w7.heap.size, 1, none⟩ (.int .i64 W.w)) (w7.heap.size) 27 #[.int .i64 W.d, .int .i64 W.w, .slice A7 O.m.length c7, .bool O.b] := by simpa using xe309.set 1 (.int .i64 W.w)
          clear hB300 xa301 oR1302 xb303 oR2304 xc305 oO1306 oW1307 xf308 xe309
          have hB320 := below_put hB310 (grown_set (((w8.alloc (.cells #[.int .i64 W.d, .int .i64 W.w, .slice A8 W.m.length c8, .bool W.b] 27)).setCell ⟨w7.heap.size, 0, none⟩ (.int .i64 W.d)).setCell ⟨w7.heap.size, 1, none⟩ (.int .i64 W.w)) (w7.heap.size) 2 (.slice A8 W.m.length c8)) (by omega) (by have := hB310.size; omega)
          have xa321 := xa311.past (grown_set (((w8.alloc (.cells #[.int .i64 W.d, .int .i64 W.w, .slice A8 W.m.length c8, .bool W.b] 27)).setCell ⟨w7.heap.size, 0, none⟩ (.int .i64 W.d)).setCell ⟨w7.heap.size, 1, none⟩ (.int .i64 W.w)) (w7.heap.size) 2 (.slice A8 W.m.length c8)) (by omega)
          have oR1322 := oR1312.past4 xe319 (grown_set (((w8.alloc (.cells #[.int .i64 W.d, .int .i64 W.w, .slice A8 W.m.length c8, .bool W.b] 27)).setCell ⟨w7.heap.size, 0, none⟩ (.int .i64 W.d)).setCell ⟨w7.heap.size, 1, none⟩ (.int .i64 W.w)) (w7.heap.size) 2 (.slice A8 W.m.length c8))
          have xb323 := xb313.past (grown_set (((w8.alloc (.cells #[.int .i64 W.d, .int .i64 W.w, .slice A8 W.m.length c8, .bool W.b] 27)).setCell ⟨w7.heap.size, 0, none⟩ (.int .i64 W.d)).setCell ⟨w7.heap.size, 1, none⟩ (.int .i64 W.w)) (w7.heap.size) 2 (.slice A8 W.m.length c8)) (by omega)
          have oR2324 := oR2314.past4 xe319 (grown_set (((w8.alloc (.cells #[.int .i64 W.d, .int .i64 W.w, .slice A8 W.m.length c8, .bool W.b] 27)).setCell ⟨w7.heap.size, 0, none⟩ (.int .i64 W.d)).setCell ⟨w7.heap.size, 1, none⟩ (.int .i64 W.w)) (w7.heap.size) 2 (.slice A8 W.m.length c8))
          have xc325 := xc315.past (grown_set (((w8.alloc (.cells #[.int .i64 W.d, .int .i64 W.w, .slice A8 W.m.length c8, .bool W.b] 27)).setCell ⟨w7.heap.size, 0, none⟩ (.int .i64 W.d)).setCell ⟨w7.heap.size, 1, none⟩ (.int .i64 W.w)) (w7.heap.size) 2 (.slice A8 W.m.length c8)) (by omega)
          have oO1326 := oO1316.past4 xe319 (grown_set (((w8.alloc (.cells #[.int .i64 W.d, .int .i64 W.w, .slice A8 W.m.length c8, .bool W.b] 27)).setCell ⟨w7.heap.size, 0, none⟩ (.int .i64 W.d)).setCell ⟨w7.heap.size, 1, none⟩ (.int .i64 W.w)) (w7.heap.size) 2 (.slice A8 W.m.length c8))
          have oW1327 := oW1317.past4 xe319 (grown_set (((w8.alloc (.cells #[.int .i64 W.d, .int .i64 W.w, .slice A8 W.m.length c8, .bool W.b] 27)).setCell ⟨w7.heap.size, 0, none⟩ (.int .i64 W.d)).setCell ⟨w7.heap.size, 1, none⟩ (.int .i64 W.w)) (w7.heap.size) 2 (.slice A8 W.m.length c8))
          have xf328 := xf318.past (grown_set (((w8.alloc (.cells #[.int .i64 W.d, .int .i64 W.w, .slice A8 W.m.length c8, .bool W.b] 27)).setCell ⟨w7.heap.size, 0, none⟩ (.int .i64 W.d)).setCell ⟨w7.heap.size, 1, none⟩ (.int .i64 W.w)) (w7.heap.size) 2 (.slice A8 W.m.length c8)) (by omega)
          have xe329 : At ((((w8.alloc (.cells #[.int .i64 W.d, .int .i64 W.w, .slice A8 W.m.length c8, .bool W.b] 27)).setCell ⟨w7.heap.size, 0, none⟩ (.int .i64 W.d)).setCell ⟨w7.heap.size, 1, none⟩ (.int .i64 W.w)).setCell ⟨w7.heap.size, 2, none⟩ (.slice A8 W.m.length c8)) (w7.heap.size) 27 #[.int .i64 W.d, .int .i64 W.w, .slice A8 W.m.length c8, .bool O.b] := by simpa using xe319.set 2 (.slice A8 W.m.length c8)
          clear hB310 xa311 oR1312 xb313 oR2314 xc315 oO1316 oW1317 xf318 xe319
          have hB330 := below_put hB320 (grown_set ((((w8.alloc (.cells #[.int .i64 W.d, .int .i64 W.w, .slice A8 W.m.length c8, .bool W.b] 27)).setCell ⟨w7.heap.size, 0, none⟩ (.int .i64 W.d)).setCell ⟨w7.heap.size, 1, none⟩ (.int .i64 W.w)).setCell ⟨w7.heap.size, 2, none⟩ (.slice A8 W.m.length c8)) (w7.heap.size) 3 (.bool W.b)) (by omega) (by have := hB320.size; omega)
          have xa331 := xa321.past (grown_set ((((w8.alloc (.cells #[.int .i64 W.d, .int .i64 W.w, .slice A8 W.m.length c8, .bool W.b] 27)).setCell ⟨w7.heap.size, 0, none⟩ (.int .i64 W.d)).setCell ⟨w7.heap.size, 1, none⟩ (.int .i64 W.w)).setCell ⟨w7.heap.size, 2, none⟩ (.slice A8 W.m.length c8)) (w7.heap.size) 3 (.bool W.b)) (by omega)
          have oR1332 := oR1322.past4 xe329 (grown_set ((((w8.alloc (.cells #[.int .i64 W.d, .int .i64 W.w, .slice A8 W.m.length c8, .bool W.b] 27)).setCell ⟨w7.heap.size, 0, none⟩ (.int .i64 W.d)).setCell ⟨w7.heap.size, 1, none⟩ (.int .i64 W.w)).setCell ⟨w7.heap.size, 2, none⟩ (.slice A8 W.m.length c8)) (w7.heap.size) 3 (.bool W.b))
          have xb333 := xb323.past (grown_set ((((w8.alloc (.cells #[.int .i64 W.d, .int .i64 W.w, .slice A8 W.m.length c8, .bool W.b] 27)).setCell ⟨w7.heap.size, 0, none⟩ (.int .i64 W.d)).setCell ⟨w7.heap.size, 1, none⟩ (.int .i64 W.w)).setCell ⟨w7.heap.size, 2, none⟩ (.slice A8 W.m.length c8)) (w7.heap.size) 3 (.bool W.b)) (by omega)
          have oR2334 := oR2324.past4 xe329 (grown_set ((((w8.alloc (.cells #[.int .i64 W.d, .int .i64 W.w, .slice A8 W.m.length c8, .bool W.b] 27)).setCell ⟨w7.heap.size, 0, none⟩ (.int .i64 W.d)).setCell ⟨w7.heap.size, 1, none⟩ (.int .i64 W.w)).setCell ⟨w7.heap.size, 2, none⟩ (.slice A8 W.m.length c8)) (w7.heap.size) 3 (.bool W.b))
          have xc335 := xc325.past (grown_set ((((w8.alloc (.cells #[.int .i64 W.d, .int .i64 W.w, .slice A8 W.m.length c8, .bool W.b] 27)).setCell ⟨w7.heap.size, 0, none⟩ (.int .i64 W.d)).setCell ⟨w7.heap.size, 1, none⟩ (.int .i64 W.w)).setCell ⟨w7.heap.size, 2, none⟩ (.slice A8 W.m.length c8)) (w7.heap.size) 3 (.bool W.b)) (by omega)
          have oO1336 := oO1326.past4 xe329 (grown_set ((((w8.alloc (.cells #[.int .i64 W.d, .int .i64 W.w, .slice A8 W.m.length c8, .bool W.b] 27)).setCell ⟨w7.heap.size, 0, none⟩ (.int .i64 W.d)).setCell ⟨w7.heap.size, 1, none⟩ (.int .i64 W.w)).setCell ⟨w7.heap.size, 2, none⟩ (.slice A8 W.m.length c8)) (w7.heap.size) 3 (.bool W.b))
          have oW1337 := oW1327.past4 xe329 (grown_set ((((w8.alloc (.cells #[.int .i64 W.d, .int .i64 W.w, .slice A8 W.m.length c8, .bool W.b] 27)).setCell ⟨w7.heap.size, 0, none⟩ (.int .i64 W.d)).setCell ⟨w7.heap.size, 1, none⟩ (.int .i64 W.w)).setCell ⟨w7.heap.size, 2, none⟩ (.slice A8 W.m.length c8)) (w7.heap.size) 3 (.bool W.b))
          have xf338 := xf328.past (grown_set ((((w8.alloc (.cells #[.int .i64 W.d, .int .i64 W.w, .slice A8 W.m.length c8, .bool W.b] 27)).setCell ⟨w7.heap.size, 0, none⟩ (.int .i64 W.d)).setCell ⟨w7.heap.size, 1, none⟩ (.int .i64 W.w)).setCell ⟨w7.heap.size, 2, none⟩ (.slice A8 W.m.length c8)) (w7.heap.size) 3 (.bool W.b)) (by omega)
          have xe339 : At (((((w8.alloc (.cells #[.int .i64 W.d, .int .i64 W.w, .slice A8 W.m.length c8, .bool W.b] 27)).setCell ⟨w7.heap.size, 0, none⟩ (.int .i64 W.d)).setCell ⟨w7.heap.size, 1, none⟩ (.int .i64 W.w)).setCell ⟨w7.heap.size, 2, none⟩ (.slice A8 W.m.length c8)).setCell ⟨w7.heap.size, 3, none⟩ (.bool W.b)) (w7.heap.size) 27 #[.int .i64 W.d, .int .i64 W.w, .slice A8 W.m.length c8, .bool W.b] := by simpa using xe329.set 3 (.bool W.b)
          clear hB320 xa321 oR1322 xb323 oR2324 xc325 oO1326 oW1327 xf328 xe329
          obtain ⟨xa_0, xa_1, xa_2, xa_3, xa_l, xa_f⟩ := (⟨xa331.cell 0, xa331.cell 1, xa331.cell 2, xa331.cell 3, xa331.lt, xa331.frozen⟩ : _ ∧ _ ∧ _ ∧ _ ∧ _ ∧ _)
          obtain ⟨xb_0, xb_1, xb_2, xb_3, xb_l, xb_f⟩ := (⟨xb333.cell 0, xb333.cell 1, xb333.cell 2, xb333.cell 3, xb333.lt, xb333.frozen⟩ : _ ∧ _ ∧ _ ∧ _ ∧ _ ∧ _)
          obtain ⟨xc_0, xc_1, xc_2, xc_3, xc_l, xc_f⟩ := (⟨xc335.cell 0, xc335.cell 1, xc335.cell 2, xc335.cell 3, xc335.lt, xc335.frozen⟩ : _ ∧ _ ∧ _ ∧ _ ∧ _ ∧ _)
          obtain ⟨xe_0, xe_1, xe_2, xe_3, xe_l, xe_f⟩ := (⟨xe339.cell 0, xe339.cell 1, xe339.cell 2, xe339.cell 3, xe339.lt, xe339.frozen⟩ : _ ∧ _ ∧ _ ∧ _ ∧ _ ∧ _)
          obtain ⟨xf_0, xf_1, xf_2, xf_3, xf_l, xf_f⟩ := (⟨xf338.cell 0, xf338.cell 1, xf338.cell 2, xf338.cell 3, xf338.lt, xf338.frozen⟩ : _ ∧ _ ∧ _ ∧ _ ∧ _ ∧ _)
          have ne_xa_xe_ : ¬ w2.heap.size = w7.heap.size := by omega
          have ne_xe_xa_ : ¬ w7.heap.size = w2.heap.size := by omega
          have ne_xb_xe_ : ¬ w3.heap.size = w7.heap.size := by omega
          have ne_xe_xb_ : ¬ w7.heap.size = w3.heap.size := by omega
          have ne_xc_xe_ : ¬ w4.heap.size = w7.heap.size := by omega
          have ne_xe_xc_ : ¬ w7.heap.size = w4.heap.size := by omega
          have ne_xe_xf_ : ¬ w7.heap.size = w8.heap.size := by omega
          have ne_xf_xe_ : ¬ w8.heap.size = w7.heap.size := by omega
          go_wp2_with fail
          refine (iStepNest_any W 4 A8 c8 _ oW1337.sees oW1337.cap HWl.out).mono ?_
          rintro e w9 ⟨A9, c9, he, ho9, hb9⟩
          rw [EB.out, EL.out] at he
          rw [EB.out] at ho9
          subst he
          have sz9 : w8.heap.size + 1 ≤ w9.heap.size := Nat.le_trans (by first | exact Nat.le_refl _ | (simp; done) | (simp; omega)) (hb9.size)
          have hB340 := hB330.trans (hb9.mono hB330.size)
          have xa341 := xa331.below hb9 xa331.lt
          have oR1342 := oR1332.below hb9
          have xb343 := xb333.below hb9 xb333.lt
          have oR2344 := oR2334.below hb9
          have xc345 := xc335.below hb9 xc335.lt
          have oO1346 := oO1336.below hb9
          have xe347 := xe339.below hb9 xe339.lt
          have oW1348 := oW1337.below hb9
          have xf349 := xf338.below hb9 xf338.lt
          clear hB330 xa331 oR1332 xb333 oR2334 xc335 oO1336 xe339 oW1337 xf338
          clear xa_0 xa_1 xa_2 xa_3 xa_l xa_f xb_0 xb_1 xb_2 xb_3 xb_l xb_f xc_0 xc_1 xc_2 xc_3 xc_l xc_f xe_0 xe_1 xe_2 xe_3 xe_l xe_f xf_0 xf_1 xf_2 xf_3 xf_l xf_f ne_xa_xe_ ne_xe_xa_ ne_xb_xe_ ne_xe_xb_ ne_xc_xe_ ne_xe_xc_ ne_xe_xf_ ne_xf_xe_
          have oB1350 : OwnM w9 w2.heap.size A9 c9 C := OwnM.mono ho9 (by first | omega | (simp; omega) | (simp; done))
          clear ho9
          have hB351 := hB340.alloc hB340.size (.cells #[.int .i64 C.d, .int .i64 C.w, .slice A9 C.m.length c9, .bool C.b] 27)
          have xa352 := xa341.alloc (.cells #[.int .i64 C.d, .int .i64 C.w, .slice A9 C.m.length c9, .bool C.b] 27)
          have oR1353 := oR1342.alloc (.cells #[.int .i64 C.d, .int .i64 C.w, .slice A9 C.m.length c9, .bool C.b] 27)
          have xb354 := xb343.alloc (.cells #[.int .i64 C.d, .int .i64 C.w, .slice A9 C.m.length c9, .bool C.b] 27)
          have oR2355 := oR2344.alloc (.cells #[.int .i64 C.d, .int .i64 C.w, .slice A9 C.m.length c9, .bool C.b] 27)
          have xc356 := xc345.alloc (.cells #[.int .i64 C.d, .int .i64 C.w, .slice A9 C.m.length c9, .bool C.b] 27)
          have oO1357 := oO1346.alloc (.cells #[.int .i64 C.d, .int .i64 C.w, .slice A9 C.m.length c9, .bool C.b] 27)
          have xe358 := xe347.alloc (.cells #[.int .i64 C.d, .int .i64 C.w, .slice A9 C.m.length c9, .bool C.b] 27)
          have oW1359 := oW1348.alloc (.cells #[.int .i64 C.d, .int .i64 C.w, .slice A9 C.m.length c9, .bool C.b] 27)
          have xf360 := xf349.alloc (.cells #[.int .i64 C.d, .int .i64 C.w, .slice A9 C.m.length c9, .bool C.b] 27)
          have oB1361 := oB1350.alloc (.cells #[.int .i64 C.d, .int .i64 C.w, .slice A9 C.m.length c9, .bool C.b] 27)
          clear hB340 xa341 oR1342 xb343 oR2344 xc345 oO1346 xe347 oW1348 xf349 oB1350
          have xg362 : At (w9.alloc (.cells #[.int .i64 C.d, .int .i64 C.w, .slice A9 C.m.length c9, .bool C.b] 27)) (w9.heap.size) 27 #[.int .i64 C.d, .int .i64 C.w, .slice A9 C.m.length c9, .bool C.b] := At.newAt _ _ (by first | rfl | (simp; done) | (simp; omega))
          obtain ⟨xa_0, xa_1, xa_2, xa_3, xa_l, xa_f⟩ := (⟨xa352.cell 0, xa352.cell 1, xa352.cell 2, xa352.cell 3, xa352.lt, xa352.frozen⟩ : _ ∧ _ ∧ _ ∧ _ ∧ _ ∧ _)
          obtain ⟨xb_0, xb_1, xb_2, xb_3, xb_l, xb_f⟩ := (⟨xb354.cell 0, xb354.cell 1, xb354.cell 2, xb354.cell 3, xb354.lt, xb354.frozen⟩ : _ ∧ _ ∧ _ ∧ _ ∧ _ ∧ _)
          obtain ⟨xc_0, xc_1, xc_2, xc_3, xc_l, xc_f⟩ := (⟨xc356.cell 0, xc356.cell 1, xc356.cell 2, xc356.cell 3, xc356.lt, xc356.frozen⟩ : _ ∧ _ ∧ _ ∧ _ ∧ _ ∧ _)
          obtain ⟨xe_0, xe_1, xe_2, xe_3, xe_l, xe_f⟩ := (⟨xe358.cell 0, xe358.cell 1, xe358.cell 2, xe358.cell 3, xe358.lt, xe358.frozen⟩ : _ ∧ _ ∧ _ ∧ _ ∧ _ ∧ _)
          obtain ⟨xf_0, xf_1, xf_2, xf_3, xf_l, xf_f⟩ := (⟨xf360.cell 0, xf360.cell 1, xf360.cell 2, xf360.cell 3, xf360.lt, xf360.frozen⟩ : _ ∧ _ ∧ _ ∧ _ ∧ _ ∧ _)
          obtain ⟨xg_0, xg_1, xg_2, xg_3, xg_l, xg_f⟩ := (⟨xg362.cell 0, xg362.cell 1, xg362.cell 2, xg362.cell 3, xg362.lt, xg362.frozen⟩ : _ ∧ _ ∧ _ ∧ _ ∧ _ ∧ _)
          have ne_xa_xe_ : ¬ w2.heap.size = w7.heap.size := by omega
          have ne_xe_xa_ : ¬ w7.heap.size = w2.heap.size := by omega
          have ne_xb_xe_ : ¬ w3.heap.size = w7.heap.size := by omega
          have ne_xe_xb_ : ¬ w7.heap.size = w3.heap.size := by omega
          have ne_xc_xe_ : ¬ w4.heap.size = w7.heap.size := by omega
          have ne_xe_xc_ : ¬ w7.heap.size = w4.heap.size := by omega
          have ne_xe_xf_ : ¬ w7.heap.size = w8.heap.size := by omega
          have ne_xf_xe_ : ¬ w8.heap.size = w7.heap.size := by omega
          have ne_xe_xg_ : ¬ w7.heap.size = w9.heap.size := by omega
          have ne_xg_xe_ : ¬ w9.heap.size = w7.heap.size := by omega
          go_wp2_with fail
          with_reducible refine (equalNest_same A9 B c9 d C _ oB1361.sees (hs.on hB351) dl.n4).mono ?_
          rintro e w10 ⟨rfl, hb10⟩
          have sz10 : w9.heap.size + 1 ≤ w10.heap.size := Nat.le_trans (by first | exact Nat.le_refl _ | (simp; done) | (simp; omega)) (hb10.size)
          have hB363 := hB351.trans (hb10.mono hB351.size)
          have xa364 := xa352.below hb10 xa352.lt
          have oR1365 := oR1353.below hb10
          have xb366 := xb354.below hb10 xb354.lt
          have oR2367 := oR2355.below hb10
          have xc368 := xc356.below hb10 xc356.lt
          have oO1369 := oO1357.below hb10
          have xe370 := xe358.below hb10 xe358.lt
          have oW1371 := oW1359.below hb10
          have xf372 := xf360.below hb10 xf360.lt
          have oB1373 := oB1361.below hb10
          have xg374 := xg362.below hb10 xg362.lt
          clear hB351 xa352 oR1353 xb354 oR2355 xc356 oO1357 xe358 oW1359 xf360 oB1361 xg362
          clear xa_0 xa_1 xa_2 xa_3 xa_l xa_f xb_0 xb_1 xb_2 xb_3 xb_l xb_f xc_0 xc_1 xc_2 xc_3 xc_l xc_f xe_0 xe_1 xe_2 xe_3 xe_l xe_f xf_0 xf_1 xf_2 xf_3 xf_l xf_f xg_0 xg_1 xg_2 xg_3 xg_l xg_f ne_xa_xe_ ne_xe_xa_ ne_xb_xe_ ne_xe_xb_ ne_xc_xe_ ne_xe_xc_ ne_xe_xf_ ne_xf_xe_ ne_xe_xg_ ne_xg_xe_
          obtain ⟨xa_0, xa_1, xa_2, xa_3, xa_l, xa_f⟩ := (⟨xa364.cell 0, xa364.cell 1, xa364.cell 2, xa364.cell 3, xa364.lt, xa364.frozen⟩ : _ ∧ _ ∧ _ ∧ _ ∧ _ ∧ _)
          obtain ⟨xb_0, xb_1, xb_2, xb_3, xb_l, xb_f⟩ := (⟨xb366.cell 0, xb366.cell 1, xb366.cell 2, xb366.cell 3, xb366.lt, xb366.frozen⟩ : _ ∧ _ ∧ _ ∧ _ ∧ _ ∧ _)
          obtain ⟨xc_0, xc_1, xc_2, xc_3, xc_l, xc_f⟩ := (⟨xc368.cell 0, xc368.cell 1, xc368.cell 2, xc368.cell 3, xc368.lt, xc368.frozen⟩ : _ ∧ _ ∧ _ ∧ _ ∧ _ ∧ _)
          obtain ⟨xe_0, xe_1, xe_2, xe_3, xe_l, xe_f⟩ := (⟨xe370.cell 0, xe370.cell 1, xe370.cell 2, xe370.cell 3, xe370.lt, xe370.frozen⟩ : _ ∧ _ ∧ _ ∧ _ ∧ _ ∧ _)
          obtain ⟨xf_0, xf_1, xf_2, xf_3, xf_l, xf_f⟩ := (⟨xf372.cell 0, xf372.cell 1, xf372.cell 2, xf372.cell 3, xf372.lt, xf372.frozen⟩ : _ ∧ _ ∧ _ ∧ _ ∧ _ ∧ _)
          obtain ⟨xg_0, xg_1, xg_2, xg_3, xg_l, xg_f⟩ := (⟨xg374.cell 0, xg374.cell 1, xg374.cell 2, xg374.cell 3, xg374.lt, xg374.frozen⟩ : _ ∧ _ ∧ _ ∧ _ ∧ _ ∧ _)
          have ne_xa_xe_ : ¬ w2.heap.size = w7.heap.size := by omega
          have ne_xe_xa_ : ¬ w7.heap.size = w2.heap.size := by omega
          have ne_xb_xe_ : ¬ w3.heap.size = w7.heap.size := by omega
          have ne_xe_xb_ : ¬ w7.heap.size = w3.heap.size := by omega
          have ne_xc_xe_ : ¬ w4.heap.size = w7.heap.size := by omega
          have ne_xe_xc_ : ¬ w7.heap.size = w4.heap.size := by omega
          have ne_xe_xf_ : ¬ w7.heap.size = w8.heap.size := by omega
          have ne_xf_xe_ : ¬ w8.heap.size = w7.heap.size := by omega
          have ne_xe_xg_ : ¬ w7.heap.size = w9.heap.size := by omega
          have ne_xg_xe_ : ¬ w9.heap.size = w7.heap.size := by omega
          go_wp2
          go_ret
          exact ⟨by first | rfl | (simp; done) | (simp; omega), HB2.out.trans (hB363.mono HB2.out.size)⟩
end Go.Proofs.Ythmpeahlddfpnaa

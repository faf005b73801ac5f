/-
  The walk of the law FnStepNestBroken: at every code it returns true and changes nothing that was there. Conditions: none.
-/
import Derived.Test.YthmpeahlddfpnabLawNs
import Derived.Test.YthmpeahlddfpnabLawFrame
import Derived.BigQuiet

namespace Go.Proofs.Ythmpeahlddfpnab
open Go.RowKit Nes

set_option maxHeartbeats 8000000 in
theorem walkStepNestBroken (a : Option Addr) (len cap : Nat) (zs : List Int) (w : World) (hn : zs.length = len) (hc : len ≤ cap) (hcc : cap ≤ maxLen) (h : Sees w w.heap.size a (byts zs)) (hz : ∀ y ∈ zs, 0 ≤ y ∧ y ≤ 255) :
    Calls Try.prog 3 #[.slice a len cap] w fun e w' => e = .returned (.bool true) ∧ Below w.heap.size w w' := by
  have HE := hid hn
  have HC := hid hcc
  have HZ := hid hz
  clear hn hcc hz
  by_cases hbig : 1048576 < len
  · go_enter Try.func3, Try.ntmps3
    go_wp2
    go_ret
    exact ⟨rfl, Below.refl _ _⟩
  · go_enter Try.func3, Try.ntmps3
    go_wp2_with fail
    refine (drawStepNest_any _ _ _ _ _ h HZ.out HE.out hc (by omega) HC.out).mono ?_
    rintro e w2 ⟨B, d, C, i, rfl, dl⟩
    have hs := dl.sees
    have HB2 := hid dl.bel
    have hB0 := Below.refl w2.heap.size w2
    obtain ⟨R, hR⟩ : ∃ R, R = stepS C i := ⟨_, rfl⟩
    have ER : Hid (stepS C i = R) := hid hR.symm
    have HRl := hid (show R.m.length ≤ 4194304 by rw [hR]; exact Nat.le_trans (stepS_len C i) (by decide))
    have HR := hid hR
    clear hR
    obtain ⟨K, hK⟩ : ∃ K, K = stepB C i := ⟨_, rfl⟩
    have EK : Hid (stepB C i = K) := hid hK.symm
    have HK := hid hK
    clear hK
    have HBR := hid (fun (h : Ok C) (e : C.b = true) => broken_law h e)
    rcases (by cases C.b <;> simp : C.b = false ∨ C.b = true) with hcb | hcb
    · skip
      have hnb : (!C.b) = true := by rw [hcb]; rfl
      have HCB := hid hcb
      clear hcb
      have hB1 := hB0.alloc hB0.size (.cells #[.int .i64 C.d, .int .i64 C.w, .slice B C.m.length d, .bool C.b] 25)
      clear hB0
      have xa2 : At (w2.alloc (.cells #[.int .i64 C.d, .int .i64 C.w, .slice B C.m.length d, .bool C.b] 25)) (w2.heap.size) 25 #[.int .i64 C.d, .int .i64 C.w, .slice B C.m.length d, .bool C.b] := At.newAt _ _ (by first | rfl | (simp; done) | (simp; omega))
      obtain ⟨xa_0, xa_1, xa_2, xa_3, xa_l, xa_f⟩ := (⟨xa2.cell 0, xa2.cell 1, xa2.cell 2, xa2.cell 3, xa2.lt, xa2.frozen⟩ : _ ∧ _ ∧ _ ∧ _ ∧ _ ∧ _)
      go_wp2_with fail
      refine (iStepNest_any C i B d _ (hs.on hB1) dl.cap dl.n4).mono ?_
      rintro e w3 ⟨A3, c3, he, ho3, hb3⟩
      rw [ER.out, EK.out] at he
      rw [ER.out] at ho3
      subst he
      have sz3 : w2.heap.size + 1 ≤ w3.heap.size := Nat.le_trans (by first | exact Nat.le_refl _ | (simp; done) | (simp; omega)) (hb3.size)
      have hB3 := hB1.trans (hb3.mono hB1.size)
      have xa4 := xa2.below hb3 xa2.lt
      clear hB1 xa2
      clear xa_0 xa_1 xa_2 xa_3 xa_l xa_f
      have oR15 : OwnM w3 w2.heap.size A3 c3 R := OwnM.mono ho3 (by first | omega | (simp; omega) | (simp; done))
      clear ho3
      have hB6 := hB3.alloc hB3.size (.cells #[.int .i64 R.d, .int .i64 R.w, .slice A3 R.m.length c3, .bool R.b] 25)
      have xa7 := xa4.alloc (.cells #[.int .i64 R.d, .int .i64 R.w, .slice A3 R.m.length c3, .bool R.b] 25)
      have oR18 := oR15.alloc (.cells #[.int .i64 R.d, .int .i64 R.w, .slice A3 R.m.length c3, .bool R.b] 25)
      clear hB3 xa4 oR15
      have xb9 : At (w3.alloc (.cells #[.int .i64 R.d, .int .i64 R.w, .slice A3 R.m.length c3, .bool R.b] 25)) (w3.heap.size) 25 #[.int .i64 R.d, .int .i64 R.w, .slice A3 R.m.length c3, .bool R.b] := At.newAt _ _ (by first | rfl | (simp; done) | (simp; omega))
      obtain ⟨xa_0, xa_1, xa_2, xa_3, xa_l, xa_f⟩ := (⟨xa7.cell 0, xa7.cell 1, xa7.cell 2, xa7.cell 3, xa7.lt, xa7.frozen⟩ : _ ∧ _ ∧ _ ∧ _ ∧ _ ∧ _)
      obtain ⟨xb_0, xb_1, xb_2, xb_3, xb_l, xb_f⟩ := (⟨xb9.cell 0, xb9.cell 1, xb9.cell 2, xb9.cell 3, xb9.lt, xb9.frozen⟩ : _ ∧ _ ∧ _ ∧ _ ∧ _ ∧ _)
      go_wp2_with fail
      refine (sStepNest_any C i B d _ (hs.on hB6) dl.cap dl.n4).mono ?_
      rintro e w4 ⟨A4, c4, he, ho4, hb4⟩
      rw [ER.out, EK.out] at he
      rw [ER.out] at ho4
      subst he
      have sz4 : w3.heap.size + 1 ≤ w4.heap.size := Nat.le_trans (by first | exact Nat.le_refl _ | (simp; done) | (simp; omega)) (hb4.size)
      have hB10 := hB6.trans (hb4.mono hB6.size)
      have xa11 := xa7.below hb4 xa7.lt
      have oR112 := oR18.below hb4
      have xb13 := xb9.below hb4 xb9.lt
      clear hB6 xa7 oR18 xb9
      clear xa_0 xa_1 xa_2 xa_3 xa_l xa_f xb_0 xb_1 xb_2 xb_3 xb_l xb_f
      have oR214 : OwnM w4 w2.heap.size A4 c4 R := OwnM.mono ho4 (by first | omega | (simp; omega) | (simp; done))
      clear ho4
      have hB15 := hB10.alloc hB10.size (.cells #[.int .i64 R.d, .int .i64 R.w, .slice A4 R.m.length c4, .bool R.b] 25)
      have xa16 := xa11.alloc (.cells #[.int .i64 R.d, .int .i64 R.w, .slice A4 R.m.length c4, .bool R.b] 25)
      have oR117 := oR112.alloc (.cells #[.int .i64 R.d, .int .i64 R.w, .slice A4 R.m.length c4, .bool R.b] 25)
      have xb18 := xb13.alloc (.cells #[.int .i64 R.d, .int .i64 R.w, .slice A4 R.m.length c4, .bool R.b] 25)
      have oR219 := oR214.alloc (.cells #[.int .i64 R.d, .int .i64 R.w, .slice A4 R.m.length c4, .bool R.b] 25)
      clear hB10 xa11 oR112 xb13 oR214
      have xc20 : At (w4.alloc (.cells #[.int .i64 R.d, .int .i64 R.w, .slice A4 R.m.length c4, .bool R.b] 25)) (w4.heap.size) 25 #[.int .i64 R.d, .int .i64 R.w, .slice A4 R.m.length c4, .bool R.b] := At.newAt _ _ (by first | rfl | (simp; done) | (simp; omega))
      obtain ⟨xa_0, xa_1, xa_2, xa_3, xa_l, xa_f⟩ := (⟨xa16.cell 0, xa16.cell 1, xa16.cell 2, xa16.cell 3, xa16.lt, xa16.frozen⟩ : _ ∧ _ ∧ _ ∧ _ ∧ _ ∧ _)
      obtain ⟨xb_0, xb_1, xb_2, xb_3, xb_l, xb_f⟩ := (⟨xb18.cell 0, xb18.cell 1, xb18.cell 2, xb18.cell 3, xb18.lt, xb18.frozen⟩ : _ ∧ _ ∧ _ ∧ _ ∧ _ ∧ _)
      obtain ⟨xc_0, xc_1, xc_2, xc_3, xc_l, xc_f⟩ := (⟨xc20.cell 0, xc20.cell 1, xc20.cell 2, xc20.cell 3, xc20.lt, xc20.frozen⟩ : _ ∧ _ ∧ _ ∧ _ ∧ _ ∧ _)
      go_wp2_with fail
      with_reducible refine (equalNest_same A3 A4 c3 c4 R _ oR117.sees oR219.sees HRl.out).mono ?_
      rintro e w5 ⟨rfl, hb5⟩
      have sz5 : w4.heap.size + 1 ≤ w5.heap.size := Nat.le_trans (by first | exact Nat.le_refl _ | (simp; done) | (simp; omega)) (hb5.size)
      have hB21 := hB15.trans (hb5.mono hB15.size)
      have xa22 := xa16.below hb5 xa16.lt
      have oR123 := oR117.below hb5
      have xb24 := xb18.below hb5 xb18.lt
      have oR225 := oR219.below hb5
      have xc26 := xc20.below hb5 xc20.lt
      clear hB15 xa16 oR117 xb18 oR219 xc20
      clear xa_0 xa_1 xa_2 xa_3 xa_l xa_f xb_0 xb_1 xb_2 xb_3 xb_l xb_f xc_0 xc_1 xc_2 xc_3 xc_l xc_f
      obtain ⟨xa_0, xa_1, xa_2, xa_3, xa_l, xa_f⟩ := (⟨xa22.cell 0, xa22.cell 1, xa22.cell 2, xa22.cell 3, xa22.lt, xa22.frozen⟩ : _ ∧ _ ∧ _ ∧ _ ∧ _ ∧ _)
      obtain ⟨xb_0, xb_1, xb_2, xb_3, xb_l, xb_f⟩ := (⟨xb24.cell 0, xb24.cell 1, xb24.cell 2, xb24.cell 3, xb24.lt, xb24.frozen⟩ : _ ∧ _ ∧ _ ∧ _ ∧ _ ∧ _)
      obtain ⟨xc_0, xc_1, xc_2, xc_3, xc_l, xc_f⟩ := (⟨xc26.cell 0, xc26.cell 1, xc26.cell 2, xc26.cell 3, xc26.lt, xc26.frozen⟩ : _ ∧ _ ∧ _ ∧ _ ∧ _ ∧ _)
      go_wp2_with fail
      with_reducible refine (equalNest_same A3 A4 c3 c4 R _ oR123.sees oR225.sees HRl.out).mono ?_
      rintro e w6 ⟨rfl, hb6⟩
      have sz6 : w5.heap.size ≤ w6.heap.size := Nat.le_trans (by first | exact Nat.le_refl _ | (simp; done) | (simp; omega)) (hb6.size)
      have hB27 := hB21.trans (hb6.mono hB21.size)
      have xa28 := xa22.below hb6 xa22.lt
      have oR129 := oR123.below hb6
      have xb30 := xb24.below hb6 xb24.lt
      have oR231 := oR225.below hb6
      have xc32 := xc26.below hb6 xc26.lt
      clear hB21 xa22 oR123 xb24 oR225 xc26
      clear xa_0 xa_1 xa_2 xa_3 xa_l xa_f xb_0 xb_1 xb_2 xb_3 xb_l xb_f xc_0 xc_1 xc_2 xc_3 xc_l xc_f
      obtain ⟨xa_0, xa_1, xa_2, xa_3, xa_l, xa_f⟩ := (⟨xa28.cell 0, xa28.cell 1, xa28.cell 2, xa28.cell 3, xa28.lt, xa28.frozen⟩ : _ ∧ _ ∧ _ ∧ _ ∧ _ ∧ _)
      obtain ⟨xb_0, xb_1, xb_2, xb_3, xb_l, xb_f⟩ := (⟨xb30.cell 0, xb30.cell 1, xb30.cell 2, xb30.cell 3, xb30.lt, xb30.frozen⟩ : _ ∧ _ ∧ _ ∧ _ ∧ _ ∧ _)
      obtain ⟨xc_0, xc_1, xc_2, xc_3, xc_l, xc_f⟩ := (⟨xc32.cell 0, xc32.cell 1, xc32.cell 2, xc32.cell 3, xc32.lt, xc32.frozen⟩ : _ ∧ _ ∧ _ ∧ _ ∧ _ ∧ _)
      go_wp2
      go_ret
      exact ⟨by first | rfl | (simp; done) | (simp; omega), HB2.out.trans (hB27.mono HB2.out.size)⟩
    · skip
      have hnb : (!C.b) = false := by rw [hcb]; rfl
      rcases hv : nestB C with _ | _
      · skip
        have HV := hid hv
        have HCB := hid hcb
        clear hv hcb
        have hB33 := hB0.alloc hB0.size (.cells #[.int .i64 C.d, .int .i64 C.w, .slice B C.m.length d, .bool C.b] 25)
        clear hB0
        have xa34 : At (w2.alloc (.cells #[.int .i64 C.d, .int .i64 C.w, .slice B C.m.length d, .bool C.b] 25)) (w2.heap.size) 25 #[.int .i64 C.d, .int .i64 C.w, .slice B C.m.length d, .bool C.b] := At.newAt _ _ (by first | rfl | (simp; done) | (simp; omega))
        obtain ⟨xa_0, xa_1, xa_2, xa_3, xa_l, xa_f⟩ := (⟨xa34.cell 0, xa34.cell 1, xa34.cell 2, xa34.cell 3, xa34.lt, xa34.frozen⟩ : _ ∧ _ ∧ _ ∧ _ ∧ _ ∧ _)
        go_wp2_with fail
        refine (iStepNest_any C i B d _ (hs.on hB33) dl.cap dl.n4).mono ?_
        rintro e w3 ⟨A3, c3, he, ho3, hb3⟩
        rw [ER.out, EK.out] at he
        rw [ER.out] at ho3
        subst he
        have sz3 : w2.heap.size + 1 ≤ w3.heap.size := Nat.le_trans (by first | exact Nat.le_refl _ | (simp; done) | (simp; omega)) (hb3.size)
        have hB35 := hB33.trans (hb3.mono hB33.size)
        have xa36 := xa34.below hb3 xa34.lt
        clear hB33 xa34
        clear xa_0 xa_1 xa_2 xa_3 xa_l xa_f
        have oR137 : OwnM w3 w2.heap.size A3 c3 R := OwnM.mono ho3 (by first | omega | (simp; omega) | (simp; done))
        clear ho3
        have hB38 := hB35.alloc hB35.size (.cells #[.int .i64 R.d, .int .i64 R.w, .slice A3 R.m.length c3, .bool R.b] 25)
        have xa39 := xa36.alloc (.cells #[.int .i64 R.d, .int .i64 R.w, .slice A3 R.m.length c3, .bool R.b] 25)
        have oR140 := oR137.alloc (.cells #[.int .i64 R.d, .int .i64 R.w, .slice A3 R.m.length c3, .bool R.b] 25)
        clear hB35 xa36 oR137
        have xb41 : At (w3.alloc (.cells #[.int .i64 R.d, .int .i64 R.w, .slice A3 R.m.length c3, .bool R.b] 25)) (w3.heap.size) 25 #[.int .i64 R.d, .int .i64 R.w, .slice A3 R.m.length c3, .bool R.b] := At.newAt _ _ (by first | rfl | (simp; done) | (simp; omega))
        obtain ⟨xa_0, xa_1, xa_2, xa_3, xa_l, xa_f⟩ := (⟨xa39.cell 0, xa39.cell 1, xa39.cell 2, xa39.cell 3, xa39.lt, xa39.frozen⟩ : _ ∧ _ ∧ _ ∧ _ ∧ _ ∧ _)
        obtain ⟨xb_0, xb_1, xb_2, xb_3, xb_l, xb_f⟩ := (⟨xb41.cell 0, xb41.cell 1, xb41.cell 2, xb41.cell 3, xb41.lt, xb41.frozen⟩ : _ ∧ _ ∧ _ ∧ _ ∧ _ ∧ _)
        go_wp2_with fail
        refine (sStepNest_any C i B d _ (hs.on hB38) dl.cap dl.n4).mono ?_
        rintro e w4 ⟨A4, c4, he, ho4, hb4⟩
        rw [ER.out, EK.out] at he
        rw [ER.out] at ho4
        subst he
        have sz4 : w3.heap.size + 1 ≤ w4.heap.size := Nat.le_trans (by first | exact Nat.le_refl _ | (simp; done) | (simp; omega)) (hb4.size)
        have hB42 := hB38.trans (hb4.mono hB38.size)
        have xa43 := xa39.below hb4 xa39.lt
        have oR144 := oR140.below hb4
        have xb45 := xb41.below hb4 xb41.lt
        clear hB38 xa39 oR140 xb41
        clear xa_0 xa_1 xa_2 xa_3 xa_l xa_f xb_0 xb_1 xb_2 xb_3 xb_l xb_f
        have oR246 : OwnM w4 w2.heap.size A4 c4 R := OwnM.mono ho4 (by first | omega | (simp; omega) | (simp; done))
        clear ho4
        have hB47 := hB42.alloc hB42.size (.cells #[.int .i64 R.d, .int .i64 R.w, .slice A4 R.m.length c4, .bool R.b] 25)
        have xa48 := xa43.alloc (.cells #[.int .i64 R.d, .int .i64 R.w, .slice A4 R.m.length c4, .bool R.b] 25)
        have oR149 := oR144.alloc (.cells #[.int .i64 R.d, .int .i64 R.w, .slice A4 R.m.length c4, .bool R.b] 25)
        have xb50 := xb45.alloc (.cells #[.int .i64 R.d, .int .i64 R.w, .slice A4 R.m.length c4, .bool R.b] 25)
        have oR251 := oR246.alloc (.cells #[.int .i64 R.d, .int .i64 R.w, .slice A4 R.m.length c4, .bool R.b] 25)
        clear hB42 xa43 oR144 xb45 oR246
        have xc52 : At (w4.alloc (.cells #[.int .i64 R.d, .int .i64 R.w, .slice A4 R.m.length c4, .bool R.b] 25)) (w4.heap.size) 25 #[.int .i64 R.d, .int .i64 R.w, .slice A4 R.m.length c4, .bool R.b] := At.newAt _ _ (by first | rfl | (simp; done) | (simp; omega))
        obtain ⟨xa_0, xa_1, xa_2, xa_3, xa_l, xa_f⟩ := (⟨xa48.cell 0, xa48.cell 1, xa48.cell 2, xa48.cell 3, xa48.lt, xa48.frozen⟩ : _ ∧ _ ∧ _ ∧ _ ∧ _ ∧ _)
        obtain ⟨xb_0, xb_1, xb_2, xb_3, xb_l, xb_f⟩ := (⟨xb50.cell 0, xb50.cell 1, xb50.cell 2, xb50.cell 3, xb50.lt, xb50.frozen⟩ : _ ∧ _ ∧ _ ∧ _ ∧ _ ∧ _)
        obtain ⟨xc_0, xc_1, xc_2, xc_3, xc_l, xc_f⟩ := (⟨xc52.cell 0, xc52.cell 1, xc52.cell 2, xc52.cell 3, xc52.lt, xc52.frozen⟩ : _ ∧ _ ∧ _ ∧ _ ∧ _ ∧ _)
        go_wp2_with fail
        with_reducible refine (equalNest_same A3 A4 c3 c4 R _ oR149.sees oR251.sees HRl.out).mono ?_
        rintro e w5 ⟨rfl, hb5⟩
        have sz5 : w4.heap.size + 1 ≤ w5.heap.size := Nat.le_trans (by first | exact Nat.le_refl _ | (simp; done) | (simp; omega)) (hb5.size)
        have hB53 := hB47.trans (hb5.mono hB47.size)
        have xa54 := xa48.below hb5 xa48.lt
        have oR155 := oR149.below hb5
        have xb56 := xb50.below hb5 xb50.lt
        have oR257 := oR251.below hb5
        have xc58 := xc52.below hb5 xc52.lt
        clear hB47 xa48 oR149 xb50 oR251 xc52
        clear xa_0 xa_1 xa_2 xa_3 xa_l xa_f xb_0 xb_1 xb_2 xb_3 xb_l xb_f xc_0 xc_1 xc_2 xc_3 xc_l xc_f
        obtain ⟨xa_0, xa_1, xa_2, xa_3, xa_l, xa_f⟩ := (⟨xa54.cell 0, xa54.cell 1, xa54.cell 2, xa54.cell 3, xa54.lt, xa54.frozen⟩ : _ ∧ _ ∧ _ ∧ _ ∧ _ ∧ _)
        obtain ⟨xb_0, xb_1, xb_2, xb_3, xb_l, xb_f⟩ := (⟨xb56.cell 0, xb56.cell 1, xb56.cell 2, xb56.cell 3, xb56.lt, xb56.frozen⟩ : _ ∧ _ ∧ _ ∧ _ ∧ _ ∧ _)
        obtain ⟨xc_0, xc_1, xc_2, xc_3, xc_l, xc_f⟩ := (⟨xc58.cell 0, xc58.cell 1, xc58.cell 2, xc58.cell 3, xc58.lt, xc58.frozen⟩ : _ ∧ _ ∧ _ ∧ _ ∧ _ ∧ _)
        go_wp2_with fail
        with_reducible refine (iValidNest_any C B d _ (hs.on hB53) dl.cap dl.n4).mono ?_
        rintro e w6 ⟨he, hb6⟩
        rw [HV.out] at he
        subst he
        have sz6 : w5.heap.size ≤ w6.heap.size := Nat.le_trans (by first | exact Nat.le_refl _ | (simp; done) | (simp; omega)) (hb6.size)
        have hB59 := hB53.trans (hb6.mono hB53.size)
        have xa60 := xa54.below hb6 xa54.lt
        have oR161 := oR155.below hb6
        have xb62 := xb56.below hb6 xb56.lt
        have oR263 := oR257.below hb6
        have xc64 := xc58.below hb6 xc58.lt
        clear hB53 xa54 oR155 xb56 oR257 xc58
        clear xa_0 xa_1 xa_2 xa_3 xa_l xa_f xb_0 xb_1 xb_2 xb_3 xb_l xb_f xc_0 xc_1 xc_2 xc_3 xc_l xc_f
        obtain ⟨xa_0, xa_1, xa_2, xa_3, xa_l, xa_f⟩ := (⟨xa60.cell 0, xa60.cell 1, xa60.cell 2, xa60.cell 3, xa60.lt, xa60.frozen⟩ : _ ∧ _ ∧ _ ∧ _ ∧ _ ∧ _)
        obtain ⟨xb_0, xb_1, xb_2, xb_3, xb_l, xb_f⟩ := (⟨xb62.cell 0, xb62.cell 1, xb62.cell 2, xb62.cell 3, xb62.lt, xb62.frozen⟩ : _ ∧ _ ∧ _ ∧ _ ∧ _ ∧ _)
        obtain ⟨xc_0, xc_1, xc_2, xc_3, xc_l, xc_f⟩ := (⟨xc64.cell 0, xc64.cell 1, xc64.cell 2, xc64.cell 3, xc64.lt, xc64.frozen⟩ : _ ∧ _ ∧ _ ∧ _ ∧ _ ∧ _)
        go_wp2_with fail
        with_reducible refine (equalNest_same A3 A4 c3 c4 R _ oR161.sees oR263.sees HRl.out).mono ?_
        rintro e w7 ⟨rfl, hb7⟩
        have sz7 : w6.heap.size ≤ w7.heap.size := Nat.le_trans (by first | exact Nat.le_refl _ | (simp; done) | (simp; omega)) (hb7.size)
        have hB65 := hB59.trans (hb7.mono hB59.size)
        have xa66 := xa60.below hb7 xa60.lt
        have oR167 := oR161.below hb7
        have xb68 := xb62.below hb7 xb62.lt
        have oR269 := oR263.below hb7
        have xc70 := xc64.below hb7 xc64.lt
        clear hB59 xa60 oR161 xb62 oR263 xc64
        clear xa_0 xa_1 xa_2 xa_3 xa_l xa_f xb_0 xb_1 xb_2 xb_3 xb_l xb_f xc_0 xc_1 xc_2 xc_3 xc_l xc_f
        obtain ⟨xa_0, xa_1, xa_2, xa_3, xa_l, xa_f⟩ := (⟨xa66.cell 0, xa66.cell 1, xa66.cell 2, xa66.cell 3, xa66.lt, xa66.frozen⟩ : _ ∧ _ ∧ _ ∧ _ ∧ _ ∧ _)
        obtain ⟨xb_0, xb_1, xb_2, xb_3, xb_l, xb_f⟩ := (⟨xb68.cell 0, xb68.cell 1, xb68.cell 2, xb68.cell 3, xb68.lt, xb68.frozen⟩ : _ ∧ _ ∧ _ ∧ _ ∧ _ ∧ _)
        obtain ⟨xc_0, xc_1, xc_2, xc_3, xc_l, xc_f⟩ := (⟨xc70.cell 0, xc70.cell 1, xc70.cell 2, xc70.cell 3, xc70.lt, xc70.frozen⟩ : _ ∧ _ ∧ _ ∧ _ ∧ _ ∧ _)
        go_wp2
        go_ret
        exact ⟨by first | rfl | (simp; done) | (simp; omega), HB2.out.trans (hB65.mono HB2.out.size)⟩
      · skip
        obtain ⟨l1, l2, l3⟩ := HBR.out (nestB_iff.1 hv) hcb
        have hki := l1 i
        rw [← HK.out] at hki
        have HV := hid hv
        have HCB := hid hcb
        clear hv hcb l1
        obtain ⟨S, hS⟩ : ∃ S, S = stepS C 4 := ⟨_, rfl⟩
        have ES : Hid (stepS C 4 = S) := hid hS.symm
        have HSl := hid (show S.m.length ≤ 4194304 by rw [hS]; exact Nat.le_trans (stepS_len C 4) (by decide))
        have hsb : S.b = false := by rw [hS, stepS_yes l2]; exact l3
        have E4 := hid l2
        have hsb2 : (!S.b) = true := by rw [hsb]; rfl
        have HSB := hid hsb
        clear hS l2 l3 hsb
        by_cases i2 : i = 2
        · skip
          have i2b : (i == 2) = true := by simp [i2]
          have hkb : K = true := by rw [hki]; simp [i2]
          have HI2 := hid i2
          subst hkb
          clear i2 hki
          have hB71 := hB0.alloc hB0.size (.cells #[.int .i64 C.d, .int .i64 C.w, .slice B C.m.length d, .bool C.b] 25)
          clear hB0
          have xa72 : At (w2.alloc (.cells #[.int .i64 C.d, .int .i64 C.w, .slice B C.m.length d, .bool C.b] 25)) (w2.heap.size) 25 #[.int .i64 C.d, .int .i64 C.w, .slice B C.m.length d, .bool C.b] := At.newAt _ _ (by first | rfl | (simp; done) | (simp; omega))
          obtain ⟨xa_0, xa_1, xa_2, xa_3, xa_l, xa_f⟩ := (⟨xa72.cell 0, xa72.cell 1, xa72.cell 2, xa72.cell 3, xa72.lt, xa72.frozen⟩ : _ ∧ _ ∧ _ ∧ _ ∧ _ ∧ _)
          go_wp2_with fail
          refine (iStepNest_any C i B d _ (hs.on hB71) dl.cap dl.n4).mono ?_
          rintro e w3 ⟨A3, c3, he, ho3, hb3⟩
          rw [ER.out, EK.out] at he
          rw [ER.out] at ho3
          subst he
          have sz3 : w2.heap.size + 1 ≤ w3.heap.size := Nat.le_trans (by first | exact Nat.le_refl _ | (simp; done) | (simp; omega)) (hb3.size)
          have hB73 := hB71.trans (hb3.mono hB71.size)
          have xa74 := xa72.below hb3 xa72.lt
          clear hB71 xa72
          clear xa_0 xa_1 xa_2 xa_3 xa_l xa_f
          have oR175 : OwnM w3 w2.heap.size A3 c3 R := OwnM.mono ho3 (by first | omega | (simp; omega) | (simp; done))
          clear ho3
          have hB76 := hB73.alloc hB73.size (.cells #[.int .i64 R.d, .int .i64 R.w, .slice A3 R.m.length c3, .bool R.b] 25)
          have xa77 := xa74.alloc (.cells #[.int .i64 R.d, .int .i64 R.w, .slice A3 R.m.length c3, .bool R.b] 25)
          have oR178 := oR175.alloc (.cells #[.int .i64 R.d, .int .i64 R.w, .slice A3 R.m.length c3, .bool R.b] 25)
          clear hB73 xa74 oR175
          have xb79 : At (w3.alloc (.cells #[.int .i64 R.d, .int .i64 R.w, .slice A3 R.m.length c3, .bool R.b] 25)) (w3.heap.size) 25 #[.int .i64 R.d, .int .i64 R.w, .slice A3 R.m.length c3, .bool R.b] := At.newAt _ _ (by first | rfl | (simp; done) | (simp; omega))
          obtain ⟨xa_0, xa_1, xa_2, xa_3, xa_l, xa_f⟩ := (⟨xa77.cell 0, xa77.cell 1, xa77.cell 2, xa77.cell 3, xa77.lt, xa77.frozen⟩ : _ ∧ _ ∧ _ ∧ _ ∧ _ ∧ _)
          obtain ⟨xb_0, xb_1, xb_2, xb_3, xb_l, xb_f⟩ := (⟨xb79.cell 0, xb79.cell 1, xb79.cell 2, xb79.cell 3, xb79.lt, xb79.frozen⟩ : _ ∧ _ ∧ _ ∧ _ ∧ _ ∧ _)
          go_wp2_with fail
          refine (sStepNest_any C i B d _ (hs.on hB76) dl.cap dl.n4).mono ?_
          rintro e w4 ⟨A4, c4, he, ho4, hb4⟩
          rw [ER.out, EK.out] at he
          rw [ER.out] at ho4
          subst he
          have sz4 : w3.heap.size + 1 ≤ w4.heap.size := Nat.le_trans (by first | exact Nat.le_refl _ | (simp; done) | (simp; omega)) (hb4.size)
          have hB80 := hB76.trans (hb4.mono hB76.size)
          have xa81 := xa77.below hb4 xa77.lt
          have oR182 := oR178.below hb4
          have xb83 := xb79.below hb4 xb79.lt
          clear hB76 xa77 oR178 xb79
          clear xa_0 xa_1 xa_2 xa_3 xa_l xa_f xb_0 xb_1 xb_2 xb_3 xb_l xb_f
          have oR284 : OwnM w4 w2.heap.size A4 c4 R := OwnM.mono ho4 (by first | omega | (simp; omega) | (simp; done))
          clear ho4
          have hB85 := hB80.alloc hB80.size (.cells #[.int .i64 R.d, .int .i64 R.w, .slice A4 R.m.length c4, .bool R.b] 25)
          have xa86 := xa81.alloc (.cells #[.int .i64 R.d, .int .i64 R.w, .slice A4 R.m.length c4, .bool R.b] 25)
          have oR187 := oR182.alloc (.cells #[.int .i64 R.d, .int .i64 R.w, .slice A4 R.m.length c4, .bool R.b] 25)
          have xb88 := xb83.alloc (.cells #[.int .i64 R.d, .int .i64 R.w, .slice A4 R.m.length c4, .bool R.b] 25)
          have oR289 := oR284.alloc (.cells #[.int .i64 R.d, .int .i64 R.w, .slice A4 R.m.length c4, .bool R.b] 25)
          clear hB80 xa81 oR182 xb83 oR284
          have xc90 : At (w4.alloc (.cells #[.int .i64 R.d, .int .i64 R.w, .slice A4 R.m.length c4, .bool R.b] 25)) (w4.heap.size) 25 #[.int .i64 R.d, .int .i64 R.w, .slice A4 R.m.length c4, .bool R.b] := At.newAt _ _ (by first | rfl | (simp; done) | (simp; omega))
          obtain ⟨xa_0, xa_1, xa_2, xa_3, xa_l, xa_f⟩ := (⟨xa86.cell 0, xa86.cell 1, xa86.cell 2, xa86.cell 3, xa86.lt, xa86.frozen⟩ : _ ∧ _ ∧ _ ∧ _ ∧ _ ∧ _)
          obtain ⟨xb_0, xb_1, xb_2, xb_3, xb_l, xb_f⟩ := (⟨xb88.cell 0, xb88.cell 1, xb88.cell 2, xb88.cell 3, xb88.lt, xb88.frozen⟩ : _ ∧ _ ∧ _ ∧ _ ∧ _ ∧ _)
          obtain ⟨xc_0, xc_1, xc_2, xc_3, xc_l, xc_f⟩ := (⟨xc90.cell 0, xc90.cell 1, xc90.cell 2, xc90.cell 3, xc90.lt, xc90.frozen⟩ : _ ∧ _ ∧ _ ∧ _ ∧ _ ∧ _)
          go_wp2_with fail
          with_reducible refine (equalNest_same A3 A4 c3 c4 R _ oR187.sees oR289.sees HRl.out).mono ?_
          rintro e w5 ⟨rfl, hb5⟩
          have sz5 : w4.heap.size + 1 ≤ w5.heap.size := Nat.le_trans (by first | exact Nat.le_refl _ | (simp; done) | (simp; omega)) (hb5.size)
          have hB91 := hB85.trans (hb5.mono hB85.size)
          have xa92 := xa86.below hb5 xa86.lt
          have oR193 := oR187.below hb5
          have xb94 := xb88.below hb5 xb88.lt
          have oR295 := oR289.below hb5
          have xc96 := xc90.below hb5 xc90.lt
          clear hB85 xa86 oR187 xb88 oR289 xc90
          clear xa_0 xa_1 xa_2 xa_3 xa_l xa_f xb_0 xb_1 xb_2 xb_3 xb_l xb_f xc_0 xc_1 xc_2 xc_3 xc_l xc_f
          obtain ⟨xa_0, xa_1, xa_2, xa_3, xa_l, xa_f⟩ := (⟨xa92.cell 0, xa92.cell 1, xa92.cell 2, xa92.cell 3, xa92.lt, xa92.frozen⟩ : _ ∧ _ ∧ _ ∧ _ ∧ _ ∧ _)
          obtain ⟨xb_0, xb_1, xb_2, xb_3, xb_l, xb_f⟩ := (⟨xb94.cell 0, xb94.cell 1, xb94.cell 2, xb94.cell 3, xb94.lt, xb94.frozen⟩ : _ ∧ _ ∧ _ ∧ _ ∧ _ ∧ _)
          obtain ⟨xc_0, xc_1, xc_2, xc_3, xc_l, xc_f⟩ := (⟨xc96.cell 0, xc96.cell 1, xc96.cell 2, xc96.cell 3, xc96.lt, xc96.frozen⟩ : _ ∧ _ ∧ _ ∧ _ ∧ _ ∧ _)
          go_wp2_with fail
          with_reducible refine (iValidNest_any C B d _ (hs.on hB91) dl.cap dl.n4).mono ?_
          rintro e w6 ⟨he, hb6⟩
          rw [HV.out] at he
          subst he
          have sz6 : w5.heap.size ≤ w6.heap.size := Nat.le_trans (by first | exact Nat.le_refl _ | (simp; done) | (simp; omega)) (hb6.size)
          have hB97 := hB91.trans (hb6.mono hB91.size)
          have xa98 := xa92.below hb6 xa92.lt
          have oR199 := oR193.below hb6
          have xb100 := xb94.below hb6 xb94.lt
          have oR2101 := oR295.below hb6
          have xc102 := xc96.below hb6 xc96.lt
          clear hB91 xa92 oR193 xb94 oR295 xc96
          clear xa_0 xa_1 xa_2 xa_3 xa_l xa_f xb_0 xb_1 xb_2 xb_3 xb_l xb_f xc_0 xc_1 xc_2 xc_3 xc_l xc_f
          obtain ⟨xa_0, xa_1, xa_2, xa_3, xa_l, xa_f⟩ := (⟨xa98.cell 0, xa98.cell 1, xa98.cell 2, xa98.cell 3, xa98.lt, xa98.frozen⟩ : _ ∧ _ ∧ _ ∧ _ ∧ _ ∧ _)
          obtain ⟨xb_0, xb_1, xb_2, xb_3, xb_l, xb_f⟩ := (⟨xb100.cell 0, xb100.cell 1, xb100.cell 2, xb100.cell 3, xb100.lt, xb100.frozen⟩ : _ ∧ _ ∧ _ ∧ _ ∧ _ ∧ _)
          obtain ⟨xc_0, xc_1, xc_2, xc_3, xc_l, xc_f⟩ := (⟨xc102.cell 0, xc102.cell 1, xc102.cell 2, xc102.cell 3, xc102.lt, xc102.frozen⟩ : _ ∧ _ ∧ _ ∧ _ ∧ _ ∧ _)
          go_wp2_with fail
          refine (iStepNest_any C 4 B d _ (hs.on hB97) dl.cap dl.n4).mono ?_
          rintro e w7 ⟨A7, c7, he, ho7, hb7⟩
          rw [ES.out, E4.out] at he
          rw [ES.out] at ho7
          subst he
          have sz7 : w6.heap.size ≤ w7.heap.size := Nat.le_trans (by first | exact Nat.le_refl _ | (simp; done) | (simp; omega)) (hb7.size)
          have hB103 := hB97.trans (hb7.mono hB97.size)
          have xa104 := xa98.below hb7 xa98.lt
          have oR1105 := oR199.below hb7
          have xb106 := xb100.below hb7 xb100.lt
          have oR2107 := oR2101.below hb7
          have xc108 := xc102.below hb7 xc102.lt
          clear hB97 xa98 oR199 xb100 oR2101 xc102
          clear xa_0 xa_1 xa_2 xa_3 xa_l xa_f xb_0 xb_1 xb_2 xb_3 xb_l xb_f xc_0 xc_1 xc_2 xc_3 xc_l xc_f
          have oS1109 : OwnM w7 w2.heap.size A7 c7 S := OwnM.mono ho7 (by first | omega | (simp; omega) | (simp; done))
          clear ho7
          have hB110 := hB103.alloc hB103.size (.cells #[.int .i64 S.d, .int .i64 S.w, .slice A7 S.m.length c7, .bool S.b] 25)
          have xa111 := xa104.alloc (.cells #[.int .i64 S.d, .int .i64 S.w, .slice A7 S.m.length c7, .bool S.b] 25)
          have oR1112 := oR1105.alloc (.cells #[.int .i64 S.d, .int .i64 S.w, .slice A7 S.m.length c7, .bool S.b] 25)
          have xb113 := xb106.alloc (.cells #[.int .i64 S.d, .int .i64 S.w, .slice A7 S.m.length c7, .bool S.b] 25)
          have oR2114 := oR2107.alloc (.cells #[.int .i64 S.d, .int .i64 S.w, .slice A7 S.m.length c7, .bool S.b] 25)
          have xc115 := xc108.alloc (.cells #[.int .i64 S.d, .int .i64 S.w, .slice A7 S.m.length c7, .bool S.b] 25)
          have oS1116 := oS1109.alloc (.cells #[.int .i64 S.d, .int .i64 S.w, .slice A7 S.m.length c7, .bool S.b] 25)
          clear hB103 xa104 oR1105 xb106 oR2107 xc108 oS1109
          have xe117 : At (w7.alloc (.cells #[.int .i64 S.d, .int .i64 S.w, .slice A7 S.m.length c7, .bool S.b] 25)) (w7.heap.size) 25 #[.int .i64 S.d, .int .i64 S.w, .slice A7 S.m.length c7, .bool S.b] := At.newAt _ _ (by first | rfl | (simp; done) | (simp; omega))
          obtain ⟨xa_0, xa_1, xa_2, xa_3, xa_l, xa_f⟩ := (⟨xa111.cell 0, xa111.cell 1, xa111.cell 2, xa111.cell 3, xa111.lt, xa111.frozen⟩ : _ ∧ _ ∧ _ ∧ _ ∧ _ ∧ _)
          obtain ⟨xb_0, xb_1, xb_2, xb_3, xb_l, xb_f⟩ := (⟨xb113.cell 0, xb113.cell 1, xb113.cell 2, xb113.cell 3, xb113.lt, xb113.frozen⟩ : _ ∧ _ ∧ _ ∧ _ ∧ _ ∧ _)
          obtain ⟨xc_0, xc_1, xc_2, xc_3, xc_l, xc_f⟩ := (⟨xc115.cell 0, xc115.cell 1, xc115.cell 2, xc115.cell 3, xc115.lt, xc115.frozen⟩ : _ ∧ _ ∧ _ ∧ _ ∧ _ ∧ _)
          obtain ⟨xe_0, xe_1, xe_2, xe_3, xe_l, xe_f⟩ := (⟨xe117.cell 0, xe117.cell 1, xe117.cell 2, xe117.cell 3, xe117.lt, xe117.frozen⟩ : _ ∧ _ ∧ _ ∧ _ ∧ _ ∧ _)
          go_wp2
          go_ret
          exact ⟨by first | rfl | (simp; done) | (simp; omega), HB2.out.trans (hB110.mono HB2.out.size)⟩
        have i2b : (i == 2) = false := beq_eq_false_iff_ne.2 i2
        by_cases i4 : i = 4
        · skip
          have i4b : (i == 4) = true := by simp [i4]
          have hkb : K = true := by rw [hki]; simp [i4]
          have HI4 := hid i4
          subst hkb
          clear i4 i2 hki
          have hB118 := hB0.alloc hB0.size (.cells #[.int .i64 C.d, .int .i64 C.w, .slice B C.m.length d, .bool C.b] 25)
          clear hB0
          have xa119 : At (w2.alloc (.cells #[.int .i64 C.d, .int .i64 C.w, .slice B C.m.length d, .bool C.b] 25)) (w2.heap.size) 25 #[.int .i64 C.d, .int .i64 C.w, .slice B C.m.length d, .bool C.b] := At.newAt _ _ (by first | rfl | (simp; done) | (simp; omega))
          obtain ⟨xa_0, xa_1, xa_2, xa_3, xa_l, xa_f⟩ := (⟨xa119.cell 0, xa119.cell 1, xa119.cell 2, xa119.cell 3, xa119.lt, xa119.frozen⟩ : _ ∧ _ ∧ _ ∧ _ ∧ _ ∧ _)
          go_wp2_with fail
          refine (iStepNest_any C i B d _ (hs.on hB118) dl.cap dl.n4).mono ?_
          rintro e w3 ⟨A3, c3, he, ho3, hb3⟩
          rw [ER.out, EK.out] at he
          rw [ER.out] at ho3
          subst he
          have sz3 : w2.heap.size + 1 ≤ w3.heap.size := Nat.le_trans (by first | exact Nat.le_refl _ | (simp; done) | (simp; omega)) (hb3.size)
          have hB120 := hB118.trans (hb3.mono hB118.size)
          have xa121 := xa119.below hb3 xa119.lt
          clear hB118 xa119
          clear xa_0 xa_1 xa_2 xa_3 xa_l xa_f
          have oR1122 : OwnM w3 w2.heap.size A3 c3 R := OwnM.mono ho3 (by first | omega | (simp; omega) | (simp; done))
          clear ho3
          have hB123 := hB120.alloc hB120.size (.cells #[.int .i64 R.d, .int .i64 R.w, .slice A3 R.m.length c3, .bool R.b] 25)
          have xa124 := xa121.alloc (.cells #[.int .i64 R.d, .int .i64 R.w, .slice A3 R.m.length c3, .bool R.b] 25)
          have oR1125 := oR1122.alloc (.cells #[.int .i64 R.d, .int .i64 R.w, .slice A3 R.m.length c3, .bool R.b] 25)
          clear hB120 xa121 oR1122
          have xb126 : At (w3.alloc (.cells #[.int .i64 R.d, .int .i64 R.w, .slice A3 R.m.length c3, .bool R.b] 25)) (w3.heap.size) 25 #[.int .i64 R.d, .int .i64 R.w, .slice A3 R.m.length c3, .bool R.b] := At.newAt _ _ (by first | rfl | (simp; done) | (simp; omega))
          obtain ⟨xa_0, xa_1, xa_2, xa_3, xa_l, xa_f⟩ := (⟨xa124.cell 0, xa124.cell 1, xa124.cell 2, xa124.cell 3, xa124.lt, xa124.frozen⟩ : _ ∧ _ ∧ _ ∧ _ ∧ _ ∧ _)
          obtain ⟨xb_0, xb_1, xb_2, xb_3, xb_l, xb_f⟩ := (⟨xb126.cell 0, xb126.cell 1, xb126.cell 2, xb126.cell 3, xb126.lt, xb126.frozen⟩ : _ ∧ _ ∧ _ ∧ _ ∧ _ ∧ _)
          go_wp2_with fail
          refine (sStepNest_any C i B d _ (hs.on hB123) dl.cap dl.n4).mono ?_
          rintro e w4 ⟨A4, c4, he, ho4, hb4⟩
          rw [ER.out, EK.out] at he
          rw [ER.out] at ho4
          subst he
          have sz4 : w3.heap.size + 1 ≤ w4.heap.size := Nat.le_trans (by first | exact Nat.le_refl _ | (simp; done) | (simp; omega)) (hb4.size)
          have hB127 := hB123.trans (hb4.mono hB123.size)
          have xa128 := xa124.below hb4 xa124.lt
          have oR1129 := oR1125.below hb4
          have xb130 := xb126.below hb4 xb126.lt
          clear hB123 xa124 oR1125 xb126
          clear xa_0 xa_1 xa_2 xa_3 xa_l xa_f xb_0 xb_1 xb_2 xb_3 xb_l xb_f
          have oR2131 : OwnM w4 w2.heap.size A4 c4 R := OwnM.mono ho4 (by first | omega | (simp; omega) | (simp; done))
          clear ho4
          have hB132 := hB127.alloc hB127.size (.cells #[.int .i64 R.d, .int .i64 R.w, .slice A4 R.m.length c4, .bool R.b] 25)
          have xa133 := xa128.alloc (.cells #[.int .i64 R.d, .int .i64 R.w, .slice A4 R.m.length c4, .bool R.b] 25)
          have oR1134 := oR1129.alloc (.cells #[.int .i64 R.d, .int .i64 R.w, .slice A4 R.m.length c4, .bool R.b] 25)
          have xb135 := xb130.alloc (.cells #[.int .i64 R.d, .int .i64 R.w, .slice A4 R.m.length c4, .bool R.b] 25)
          have oR2136 := oR2131.alloc (.cells #[.int .i64 R.d, .int .i64 R.w, .slice A4 R.m.length c4, .bool R.b] 25)
          clear hB127 xa128 oR1129 xb130 oR2131
          have xc137 : At (w4.alloc (.cells #[.int .i64 R.d, .int .i64 R.w, .slice A4 R.m.length c4, .bool R.b] 25)) (w4.heap.size) 25 #[.int .i64 R.d, .int .i64 R.w, .slice A4 R.m.length c4, .bool R.b] := At.newAt _ _ (by first | rfl | (simp; done) | (simp; omega))
          obtain ⟨xa_0, xa_1, xa_2, xa_3, xa_l, xa_f⟩ := (⟨xa133.cell 0, xa133.cell 1, xa133.cell 2, xa133.cell 3, xa133.lt, xa133.frozen⟩ : _ ∧ _ ∧ _ ∧ _ ∧ _ ∧ _)
          obtain ⟨xb_0, xb_1, xb_2, xb_3, xb_l, xb_f⟩ := (⟨xb135.cell 0, xb135.cell 1, xb135.cell 2, xb135.cell 3, xb135.lt, xb135.frozen⟩ : _ ∧ _ ∧ _ ∧ _ ∧ _ ∧ _)
          obtain ⟨xc_0, xc_1, xc_2, xc_3, xc_l, xc_f⟩ := (⟨xc137.cell 0, xc137.cell 1, xc137.cell 2, xc137.cell 3, xc137.lt, xc137.frozen⟩ : _ ∧ _ ∧ _ ∧ _ ∧ _ ∧ _)
          go_wp2_with fail
          with_reducible refine (equalNest_same A3 A4 c3 c4 R _ oR1134.sees oR2136.sees HRl.out).mono ?_
          rintro e w5 ⟨rfl, hb5⟩
          have sz5 : w4.heap.size + 1 ≤ w5.heap.size := Nat.le_trans (by first | exact Nat.le_refl _ | (simp; done) | (simp; omega)) (hb5.size)
          have hB138 := hB132.trans (hb5.mono hB132.size)
          have xa139 := xa133.below hb5 xa133.lt
          have oR1140 := oR1134.below hb5
          have xb141 := xb135.below hb5 xb135.lt
          have oR2142 := oR2136.below hb5
          have xc143 := xc137.below hb5 xc137.lt
          clear hB132 xa133 oR1134 xb135 oR2136 xc137
          clear xa_0 xa_1 xa_2 xa_3 xa_l xa_f xb_0 xb_1 xb_2 xb_3 xb_l xb_f xc_0 xc_1 xc_2 xc_3 xc_l xc_f
          obtain ⟨xa_0, xa_1, xa_2, xa_3, xa_l, xa_f⟩ := (⟨xa139.cell 0, xa139.cell 1, xa139.cell 2, xa139.cell 3, xa139.lt, xa139.frozen⟩ : _ ∧ _ ∧ _ ∧ _ ∧ _ ∧ _)
          obtain ⟨xb_0, xb_1, xb_2, xb_3, xb_l, xb_f⟩ := (⟨xb141.cell 0, xb141.cell 1, xb141.cell 2, xb141.cell 3, xb141.lt, xb141.frozen⟩ : _ ∧ _ ∧ _ ∧ _ ∧ _ ∧ _)
          obtain ⟨xc_0, xc_1, xc_2, xc_3, xc_l, xc_f⟩ := (⟨xc143.cell 0, xc143.cell 1, xc143.cell 2, xc143.cell 3, xc143.lt, xc143.frozen⟩ : _ ∧ _ ∧ _ ∧ _ ∧ _ ∧ _)
          go_wp2_with fail
          with_reducible refine (iValidNest_any C B d _ (hs.on hB138) dl.cap dl.n4).mono ?_
          rintro e w6 ⟨he, hb6⟩
          rw [HV.out] at he
          subst he
          have sz6 : w5.heap.size ≤ w6.heap.size := Nat.le_trans (by first | exact Nat.le_refl _ | (simp; done) | (simp; omega)) (hb6.size)
          have hB144 := hB138.trans (hb6.mono hB138.size)
          have xa145 := xa139.below hb6 xa139.lt
          have oR1146 := oR1140.below hb6
          have xb147 := xb141.below hb6 xb141.lt
          have oR2148 := oR2142.below hb6
          have xc149 := xc143.below hb6 xc143.lt
          clear hB138 xa139 oR1140 xb141 oR2142 xc143
          clear xa_0 xa_1 xa_2 xa_3 xa_l xa_f xb_0 xb_1 xb_2 xb_3 xb_l xb_f xc_0 xc_1 xc_2 xc_3 xc_l xc_f
          obtain ⟨xa_0, xa_1, xa_2, xa_3, xa_l, xa_f⟩ := (⟨xa145.cell 0, xa145.cell 1, xa145.cell 2, xa145.cell 3, xa145.lt, xa145.frozen⟩ : _ ∧ _ ∧ _ ∧ _ ∧ _ ∧ _)
          obtain ⟨xb_0, xb_1, xb_2, xb_3, xb_l, xb_f⟩ := (⟨xb147.cell 0, xb147.cell 1, xb147.cell 2, xb147.cell 3, xb147.lt, xb147.frozen⟩ : _ ∧ _ ∧ _ ∧ _ ∧ _ ∧ _)
          obtain ⟨xc_0, xc_1, xc_2, xc_3, xc_l, xc_f⟩ := (⟨xc149.cell 0, xc149.cell 1, xc149.cell 2, xc149.cell 3, xc149.lt, xc149.frozen⟩ : _ ∧ _ ∧ _ ∧ _ ∧ _ ∧ _)
          go_wp2_with fail
          refine (iStepNest_any C 4 B d _ (hs.on hB144) dl.cap dl.n4).mono ?_
          rintro e w7 ⟨A7, c7, he, ho7, hb7⟩
          rw [ES.out, E4.out] at he
          rw [ES.out] at ho7
          subst he
          have sz7 : w6.heap.size ≤ w7.heap.size := Nat.le_trans (by first | exact Nat.le_refl _ | (simp; done) | (simp; omega)) (hb7.size)
          have hB150 := hB144.trans (hb7.mono hB144.size)
          have xa151 := xa145.below hb7 xa145.lt
          have oR1152 := oR1146.below hb7
          have xb153 := xb147.below hb7 xb147.lt
          have oR2154 := oR2148.below hb7
          have xc155 := xc149.below hb7 xc149.lt
          clear hB144 xa145 oR1146 xb147 oR2148 xc149
          clear xa_0 xa_1 xa_2 xa_3 xa_l xa_f xb_0 xb_1 xb_2 xb_3 xb_l xb_f xc_0 xc_1 xc_2 xc_3 xc_l xc_f
          have oS1156 : OwnM w7 w2.heap.size A7 c7 S := OwnM.mono ho7 (by first | omega | (simp; omega) | (simp; done))
          clear ho7
          have hB157 := hB150.alloc hB150.size (.cells #[.int .i64 S.d, .int .i64 S.w, .slice A7 S.m.length c7, .bool S.b] 25)
          have xa158 := xa151.alloc (.cells #[.int .i64 S.d, .int .i64 S.w, .slice A7 S.m.length c7, .bool S.b] 25)
          have oR1159 := oR1152.alloc (.cells #[.int .i64 S.d, .int .i64 S.w, .slice A7 S.m.length c7, .bool S.b] 25)
          have xb160 := xb153.alloc (.cells #[.int .i64 S.d, .int .i64 S.w, .slice A7 S.m.length c7, .bool S.b] 25)
          have oR2161 := oR2154.alloc (.cells #[.int .i64 S.d, .int .i64 S.w, .slice A7 S.m.length c7, .bool S.b] 25)
          have xc162 := xc155.alloc (.cells #[.int .i64 S.d, .int .i64 S.w, .slice A7 S.m.length c7, .bool S.b] 25)
          have oS1163 := oS1156.alloc (.cells #[.int .i64 S.d, .int .i64 S.w, .slice A7 S.m.length c7, .bool S.b] 25)
          clear hB150 xa151 oR1152 xb153 oR2154 xc155 oS1156
          have xe164 : At (w7.alloc (.cells #[.int .i64 S.d, .int .i64 S.w, .slice A7 S.m.length c7, .bool S.b] 25)) (w7.heap.size) 25 #[.int .i64 S.d, .int .i64 S.w, .slice A7 S.m.length c7, .bool S.b] := At.newAt _ _ (by first | rfl | (simp; done) | (simp; omega))
          obtain ⟨xa_0, xa_1, xa_2, xa_3, xa_l, xa_f⟩ := (⟨xa158.cell 0, xa158.cell 1, xa158.cell 2, xa158.cell 3, xa158.lt, xa158.frozen⟩ : _ ∧ _ ∧ _ ∧ _ ∧ _ ∧ _)
          obtain ⟨xb_0, xb_1, xb_2, xb_3, xb_l, xb_f⟩ := (⟨xb160.cell 0, xb160.cell 1, xb160.cell 2, xb160.cell 3, xb160.lt, xb160.frozen⟩ : _ ∧ _ ∧ _ ∧ _ ∧ _ ∧ _)
          obtain ⟨xc_0, xc_1, xc_2, xc_3, xc_l, xc_f⟩ := (⟨xc162.cell 0, xc162.cell 1, xc162.cell 2, xc162.cell 3, xc162.lt, xc162.frozen⟩ : _ ∧ _ ∧ _ ∧ _ ∧ _ ∧ _)
          obtain ⟨xe_0, xe_1, xe_2, xe_3, xe_l, xe_f⟩ := (⟨xe164.cell 0, xe164.cell 1, xe164.cell 2, xe164.cell 3, xe164.lt, xe164.frozen⟩ : _ ∧ _ ∧ _ ∧ _ ∧ _ ∧ _)
          go_wp2
          go_ret
          exact ⟨by first | rfl | (simp; done) | (simp; omega), HB2.out.trans (hB157.mono HB2.out.size)⟩
        · skip
          have i4b : (i == 4) = false := beq_eq_false_iff_ne.2 i4
          have hkb : K = false := by rw [hki]; simp [i2, i4]
          subst hkb
          clear i4 i2 hki
          have hB165 := hB0.alloc hB0.size (.cells #[.int .i64 C.d, .int .i64 C.w, .slice B C.m.length d, .bool C.b] 25)
          clear hB0
          have xa166 : At (w2.alloc (.cells #[.int .i64 C.d, .int .i64 C.w, .slice B C.m.length d, .bool C.b] 25)) (w2.heap.size) 25 #[.int .i64 C.d, .int .i64 C.w, .slice B C.m.length d, .bool C.b] := At.newAt _ _ (by first | rfl | (simp; done) | (simp; omega))
          obtain ⟨xa_0, xa_1, xa_2, xa_3, xa_l, xa_f⟩ := (⟨xa166.cell 0, xa166.cell 1, xa166.cell 2, xa166.cell 3, xa166.lt, xa166.frozen⟩ : _ ∧ _ ∧ _ ∧ _ ∧ _ ∧ _)
          go_wp2_with fail
          refine (iStepNest_any C i B d _ (hs.on hB165) dl.cap dl.n4).mono ?_
          rintro e w3 ⟨A3, c3, he, ho3, hb3⟩
          rw [ER.out, EK.out] at he
          rw [ER.out] at ho3
          subst he
          have sz3 : w2.heap.size + 1 ≤ w3.heap.size := Nat.le_trans (by first | exact Nat.le_refl _ | (simp; done) | (simp; omega)) (hb3.size)
          have hB167 := hB165.trans (hb3.mono hB165.size)
          have xa168 := xa166.below hb3 xa166.lt
          clear hB165 xa166
          clear xa_0 xa_1 xa_2 xa_3 xa_l xa_f
          have oR1169 : OwnM w3 w2.heap.size A3 c3 R := OwnM.mono ho3 (by first | omega | (simp; omega) | (simp; done))
          clear ho3
          have hB170 := hB167.alloc hB167.size (.cells #[.int .i64 R.d, .int .i64 R.w, .slice A3 R.m.length c3, .bool R.b] 25)
          have xa171 := xa168.alloc (.cells #[.int .i64 R.d, .int .i64 R.w, .slice A3 R.m.length c3, .bool R.b] 25)
          have oR1172 := oR1169.alloc (.cells #[.int .i64 R.d, .int .i64 R.w, .slice A3 R.m.length c3, .bool R.b] 25)
          clear hB167 xa168 oR1169
          have xb173 : At (w3.alloc (.cells #[.int .i64 R.d, .int .i64 R.w, .slice A3 R.m.length c3, .bool R.b] 25)) (w3.heap.size) 25 #[.int .i64 R.d, .int .i64 R.w, .slice A3 R.m.length c3, .bool R.b] := At.newAt _ _ (by first | rfl | (simp; done) | (simp; omega))
          obtain ⟨xa_0, xa_1, xa_2, xa_3, xa_l, xa_f⟩ := (⟨xa171.cell 0, xa171.cell 1, xa171.cell 2, xa171.cell 3, xa171.lt, xa171.frozen⟩ : _ ∧ _ ∧ _ ∧ _ ∧ _ ∧ _)
          obtain ⟨xb_0, xb_1, xb_2, xb_3, xb_l, xb_f⟩ := (⟨xb173.cell 0, xb173.cell 1, xb173.cell 2, xb173.cell 3, xb173.lt, xb173.frozen⟩ : _ ∧ _ ∧ _ ∧ _ ∧ _ ∧ _)
          go_wp2_with fail
          refine (sStepNest_any C i B d _ (hs.on hB170) dl.cap dl.n4).mono ?_
          rintro e w4 ⟨A4, c4, he, ho4, hb4⟩
          rw [ER.out, EK.out] at he
          rw [ER.out] at ho4
          subst he
          have sz4 : w3.heap.size + 1 ≤ w4.heap.size := Nat.le_trans (by first | exact Nat.le_refl _ | (simp; done) | (simp; omega)) (hb4.size)
          have hB174 := hB170.trans (hb4.mono hB170.size)
          have xa175 := xa171.below hb4 xa171.lt
          have oR1176 := oR1172.below hb4
          have xb177 := xb173.below hb4 xb173.lt
          clear hB170 xa171 oR1172 xb173
          clear xa_0 xa_1 xa_2 xa_3 xa_l xa_f xb_0 xb_1 xb_2 xb_3 xb_l xb_f
          have oR2178 : OwnM w4 w2.heap.size A4 c4 R := OwnM.mono ho4 (by first | omega | (simp; omega) | (simp; done))
          clear ho4
          have hB179 := hB174.alloc hB174.size (.cells #[.int .i64 R.d, .int .i64 R.w, .slice A4 R.m.length c4, .bool R.b] 25)
          have xa180 := xa175.alloc (.cells #[.int .i64 R.d, .int .i64 R.w, .slice A4 R.m.length c4, .bool R.b] 25)
          have oR1181 := oR1176.alloc (.cells #[.int .i64 R.d, .int .i64 R.w, .slice A4 R.m.length c4, .bool R.b] 25)
          have xb182 := xb177.alloc (.cells #[.int .i64 R.d, .int .i64 R.w, .slice A4 R.m.length c4, .bool R.b] 25)
          have oR2183 := oR2178.alloc (.cells #[.int .i64 R.d, .int .i64 R.w, .slice A4 R.m.length c4, .bool R.b] 25)
          clear hB174 xa175 oR1176 xb177 oR2178
          have xc184 : At (w4.alloc (.cells #[.int .i64 R.d, .int .i64 R.w, .slice A4 R.m.length c4, .bool R.b] 25)) (w4.heap.size) 25 #[.int .i64 R.d, .int .i64 R.w, .slice A4 R.m.length c4, .bool R.b] := At.newAt _ _ (by first | rfl | (simp; done) | (simp; omega))
          obtain ⟨xa_0, xa_1, xa_2, xa_3, xa_l, xa_f⟩ := (⟨xa180.cell 0, xa180.cell 1, xa180.cell 2, xa180.cell 3, xa180.lt, xa180.frozen⟩ : _ ∧ _ ∧ _ ∧ _ ∧ _ ∧ _)
          obtain ⟨xb_0, xb_1, xb_2, xb_3, xb_l, xb_f⟩ := (⟨xb182.cell 0, xb182.cell 1, xb182.cell 2, xb182.cell 3, xb182.lt, xb182.frozen⟩ : _ ∧ _ ∧ _ ∧ _ ∧ _ ∧ _)
          obtain ⟨xc_0, xc_1, xc_2, xc_3, xc_l, xc_f⟩ := (⟨xc184.cell 0, xc184.cell 1, xc184.cell 2, xc184.cell 3, xc184.lt, xc184.frozen⟩ : _ ∧ _ ∧ _ ∧ _ ∧ _ ∧ _)
          go_wp2_with fail
          with_reducible refine (equalNest_same A3 A4 c3 c4 R _ oR1181.sees oR2183.sees HRl.out).mono ?_
          rintro e w5 ⟨rfl, hb5⟩
          have sz5 : w4.heap.size + 1 ≤ w5.heap.size := Nat.le_trans (by first | exact Nat.le_refl _ | (simp; done) | (simp; omega)) (hb5.size)
          have hB185 := hB179.trans (hb5.mono hB179.size)
          have xa186 := xa180.below hb5 xa180.lt
          have oR1187 := oR1181.below hb5
          have xb188 := xb182.below hb5 xb182.lt
          have oR2189 := oR2183.below hb5
          have xc190 := xc184.below hb5 xc184.lt
          clear hB179 xa180 oR1181 xb182 oR2183 xc184
          clear xa_0 xa_1 xa_2 xa_3 xa_l xa_f xb_0 xb_1 xb_2 xb_3 xb_l xb_f xc_0 xc_1 xc_2 xc_3 xc_l xc_f
          obtain ⟨xa_0, xa_1, xa_2, xa_3, xa_l, xa_f⟩ := (⟨xa186.cell 0, xa186.cell 1, xa186.cell 2, xa186.cell 3, xa186.lt, xa186.frozen⟩ : _ ∧ _ ∧ _ ∧ _ ∧ _ ∧ _)
          obtain ⟨xb_0, xb_1, xb_2, xb_3, xb_l, xb_f⟩ := (⟨xb188.cell 0, xb188.cell 1, xb188.cell 2, xb188.cell 3, xb188.lt, xb188.frozen⟩ : _ ∧ _ ∧ _ ∧ _ ∧ _ ∧ _)
          obtain ⟨xc_0, xc_1, xc_2, xc_3, xc_l, xc_f⟩ := (⟨xc190.cell 0, xc190.cell 1, xc190.cell 2, xc190.cell 3, xc190.lt, xc190.frozen⟩ : _ ∧ _ ∧ _ ∧ _ ∧ _ ∧ _)
          go_wp2_with fail
          with_reducible refine (iValidNest_any C B d _ (hs.on hB185) dl.cap dl.n4).mono ?_
          rintro e w6 ⟨he, hb6⟩
          rw [HV.out] at he
          subst he
          have sz6 : w5.heap.size ≤ w6.heap.size := Nat.le_trans (by first | exact Nat.le_refl _ | (simp; done) | (simp; omega)) (hb6.size)
          have hB191 := hB185.trans (hb6.mono hB185.size)
          have xa192 := xa186.below hb6 xa186.lt
          have oR1193 := oR1187.below hb6
          have xb194 := xb188.below hb6 xb188.lt
          have oR2195 := oR2189.below hb6
          have xc196 := xc190.below hb6 xc190.lt
          clear hB185 xa186 oR1187 xb188 oR2189 xc190
          clear xa_0 xa_1 xa_2 xa_3 xa_l xa_f xb_0 xb_1 xb_2 xb_3 xb_l xb_f xc_0 xc_1 xc_2 xc_3 xc_l xc_f
          obtain ⟨xa_0, xa_1, xa_2, xa_3, xa_l, xa_f⟩ := (⟨xa192.cell 0, xa192.cell 1, xa192.cell 2, xa192.cell 3, xa192.lt, xa192.frozen⟩ : _ ∧ _ ∧ _ ∧ _ ∧ _ ∧ _)
          obtain ⟨xb_0, xb_1, xb_2, xb_3, xb_l, xb_f⟩ := (⟨xb194.cell 0, xb194.cell 1, xb194.cell 2, xb194.cell 3, xb194.lt, xb194.frozen⟩ : _ ∧ _ ∧ _ ∧ _ ∧ _ ∧ _)
          obtain ⟨xc_0, xc_1, xc_2, xc_3, xc_l, xc_f⟩ := (⟨xc196.cell 0, xc196.cell 1, xc196.cell 2, xc196.cell 3, xc196.lt, xc196.frozen⟩ : _ ∧ _ ∧ _ ∧ _ ∧ _ ∧ _)
          go_wp2_with fail
          refine (iStepNest_any C 4 B d _ (hs.on hB191) dl.cap dl.n4).mono ?_
          rintro e w7 ⟨A7, c7, he, ho7, hb7⟩
          rw [ES.out, E4.out] at he
          rw [ES.out] at ho7
          subst he
          have sz7 : w6.heap.size ≤ w7.heap.size := Nat.le_trans (by first | exact Nat.le_refl _ | (simp; done) | (simp; omega)) (hb7.size)
          have hB197 := hB191.trans (hb7.mono hB191.size)
          have xa198 := xa192.below hb7 xa192.lt
          have oR1199 := oR1193.below hb7
          have xb200 := xb194.below hb7 xb194.lt
          have oR2201 := oR2195.below hb7
          have xc202 := xc196.below hb7 xc196.lt
          clear hB191 xa192 oR1193 xb194 oR2195 xc196
          clear xa_0 xa_1 xa_2 xa_3 xa_l xa_f xb_0 xb_1 xb_2 xb_3 xb_l xb_f xc_0 xc_1 xc_2 xc_3 xc_l xc_f
          have oS1203 : OwnM w7 w2.heap.size A7 c7 S := OwnM.mono ho7 (by first | omega | (simp; omega) | (simp; done))
          clear ho7
          have hB204 := hB197.alloc hB197.size (.cells #[.int .i64 S.d, .int .i64 S.w, .slice A7 S.m.length c7, .bool S.b] 25)
          have xa205 := xa198.alloc (.cells #[.int .i64 S.d, .int .i64 S.w, .slice A7 S.m.length c7, .bool S.b] 25)
          have oR1206 := oR1199.alloc (.cells #[.int .i64 S.d, .int .i64 S.w, .slice A7 S.m.length c7, .bool S.b] 25)
          have xb207 := xb200.alloc (.cells #[.int .i64 S.d, .int .i64 S.w, .slice A7 S.m.length c7, .bool S.b] 25)
          have oR2208 := oR2201.alloc (.cells #[.int .i64 S.d, .int .i64 S.w, .slice A7 S.m.length c7, .bool S.b] 25)
          have xc209 := xc202.alloc (.cells #[.int .i64 S.d, .int .i64 S.w, .slice A7 S.m.length c7, .bool S.b] 25)
          have oS1210 := oS1203.alloc (.cells #[.int .i64 S.d, .int .i64 S.w, .slice A7 S.m.length c7, .bool S.b] 25)
          clear hB197 xa198 oR1199 xb200 oR2201 xc202 oS1203
          have xe211 : At (w7.alloc (.cells #[.int .i64 S.d, .int .i64 S.w, .slice A7 S.m.length c7, .bool S.b] 25)) (w7.heap.size) 25 #[.int .i64 S.d, .int .i64 S.w, .slice A7 S.m.length c7, .bool S.b] := At.newAt _ _ (by first | rfl | (simp; done) | (simp; omega))
          obtain ⟨xa_0, xa_1, xa_2, xa_3, xa_l, xa_f⟩ := (⟨xa205.cell 0, xa205.cell 1, xa205.cell 2, xa205.cell 3, xa205.lt, xa205.frozen⟩ : _ ∧ _ ∧ _ ∧ _ ∧ _ ∧ _)
          obtain ⟨xb_0, xb_1, xb_2, xb_3, xb_l, xb_f⟩ := (⟨xb207.cell 0, xb207.cell 1, xb207.cell 2, xb207.cell 3, xb207.lt, xb207.frozen⟩ : _ ∧ _ ∧ _ ∧ _ ∧ _ ∧ _)
          obtain ⟨xc_0, xc_1, xc_2, xc_3, xc_l, xc_f⟩ := (⟨xc209.cell 0, xc209.cell 1, xc209.cell 2, xc209.cell 3, xc209.lt, xc209.frozen⟩ : _ ∧ _ ∧ _ ∧ _ ∧ _ ∧ _)
          obtain ⟨xe_0, xe_1, xe_2, xe_3, xe_l, xe_f⟩ := (⟨xe211.cell 0, xe211.cell 1, xe211.cell 2, xe211.cell 3, xe211.lt, xe211.frozen⟩ : _ ∧ _ ∧ _ ∧ _ ∧ _ ∧ _)
          go_wp2
          go_ret
          exact ⟨by first | rfl | (simp; done) | (simp; omega), HB2.out.trans (hB204.mono HB2.out.size)⟩
end Go.Proofs.Ythmpeahlddfpnab

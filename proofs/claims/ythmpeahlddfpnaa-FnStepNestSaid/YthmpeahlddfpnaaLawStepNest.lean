/-
  The walk of the law FnStepNest: at every code it returns true and changes nothing that was there. Conditions: none.
-/
import Derived.Test.YthmpeahlddfpnaaLawNs
import Derived.Test.YthmpeahlddfpnaaLawFrame
import Derived.BigQuiet

namespace Go.Proofs.Ythmpeahlddfpnaa
open Go.RowKit Nes

set_option maxHeartbeats 4000000 in
theorem walkStepNest (a : Option Addr) (len cap : Nat) (zs : List Int) (w : World) (hn : zs.length = len) (hc : len ≤ cap) (hcc : cap ≤ maxLen) (h : Sees w w.heap.size a (byts zs)) (hz : ∀ y ∈ zs, 0 ≤ y ∧ y ≤ 255) :
    Calls Try.prog 9 #[.slice a len cap] w fun e w' => e = .returned (.bool true) ∧ Below w.heap.size w w' := by
  have HE := hid hn
  have HC := hid hcc
  have HZ := hid hz
  clear hn hcc hz
  by_cases hbig : 1048576 < len
  · go_enter Try.func9, Try.ntmps9
    go_wp2
    go_ret
    exact ⟨rfl, Below.refl _ _⟩
  · go_enter Try.func9, Try.ntmps9
    go_wp2_with fail
    refine (drawStepNest_any _ _ _ _ _ h HZ.out HE.out hc (by omega) HC.out).mono ?_
    rintro e w2 ⟨B, d, C, i, rfl, dl⟩
    have hs := dl.sees
    have HB2 := hid dl.bel
    have hB0 := Below.refl w2.heap.size w2
    obtain ⟨R, hR⟩ : ∃ R, R = stepS C i := ⟨_, rfl⟩
    have ER : Hid (stepS C i = R) := hid hR.symm
    have HRl := hid (show R.m.length ≤ 4194304 by rw [hR]; exact Nat.le_trans (stepS_len C i) (by decide))
    have HR := hid hR
    clear hR
    obtain ⟨K, hK⟩ : ∃ K, K = stepB C i := ⟨_, rfl⟩
    have EK : Hid (stepB C i = K) := hid hK.symm
    have HK := hid hK
    clear hK
    have HKT := hid (fun (e : K = true) => stepB_iff.1 (HK.out.symm.trans e))
    have HST := hid (fun (e : K = true) => (⟨by rw [HR.out, stepS_yes (HK.out.symm.trans e)]; exact nestB_iff.2 (step_ok (HK.out.symm.trans e)), by rw [HR.out, stepS_yes (HK.out.symm.trans e)]; exact step_d (HK.out.symm.trans e)⟩ : nestB R = true ∧ R.d = C.d + (if i = 0 then 1 else if i = 3 ∨ i = 4 then -1 else 0)))
    cases K with
    | false =>
      have hB1 := hB0.alloc hB0.size (.cells #[.int .i64 C.d, .int .i64 C.w, .slice B C.m.length d, .bool C.b] 27)
      clear hB0
      have xa2 : At (w2.alloc (.cells #[.int .i64 C.d, .int .i64 C.w, .slice B C.m.length d, .bool C.b] 27)) (w2.heap.size) 27 #[.int .i64 C.d, .int .i64 C.w, .slice B C.m.length d, .bool C.b] := At.newAt _ _ (by first | rfl | (simp; done) | (simp; omega))
      obtain ⟨xa_0, xa_1, xa_2, xa_3, xa_l, xa_f⟩ := (⟨xa2.cell 0, xa2.cell 1, xa2.cell 2, xa2.cell 3, xa2.lt, xa2.frozen⟩ : _ ∧ _ ∧ _ ∧ _ ∧ _ ∧ _)
      go_wp2_with fail
      refine (iStepNest_any C i B d _ (hs.on hB1) dl.cap dl.n4).mono ?_
      rintro e w3 ⟨A3, c3, he, ho3, hb3⟩
      rw [ER.out, EK.out] at he
      rw [ER.out] at ho3
      subst he
      have sz3 : w2.heap.size + 1 ≤ w3.heap.size := Nat.le_trans (by first | exact Nat.le_refl _ | (simp; done) | (simp; omega)) (hb3.size)
      have hB3 := hB1.trans (hb3.mono hB1.size)
      have xa4 := xa2.below hb3 xa2.lt
      clear hB1 xa2
      clear xa_0 xa_1 xa_2 xa_3 xa_l xa_f
      have oR15 : OwnM w3 w2.heap.size A3 c3 R := OwnM.mono ho3 (by first | omega | (simp; omega) | (simp; done))
      clear ho3
      have hB6 := hB3.alloc hB3.size (.cells #[.int .i64 R.d, .int .i64 R.w, .slice A3 R.m.length c3, .bool R.b] 27)
      have xa7 := xa4.alloc (.cells #[.int .i64 R.d, .int .i64 R.w, .slice A3 R.m.length c3, .bool R.b] 27)
      have oR18 := oR15.alloc (.cells #[.int .i64 R.d, .int .i64 R.w, .slice A3 R.m.length c3, .bool R.b] 27)
      clear hB3 xa4 oR15
      have xb9 : At (w3.alloc (.cells #[.int .i64 R.d, .int .i64 R.w, .slice A3 R.m.length c3, .bool R.b] 27)) (w3.heap.size) 27 #[.int .i64 R.d, .int .i64 R.w, .slice A3 R.m.length c3, .bool R.b] := At.newAt _ _ (by first | rfl | (simp; done) | (simp; omega))
      obtain ⟨xa_0, xa_1, xa_2, xa_3, xa_l, xa_f⟩ := (⟨xa7.cell 0, xa7.cell 1, xa7.cell 2, xa7.cell 3, xa7.lt, xa7.frozen⟩ : _ ∧ _ ∧ _ ∧ _ ∧ _ ∧ _)
      obtain ⟨xb_0, xb_1, xb_2, xb_3, xb_l, xb_f⟩ := (⟨xb9.cell 0, xb9.cell 1, xb9.cell 2, xb9.cell 3, xb9.lt, xb9.frozen⟩ : _ ∧ _ ∧ _ ∧ _ ∧ _ ∧ _)
      go_wp2_with fail
      refine (sStepNest_any C i B d _ (hs.on hB6) dl.cap dl.n4).mono ?_
      rintro e w4 ⟨A4, c4, he, ho4, hb4⟩
      rw [ER.out, EK.out] at he
      rw [ER.out] at ho4
      subst he
      have sz4 : w3.heap.size + 1 ≤ w4.heap.size := Nat.le_trans (by first | exact Nat.le_refl _ | (simp; done) | (simp; omega)) (hb4.size)
      have hB10 := hB6.trans (hb4.mono hB6.size)
      have xa11 := xa7.below hb4 xa7.lt
      have oR112 := oR18.below hb4
      have xb13 := xb9.below hb4 xb9.lt
      clear hB6 xa7 oR18 xb9
      clear xa_0 xa_1 xa_2 xa_3 xa_l xa_f xb_0 xb_1 xb_2 xb_3 xb_l xb_f
      have oR214 : OwnM w4 w2.heap.size A4 c4 R := OwnM.mono ho4 (by first | omega | (simp; omega) | (simp; done))
      clear ho4
      have hB15 := hB10.alloc hB10.size (.cells #[.int .i64 R.d, .int .i64 R.w, .slice A4 R.m.length c4, .bool R.b] 27)
      have xa16 := xa11.alloc (.cells #[.int .i64 R.d, .int .i64 R.w, .slice A4 R.m.length c4, .bool R.b] 27)
      have oR117 := oR112.alloc (.cells #[.int .i64 R.d, .int .i64 R.w, .slice A4 R.m.length c4, .bool R.b] 27)
      have xb18 := xb13.alloc (.cells #[.int .i64 R.d, .int .i64 R.w, .slice A4 R.m.length c4, .bool R.b] 27)
      have oR219 := oR214.alloc (.cells #[.int .i64 R.d, .int .i64 R.w, .slice A4 R.m.length c4, .bool R.b] 27)
      clear hB10 xa11 oR112 xb13 oR214
      have xc20 : At (w4.alloc (.cells #[.int .i64 R.d, .int .i64 R.w, .slice A4 R.m.length c4, .bool R.b] 27)) (w4.heap.size) 27 #[.int .i64 R.d, .int .i64 R.w, .slice A4 R.m.length c4, .bool R.b] := At.newAt _ _ (by first | rfl | (simp; done) | (simp; omega))
      obtain ⟨xa_0, xa_1, xa_2, xa_3, xa_l, xa_f⟩ := (⟨xa16.cell 0, xa16.cell 1, xa16.cell 2, xa16.cell 3, xa16.lt, xa16.frozen⟩ : _ ∧ _ ∧ _ ∧ _ ∧ _ ∧ _)
      obtain ⟨xb_0, xb_1, xb_2, xb_3, xb_l, xb_f⟩ := (⟨xb18.cell 0, xb18.cell 1, xb18.cell 2, xb18.cell 3, xb18.lt, xb18.frozen⟩ : _ ∧ _ ∧ _ ∧ _ ∧ _ ∧ _)
      obtain ⟨xc_0, xc_1, xc_2, xc_3, xc_l, xc_f⟩ := (⟨xc20.cell 0, xc20.cell 1, xc20.cell 2, xc20.cell 3, xc20.lt, xc20.frozen⟩ : _ ∧ _ ∧ _ ∧ _ ∧ _ ∧ _)
      go_wp2_with fail
      with_reducible refine (equalNest_same A3 A4 c3 c4 R _ oR117.sees oR219.sees HRl.out).mono ?_
      rintro e w5 ⟨rfl, hb5⟩
      have sz5 : w4.heap.size + 1 ≤ w5.heap.size := Nat.le_trans (by first | exact Nat.le_refl _ | (simp; done) | (simp; omega)) (hb5.size)
      have hB21 := hB15.trans (hb5.mono hB15.size)
      have xa22 := xa16.below hb5 xa16.lt
      have oR123 := oR117.below hb5
      have xb24 := xb18.below hb5 xb18.lt
      have oR225 := oR219.below hb5
      have xc26 := xc20.below hb5 xc20.lt
      clear hB15 xa16 oR117 xb18 oR219 xc20
      clear xa_0 xa_1 xa_2 xa_3 xa_l xa_f xb_0 xb_1 xb_2 xb_3 xb_l xb_f xc_0 xc_1 xc_2 xc_3 xc_l xc_f
      obtain ⟨xa_0, xa_1, xa_2, xa_3, xa_l, xa_f⟩ := (⟨xa22.cell 0, xa22.cell 1, xa22.cell 2, xa22.cell 3, xa22.lt, xa22.frozen⟩ : _ ∧ _ ∧ _ ∧ _ ∧ _ ∧ _)
      obtain ⟨xb_0, xb_1, xb_2, xb_3, xb_l, xb_f⟩ := (⟨xb24.cell 0, xb24.cell 1, xb24.cell 2, xb24.cell 3, xb24.lt, xb24.frozen⟩ : _ ∧ _ ∧ _ ∧ _ ∧ _ ∧ _)
      obtain ⟨xc_0, xc_1, xc_2, xc_3, xc_l, xc_f⟩ := (⟨xc26.cell 0, xc26.cell 1, xc26.cell 2, xc26.cell 3, xc26.lt, xc26.frozen⟩ : _ ∧ _ ∧ _ ∧ _ ∧ _ ∧ _)
      go_wp2_with fail
      with_reducible refine (equalNest_same A3 A4 c3 c4 R _ oR123.sees oR225.sees HRl.out).mono ?_
      rintro e w6 ⟨rfl, hb6⟩
      have sz6 : w5.heap.size ≤ w6.heap.size := Nat.le_trans (by first | exact Nat.le_refl _ | (simp; done) | (simp; omega)) (hb6.size)
      have hB27 := hB21.trans (hb6.mono hB21.size)
      have xa28 := xa22.below hb6 xa22.lt
      have oR129 := oR123.below hb6
      have xb30 := xb24.below hb6 xb24.lt
      have oR231 := oR225.below hb6
      have xc32 := xc26.below hb6 xc26.lt
      clear hB21 xa22 oR123 xb24 oR225 xc26
      clear xa_0 xa_1 xa_2 xa_3 xa_l xa_f xb_0 xb_1 xb_2 xb_3 xb_l xb_f xc_0 xc_1 xc_2 xc_3 xc_l xc_f
      obtain ⟨xa_0, xa_1, xa_2, xa_3, xa_l, xa_f⟩ := (⟨xa28.cell 0, xa28.cell 1, xa28.cell 2, xa28.cell 3, xa28.lt, xa28.frozen⟩ : _ ∧ _ ∧ _ ∧ _ ∧ _ ∧ _)
      obtain ⟨xb_0, xb_1, xb_2, xb_3, xb_l, xb_f⟩ := (⟨xb30.cell 0, xb30.cell 1, xb30.cell 2, xb30.cell 3, xb30.lt, xb30.frozen⟩ : _ ∧ _ ∧ _ ∧ _ ∧ _ ∧ _)
      obtain ⟨xc_0, xc_1, xc_2, xc_3, xc_l, xc_f⟩ := (⟨xc32.cell 0, xc32.cell 1, xc32.cell 2, xc32.cell 3, xc32.lt, xc32.frozen⟩ : _ ∧ _ ∧ _ ∧ _ ∧ _ ∧ _)
      go_wp2
      go_ret
      exact ⟨by first | rfl | (simp; done) | (simp; omega), HB2.out.trans (hB27.mono HB2.out.size)⟩
    | true =>
      obtain ⟨hok, hk⟩ := HKT.out rfl
      obtain ⟨hv, hd⟩ := HST.out rfl
      have HV := hid hv
      have hC := hok.1
      have hk5 := can_kind hk
      clear hv hok hk
      rcases hk5 with rfl | rfl | rfl | rfl | rfl
      · skip
        have hd2 : R.d = C.d + 1 := by rw [hd]; simp
        have hdb : (R.d == C.d + 1) = true := by simp [hd2]
        have hw : IntKind.i64.wrap (C.d + 1) = C.d + 1 := by rw [IntKind.wrap_i64]; omega
        have HD2 := hid hd2
        clear hd2 hd
        have hB33 := hB0.alloc hB0.size (.cells #[.int .i64 C.d, .int .i64 C.w, .slice B C.m.length d, .bool C.b] 27)
        clear hB0
        have xa34 : At (w2.alloc (.cells #[.int .i64 C.d, .int .i64 C.w, .slice B C.m.length d, .bool C.b] 27)) (w2.heap.size) 27 #[.int .i64 C.d, .int .i64 C.w, .slice B C.m.length d, .bool C.b] := At.newAt _ _ (by first | rfl | (simp; done) | (simp; omega))
        obtain ⟨xa_0, xa_1, xa_2, xa_3, xa_l, xa_f⟩ := (⟨xa34.cell 0, xa34.cell 1, xa34.cell 2, xa34.cell 3, xa34.lt, xa34.frozen⟩ : _ ∧ _ ∧ _ ∧ _ ∧ _ ∧ _)
        go_wp2_with fail
        refine (iStepNest_any C 0 B d _ (hs.on hB33) dl.cap dl.n4).mono ?_
        rintro e w3 ⟨A3, c3, he, ho3, hb3⟩
        rw [ER.out, EK.out] at he
        rw [ER.out] at ho3
        subst he
        have sz3 : w2.heap.size + 1 ≤ w3.heap.size := Nat.le_trans (by first | exact Nat.le_refl _ | (simp; done) | (simp; omega)) (hb3.size)
        have hB35 := hB33.trans (hb3.mono hB33.size)
        have xa36 := xa34.below hb3 xa34.lt
        clear hB33 xa34
        clear xa_0 xa_1 xa_2 xa_3 xa_l xa_f
        have oR137 : OwnM w3 w2.heap.size A3 c3 R := OwnM.mono ho3 (by first | omega | (simp; omega) | (simp; done))
        clear ho3
        have hB38 := hB35.alloc hB35.size (.cells #[.int .i64 R.d, .int .i64 R.w, .slice A3 R.m.length c3, .bool R.b] 27)
        have xa39 := xa36.alloc (.cells #[.int .i64 R.d, .int .i64 R.w, .slice A3 R.m.length c3, .bool R.b] 27)
        have oR140 := oR137.alloc (.cells #[.int .i64 R.d, .int .i64 R.w, .slice A3 R.m.length c3, .bool R.b] 27)
        clear hB35 xa36 oR137
        have xb41 : At (w3.alloc (.cells #[.int .i64 R.d, .int .i64 R.w, .slice A3 R.m.length c3, .bool R.b] 27)) (w3.heap.size) 27 #[.int .i64 R.d, .int .i64 R.w, .slice A3 R.m.length c3, .bool R.b] := At.newAt _ _ (by first | rfl | (simp; done) | (simp; omega))
        obtain ⟨xa_0, xa_1, xa_2, xa_3, xa_l, xa_f⟩ := (⟨xa39.cell 0, xa39.cell 1, xa39.cell 2, xa39.cell 3, xa39.lt, xa39.frozen⟩ : _ ∧ _ ∧ _ ∧ _ ∧ _ ∧ _)
        obtain ⟨xb_0, xb_1, xb_2, xb_3, xb_l, xb_f⟩ := (⟨xb41.cell 0, xb41.cell 1, xb41.cell 2, xb41.cell 3, xb41.lt, xb41.frozen⟩ : _ ∧ _ ∧ _ ∧ _ ∧ _ ∧ _)
        go_wp2_with fail
        refine (sStepNest_any C 0 B d _ (hs.on hB38) dl.cap dl.n4).mono ?_
        rintro e w4 ⟨A4, c4, he, ho4, hb4⟩
        rw [ER.out, EK.out] at he
        rw [ER.out] at ho4
        subst he
        have sz4 : w3.heap.size + 1 ≤ w4.heap.size := Nat.le_trans (by first | exact Nat.le_refl _ | (simp; done) | (simp; omega)) (hb4.size)
        have hB42 := hB38.trans (hb4.mono hB38.size)
        have xa43 := xa39.below hb4 xa39.lt
        have oR144 := oR140.below hb4
        have xb45 := xb41.below hb4 xb41.lt
        clear hB38 xa39 oR140 xb41
        clear xa_0 xa_1 xa_2 xa_3 xa_l xa_f xb_0 xb_1 xb_2 xb_3 xb_l xb_f
        have oR246 : OwnM w4 w2.heap.size A4 c4 R := OwnM.mono ho4 (by first | omega | (simp; omega) | (simp; done))
        clear ho4
        have hB47 := hB42.alloc hB42.size (.cells #[.int .i64 R.d, .int .i64 R.w, .slice A4 R.m.length c4, .bool R.b] 27)
        have xa48 := xa43.alloc (.cells #[.int .i64 R.d, .int .i64 R.w, .slice A4 R.m.length c4, .bool R.b] 27)
        have oR149 := oR144.alloc (.cells #[.int .i64 R.d, .int .i64 R.w, .slice A4 R.m.length c4, .bool R.b] 27)
        have xb50 := xb45.alloc (.cells #[.int .i64 R.d, .int .i64 R.w, .slice A4 R.m.length c4, .bool R.b] 27)
        have oR251 := oR246.alloc (.cells #[.int .i64 R.d, .int .i64 R.w, .slice A4 R.m.length c4, .bool R.b] 27)
        clear hB42 xa43 oR144 xb45 oR246
        have xc52 : At (w4.alloc (.cells #[.int .i64 R.d, .int .i64 R.w, .slice A4 R.m.length c4, .bool R.b] 27)) (w4.heap.size) 27 #[.int .i64 R.d, .int .i64 R.w, .slice A4 R.m.length c4, .bool R.b] := At.newAt _ _ (by first | rfl | (simp; done) | (simp; omega))
        obtain ⟨xa_0, xa_1, xa_2, xa_3, xa_l, xa_f⟩ := (⟨xa48.cell 0, xa48.cell 1, xa48.cell 2, xa48.cell 3, xa48.lt, xa48.frozen⟩ : _ ∧ _ ∧ _ ∧ _ ∧ _ ∧ _)
        obtain ⟨xb_0, xb_1, xb_2, xb_3, xb_l, xb_f⟩ := (⟨xb50.cell 0, xb50.cell 1, xb50.cell 2, xb50.cell 3, xb50.lt, xb50.frozen⟩ : _ ∧ _ ∧ _ ∧ _ ∧ _ ∧ _)
        obtain ⟨xc_0, xc_1, xc_2, xc_3, xc_l, xc_f⟩ := (⟨xc52.cell 0, xc52.cell 1, xc52.cell 2, xc52.cell 3, xc52.lt, xc52.frozen⟩ : _ ∧ _ ∧ _ ∧ _ ∧ _ ∧ _)
        go_wp2_with fail
        with_reducible refine (equalNest_same A3 A4 c3 c4 R _ oR149.sees oR251.sees HRl.out).mono ?_
        rintro e w5 ⟨rfl, hb5⟩
        have sz5 : w4.heap.size + 1 ≤ w5.heap.size := Nat.le_trans (by first | exact Nat.le_refl _ | (simp; done) | (simp; omega)) (hb5.size)
        have hB53 := hB47.trans (hb5.mono hB47.size)
        have xa54 := xa48.below hb5 xa48.lt
        have oR155 := oR149.below hb5
        have xb56 := xb50.below hb5 xb50.lt
        have oR257 := oR251.below hb5
        have xc58 := xc52.below hb5 xc52.lt
        clear hB47 xa48 oR149 xb50 oR251 xc52
        clear xa_0 xa_1 xa_2 xa_3 xa_l xa_f xb_0 xb_1 xb_2 xb_3 xb_l xb_f xc_0 xc_1 xc_2 xc_3 xc_l xc_f
        obtain ⟨xa_0, xa_1, xa_2, xa_3, xa_l, xa_f⟩ := (⟨xa54.cell 0, xa54.cell 1, xa54.cell 2, xa54.cell 3, xa54.lt, xa54.frozen⟩ : _ ∧ _ ∧ _ ∧ _ ∧ _ ∧ _)
        obtain ⟨xb_0, xb_1, xb_2, xb_3, xb_l, xb_f⟩ := (⟨xb56.cell 0, xb56.cell 1, xb56.cell 2, xb56.cell 3, xb56.lt, xb56.frozen⟩ : _ ∧ _ ∧ _ ∧ _ ∧ _ ∧ _)
        obtain ⟨xc_0, xc_1, xc_2, xc_3, xc_l, xc_f⟩ := (⟨xc58.cell 0, xc58.cell 1, xc58.cell 2, xc58.cell 3, xc58.lt, xc58.frozen⟩ : _ ∧ _ ∧ _ ∧ _ ∧ _ ∧ _)
        go_wp2_with fail
        with_reducible refine (iValidNest_any R A3 c3 _ oR155.sees oR155.cap HRl.out).mono ?_
        rintro e w6 ⟨he, hb6⟩
        rw [HV.out] at he
        subst he
        have sz6 : w5.heap.size ≤ w6.heap.size := Nat.le_trans (by first | exact Nat.le_refl _ | (simp; done) | (simp; omega)) (hb6.size)
        have hB59 := hB53.trans (hb6.mono hB53.size)
        have xa60 := xa54.below hb6 xa54.lt
        have oR161 := oR155.below hb6
        have xb62 := xb56.below hb6 xb56.lt
        have oR263 := oR257.below hb6
        have xc64 := xc58.below hb6 xc58.lt
        clear hB53 xa54 oR155 xb56 oR257 xc58
        clear xa_0 xa_1 xa_2 xa_3 xa_l xa_f xb_0 xb_1 xb_2 xb_3 xb_l xb_f xc_0 xc_1 xc_2 xc_3 xc_l xc_f
        obtain ⟨xa_0, xa_1, xa_2, xa_3, xa_l, xa_f⟩ := (⟨xa60.cell 0, xa60.cell 1, xa60.cell 2, xa60.cell 3, xa60.lt, xa60.frozen⟩ : _ ∧ _ ∧ _ ∧ _ ∧ _ ∧ _)
        obtain ⟨xb_0, xb_1, xb_2, xb_3, xb_l, xb_f⟩ := (⟨xb62.cell 0, xb62.cell 1, xb62.cell 2, xb62.cell 3, xb62.lt, xb62.frozen⟩ : _ ∧ _ ∧ _ ∧ _ ∧ _ ∧ _)
        obtain ⟨xc_0, xc_1, xc_2, xc_3, xc_l, xc_f⟩ := (⟨xc64.cell 0, xc64.cell 1, xc64.cell 2, xc64.cell 3, xc64.lt, xc64.frozen⟩ : _ ∧ _ ∧ _ ∧ _ ∧ _ ∧ _)
        go_wp2
        go_ret
        exact ⟨by first | rfl | (simp; done) | (simp; omega), HB2.out.trans (hB59.mono HB2.out.size)⟩
      · skip
        have hd2 : R.d = C.d + 0 := by rw [hd]; simp
        have hdb : (R.d == C.d + 0) = true := by simp [hd2]
        have hw : IntKind.i64.wrap (C.d + 0) = C.d + 0 := by rw [IntKind.wrap_i64]; omega
        have hdc : (R.d == C.d) = true := by rw [hd2]; simp
        have HD2 := hid hd2
        clear hd2 hd
        have hB65 := hB0.alloc hB0.size (.cells #[.int .i64 C.d, .int .i64 C.w, .slice B C.m.length d, .bool C.b] 27)
        clear hB0
        have xa66 : At (w2.alloc (.cells #[.int .i64 C.d, .int .i64 C.w, .slice B C.m.length d, .bool C.b] 27)) (w2.heap.size) 27 #[.int .i64 C.d, .int .i64 C.w, .slice B C.m.length d, .bool C.b] := At.newAt _ _ (by first | rfl | (simp; done) | (simp; omega))
        obtain ⟨xa_0, xa_1, xa_2, xa_3, xa_l, xa_f⟩ := (⟨xa66.cell 0, xa66.cell 1, xa66.cell 2, xa66.cell 3, xa66.lt, xa66.frozen⟩ : _ ∧ _ ∧ _ ∧ _ ∧ _ ∧ _)
        go_wp2_with fail
        refine (iStepNest_any C 1 B d _ (hs.on hB65) dl.cap dl.n4).mono ?_
        rintro e w3 ⟨A3, c3, he, ho3, hb3⟩
        rw [ER.out, EK.out] at he
        rw [ER.out] at ho3
        subst he
        have sz3 : w2.heap.size + 1 ≤ w3.heap.size := Nat.le_trans (by first | exact Nat.le_refl _ | (simp; done) | (simp; omega)) (hb3.size)
        have hB67 := hB65.trans (hb3.mono hB65.size)
        have xa68 := xa66.below hb3 xa66.lt
        clear hB65 xa66
        clear xa_0 xa_1 xa_2 xa_3 xa_l xa_f
        have oR169 : OwnM w3 w2.heap.size A3 c3 R := OwnM.mono ho3 (by first | omega | (simp; omega) | (simp; done))
        clear ho3
        have hB70 := hB67.alloc hB67.size (.cells #[.int .i64 R.d, .int .i64 R.w, .slice A3 R.m.length c3, .bool R.b] 27)
        have xa71 := xa68.alloc (.cells #[.int .i64 R.d, .int .i64 R.w, .slice A3 R.m.length c3, .bool R.b] 27)
        have oR172 := oR169.alloc (.cells #[.int .i64 R.d, .int .i64 R.w, .slice A3 R.m.length c3, .bool R.b] 27)
        clear hB67 xa68 oR169
        have xb73 : At (w3.alloc (.cells #[.int .i64 R.d, .int .i64 R.w, .slice A3 R.m.length c3, .bool R.b] 27)) (w3.heap.size) 27 #[.int .i64 R.d, .int .i64 R.w, .slice A3 R.m.length c3, .bool R.b] := At.newAt _ _ (by first | rfl | (simp; done) | (simp; omega))
        obtain ⟨xa_0, xa_1, xa_2, xa_3, xa_l, xa_f⟩ := (⟨xa71.cell 0, xa71.cell 1, xa71.cell 2, xa71.cell 3, xa71.lt, xa71.frozen⟩ : _ ∧ _ ∧ _ ∧ _ ∧ _ ∧ _)
        obtain ⟨xb_0, xb_1, xb_2, xb_3, xb_l, xb_f⟩ := (⟨xb73.cell 0, xb73.cell 1, xb73.cell 2, xb73.cell 3, xb73.lt, xb73.frozen⟩ : _ ∧ _ ∧ _ ∧ _ ∧ _ ∧ _)
        go_wp2_with fail
        refine (sStepNest_any C 1 B d _ (hs.on hB70) dl.cap dl.n4).mono ?_
        rintro e w4 ⟨A4, c4, he, ho4, hb4⟩
        rw [ER.out, EK.out] at he
        rw [ER.out] at ho4
        subst he
        have sz4 : w3.heap.size + 1 ≤ w4.heap.size := Nat.le_trans (by first | exact Nat.le_refl _ | (simp; done) | (simp; omega)) (hb4.size)
        have hB74 := hB70.trans (hb4.mono hB70.size)
        have xa75 := xa71.below hb4 xa71.lt
        have oR176 := oR172.below hb4
        have xb77 := xb73.below hb4 xb73.lt
        clear hB70 xa71 oR172 xb73
        clear xa_0 xa_1 xa_2 xa_3 xa_l xa_f xb_0 xb_1 xb_2 xb_3 xb_l xb_f
        have oR278 : OwnM w4 w2.heap.size A4 c4 R := OwnM.mono ho4 (by first | omega | (simp; omega) | (simp; done))
        clear ho4
        have hB79 := hB74.alloc hB74.size (.cells #[.int .i64 R.d, .int .i64 R.w, .slice A4 R.m.length c4, .bool R.b] 27)
        have xa80 := xa75.alloc (.cells #[.int .i64 R.d, .int .i64 R.w, .slice A4 R.m.length c4, .bool R.b] 27)
        have oR181 := oR176.alloc (.cells #[.int .i64 R.d, .int .i64 R.w, .slice A4 R.m.length c4, .bool R.b] 27)
        have xb82 := xb77.alloc (.cells #[.int .i64 R.d, .int .i64 R.w, .slice A4 R.m.length c4, .bool R.b] 27)
        have oR283 := oR278.alloc (.cells #[.int .i64 R.d, .int .i64 R.w, .slice A4 R.m.length c4, .bool R.b] 27)
        clear hB74 xa75 oR176 xb77 oR278
        have xc84 : At (w4.alloc (.cells #[.int .i64 R.d, .int .i64 R.w, .slice A4 R.m.length c4, .bool R.b] 27)) (w4.heap.size) 27 #[.int .i64 R.d, .int .i64 R.w, .slice A4 R.m.length c4, .bool R.b] := At.newAt _ _ (by first | rfl | (simp; done) | (simp; omega))
        obtain ⟨xa_0, xa_1, xa_2, xa_3, xa_l, xa_f⟩ := (⟨xa80.cell 0, xa80.cell 1, xa80.cell 2, xa80.cell 3, xa80.lt, xa80.frozen⟩ : _ ∧ _ ∧ _ ∧ _ ∧ _ ∧ _)
        obtain ⟨xb_0, xb_1, xb_2, xb_3, xb_l, xb_f⟩ := (⟨xb82.cell 0, xb82.cell 1, xb82.cell 2, xb82.cell 3, xb82.lt, xb82.frozen⟩ : _ ∧ _ ∧ _ ∧ _ ∧ _ ∧ _)
        obtain ⟨xc_0, xc_1, xc_2, xc_3, xc_l, xc_f⟩ := (⟨xc84.cell 0, xc84.cell 1, xc84.cell 2, xc84.cell 3, xc84.lt, xc84.frozen⟩ : _ ∧ _ ∧ _ ∧ _ ∧ _ ∧ _)
        go_wp2_with fail
        with_reducible refine (equalNest_same A3 A4 c3 c4 R _ oR181.sees oR283.sees HRl.out).mono ?_
        rintro e w5 ⟨rfl, hb5⟩
        have sz5 : w4.heap.size + 1 ≤ w5.heap.size := Nat.le_trans (by first | exact Nat.le_refl _ | (simp; done) | (simp; omega)) (hb5.size)
        have hB85 := hB79.trans (hb5.mono hB79.size)
        have xa86 := xa80.below hb5 xa80.lt
        have oR187 := oR181.below hb5
        have xb88 := xb82.below hb5 xb82.lt
        have oR289 := oR283.below hb5
        have xc90 := xc84.below hb5 xc84.lt
        clear hB79 xa80 oR181 xb82 oR283 xc84
        clear xa_0 xa_1 xa_2 xa_3 xa_l xa_f xb_0 xb_1 xb_2 xb_3 xb_l xb_f xc_0 xc_1 xc_2 xc_3 xc_l xc_f
        obtain ⟨xa_0, xa_1, xa_2, xa_3, xa_l, xa_f⟩ := (⟨xa86.cell 0, xa86.cell 1, xa86.cell 2, xa86.cell 3, xa86.lt, xa86.frozen⟩ : _ ∧ _ ∧ _ ∧ _ ∧ _ ∧ _)
        obtain ⟨xb_0, xb_1, xb_2, xb_3, xb_l, xb_f⟩ := (⟨xb88.cell 0, xb88.cell 1, xb88.cell 2, xb88.cell 3, xb88.lt, xb88.frozen⟩ : _ ∧ _ ∧ _ ∧ _ ∧ _ ∧ _)
        obtain ⟨xc_0, xc_1, xc_2, xc_3, xc_l, xc_f⟩ := (⟨xc90.cell 0, xc90.cell 1, xc90.cell 2, xc90.cell 3, xc90.lt, xc90.frozen⟩ : _ ∧ _ ∧ _ ∧ _ ∧ _ ∧ _)
        go_wp2_with fail
        with_reducible refine (iValidNest_any R A3 c3 _ oR187.sees oR187.cap HRl.out).mono ?_
        rintro e w6 ⟨he, hb6⟩
        rw [HV.out] at he
        subst he
        have sz6 : w5.heap.size ≤ w6.heap.size := Nat.le_trans (by first | exact Nat.le_refl _ | (simp; done) | (simp; omega)) (hb6.size)
        have hB91 := hB85.trans (hb6.mono hB85.size)
        have xa92 := xa86.below hb6 xa86.lt
        have oR193 := oR187.below hb6
        have xb94 := xb88.below hb6 xb88.lt
        have oR295 := oR289.below hb6
        have xc96 := xc90.below hb6 xc90.lt
        clear hB85 xa86 oR187 xb88 oR289 xc90
        clear xa_0 xa_1 xa_2 xa_3 xa_l xa_f xb_0 xb_1 xb_2 xb_3 xb_l xb_f xc_0 xc_1 xc_2 xc_3 xc_l xc_f
        obtain ⟨xa_0, xa_1, xa_2, xa_3, xa_l, xa_f⟩ := (⟨xa92.cell 0, xa92.cell 1, xa92.cell 2, xa92.cell 3, xa92.lt, xa92.frozen⟩ : _ ∧ _ ∧ _ ∧ _ ∧ _ ∧ _)
        obtain ⟨xb_0, xb_1, xb_2, xb_3, xb_l, xb_f⟩ := (⟨xb94.cell 0, xb94.cell 1, xb94.cell 2, xb94.cell 3, xb94.lt, xb94.frozen⟩ : _ ∧ _ ∧ _ ∧ _ ∧ _ ∧ _)
        obtain ⟨xc_0, xc_1, xc_2, xc_3, xc_l, xc_f⟩ := (⟨xc96.cell 0, xc96.cell 1, xc96.cell 2, xc96.cell 3, xc96.lt, xc96.frozen⟩ : _ ∧ _ ∧ _ ∧ _ ∧ _ ∧ _)
        go_wp2
        go_ret
        exact ⟨by first | rfl | (simp; done) | (simp; omega), HB2.out.trans (hB91.mono HB2.out.size)⟩
      · skip
        have hd2 : R.d = C.d + 0 := by rw [hd]; simp
        have hdb : (R.d == C.d + 0) = true := by simp [hd2]
        have hw : IntKind.i64.wrap (C.d + 0) = C.d + 0 := by rw [IntKind.wrap_i64]; omega
        have hdc : (R.d == C.d) = true := by rw [hd2]; simp
        have HD2 := hid hd2
        clear hd2 hd
        have hB97 := hB0.alloc hB0.size (.cells #[.int .i64 C.d, .int .i64 C.w, .slice B C.m.length d, .bool C.b] 27)
        clear hB0
        have xa98 : At (w2.alloc (.cells #[.int .i64 C.d, .int .i64 C.w, .slice B C.m.length d, .bool C.b] 27)) (w2.heap.size) 27 #[.int .i64 C.d, .int .i64 C.w, .slice B C.m.length d, .bool C.b] := At.newAt _ _ (by first | rfl | (simp; done) | (simp; omega))
        obtain ⟨xa_0, xa_1, xa_2, xa_3, xa_l, xa_f⟩ := (⟨xa98.cell 0, xa98.cell 1, xa98.cell 2, xa98.cell 3, xa98.lt, xa98.frozen⟩ : _ ∧ _ ∧ _ ∧ _ ∧ _ ∧ _)
        go_wp2_with fail
        refine (iStepNest_any C 2 B d _ (hs.on hB97) dl.cap dl.n4).mono ?_
        rintro e w3 ⟨A3, c3, he, ho3, hb3⟩
        rw [ER.out, EK.out] at he
        rw [ER.out] at ho3
        subst he
        have sz3 : w2.heap.size + 1 ≤ w3.heap.size := Nat.le_trans (by first | exact Nat.le_refl _ | (simp; done) | (simp; omega)) (hb3.size)
        have hB99 := hB97.trans (hb3.mono hB97.size)
        have xa100 := xa98.below hb3 xa98.lt
        clear hB97 xa98
        clear xa_0 xa_1 xa_2 xa_3 xa_l xa_f
        have oR1101 : OwnM w3 w2.heap.size A3 c3 R := OwnM.mono ho3 (by first | omega | (simp; omega) | (simp; done))
        clear ho3
        have hB102 := hB99.alloc hB99.size (.cells #[.int .i64 R.d, .int .i64 R.w, .slice A3 R.m.length c3, .bool R.b] 27)
        have xa103 := xa100.alloc (.cells #[.int .i64 R.d, .int .i64 R.w, .slice A3 R.m.length c3, .bool R.b] 27)
        have oR1104 := oR1101.alloc (.cells #[.int .i64 R.d, .int .i64 R.w, .slice A3 R.m.length c3, .bool R.b] 27)
        clear hB99 xa100 oR1101
        have xb105 : At (w3.alloc (.cells #[.int .i64 R.d, .int .i64 R.w, .slice A3 R.m.length c3, .bool R.b] 27)) (w3.heap.size) 27 #[.int .i64 R.d, .int .i64 R.w, .slice A3 R.m.length c3, .bool R.b] := At.newAt _ _ (by first | rfl | (simp; done) | (simp; omega))
        obtain ⟨xa_0, xa_1, xa_2, xa_3, xa_l, xa_f⟩ := (⟨xa103.cell 0, xa103.cell 1, xa103.cell 2, xa103.cell 3, xa103.lt, xa103.frozen⟩ : _ ∧ _ ∧ _ ∧ _ ∧ _ ∧ _)
        obtain ⟨xb_0, xb_1, xb_2, xb_3, xb_l, xb_f⟩ := (⟨xb105.cell 0, xb105.cell 1, xb105.cell 2, xb105.cell 3, xb105.lt, xb105.frozen⟩ : _ ∧ _ ∧ _ ∧ _ ∧ _ ∧ _)
        go_wp2_with fail
        refine (sStepNest_any C 2 B d _ (hs.on hB102) dl.cap dl.n4).mono ?_
        rintro e w4 ⟨A4, c4, he, ho4, hb4⟩
        rw [ER.out, EK.out] at he
        rw [ER.out] at ho4
        subst he
        have sz4 : w3.heap.size + 1 ≤ w4.heap.size := Nat.le_trans (by first | exact Nat.le_refl _ | (simp; done) | (simp; omega)) (hb4.size)
        have hB106 := hB102.trans (hb4.mono hB102.size)
        have xa107 := xa103.below hb4 xa103.lt
        have oR1108 := oR1104.below hb4
        have xb109 := xb105.below hb4 xb105.lt
        clear hB102 xa103 oR1104 xb105
        clear xa_0 xa_1 xa_2 xa_3 xa_l xa_f xb_0 xb_1 xb_2 xb_3 xb_l xb_f
        have oR2110 : OwnM w4 w2.heap.size A4 c4 R := OwnM.mono ho4 (by first | omega | (simp; omega) | (simp; done))
        clear ho4
        have hB111 := hB106.alloc hB106.size (.cells #[.int .i64 R.d, .int .i64 R.w, .slice A4 R.m.length c4, .bool R.b] 27)
        have xa112 := xa107.alloc (.cells #[.int .i64 R.d, .int .i64 R.w, .slice A4 R.m.length c4, .bool R.b] 27)
        have oR1113 := oR1108.alloc (.cells #[.int .i64 R.d, .int .i64 R.w, .slice A4 R.m.length c4, .bool R.b] 27)
        have xb114 := xb109.alloc (.cells #[.int .i64 R.d, .int .i64 R.w, .slice A4 R.m.length c4, .bool R.b] 27)
        have oR2115 := oR2110.alloc (.cells #[.int .i64 R.d, .int .i64 R.w, .slice A4 R.m.length c4, .bool R.b] 27)
        clear hB106 xa107 oR1108 xb109 oR2110
        have xc116 : At (w4.alloc (.cells #[.int .i64 R.d, .int .i64 R.w, .slice A4 R.m.length c4, .bool R.b] 27)) (w4.heap.size) 27 #[.int .i64 R.d, .int .i64 R.w, .slice A4 R.m.length c4, .bool R.b] := At.newAt _ _ (by first | rfl | (simp; done) | (simp; omega))
        obtain ⟨xa_0, xa_1, xa_2, xa_3, xa_l, xa_f⟩ := (⟨xa112.cell 0, xa112.cell 1, xa112.cell 2, xa112.cell 3, xa112.lt, xa112.frozen⟩ : _ ∧ _ ∧ _ ∧ _ ∧ _ ∧ _)
        obtain ⟨xb_0, xb_1, xb_2, xb_3, xb_l, xb_f⟩ := (⟨xb114.cell 0, xb114.cell 1, xb114.cell 2, xb114.cell 3, xb114.lt, xb114.frozen⟩ : _ ∧ _ ∧ _ ∧ _ ∧ _ ∧ _)
        obtain ⟨xc_0, xc_1, xc_2, xc_3, xc_l, xc_f⟩ := (⟨xc116.cell 0, xc116.cell 1, xc116.cell 2, xc116.cell 3, xc116.lt, xc116.frozen⟩ : _ ∧ _ ∧ _ ∧ _ ∧ _ ∧ _)
        go_wp2_with fail
        with_reducible refine (equalNest_same A3 A4 c3 c4 R _ oR1113.sees oR2115.sees HRl.out).mono ?_
        rintro e w5 ⟨rfl, hb5⟩
        have sz5 : w4.heap.size + 1 ≤ w5.heap.size := Nat.le_trans (by first | exact Nat.le_refl _ | (simp; done) | (simp; omega)) (hb5.size)
        have hB117 := hB111.trans (hb5.mono hB111.size)
        have xa118 := xa112.below hb5 xa112.lt
        have oR1119 := oR1113.below hb5
        have xb120 := xb114.below hb5 xb114.lt
        have oR2121 := oR2115.below hb5
        have xc122 := xc116.below hb5 xc116.lt
        clear hB111 xa112 oR1113 xb114 oR2115 xc116
        clear xa_0 xa_1 xa_2 xa_3 xa_l xa_f xb_0 xb_1 xb_2 xb_3 xb_l xb_f xc_0 xc_1 xc_2 xc_3 xc_l xc_f
        obtain ⟨xa_0, xa_1, xa_2, xa_3, xa_l, xa_f⟩ := (⟨xa118.cell 0, xa118.cell 1, xa118.cell 2, xa118.cell 3, xa118.lt, xa118.frozen⟩ : _ ∧ _ ∧ _ ∧ _ ∧ _ ∧ _)
        obtain ⟨xb_0, xb_1, xb_2, xb_3, xb_l, xb_f⟩ := (⟨xb120.cell 0, xb120.cell 1, xb120.cell 2, xb120.cell 3, xb120.lt, xb120.frozen⟩ : _ ∧ _ ∧ _ ∧ _ ∧ _ ∧ _)
        obtain ⟨xc_0, xc_1, xc_2, xc_3, xc_l, xc_f⟩ := (⟨xc122.cell 0, xc122.cell 1, xc122.cell 2, xc122.cell 3, xc122.lt, xc122.frozen⟩ : _ ∧ _ ∧ _ ∧ _ ∧ _ ∧ _)
        go_wp2_with fail
        with_reducible refine (iValidNest_any R A3 c3 _ oR1119.sees oR1119.cap HRl.out).mono ?_
        rintro e w6 ⟨he, hb6⟩
        rw [HV.out] at he
        subst he
        have sz6 : w5.heap.size ≤ w6.heap.size := Nat.le_trans (by first | exact Nat.le_refl _ | (simp; done) | (simp; omega)) (hb6.size)
        have hB123 := hB117.trans (hb6.mono hB117.size)
        have xa124 := xa118.below hb6 xa118.lt
        have oR1125 := oR1119.below hb6
        have xb126 := xb120.below hb6 xb120.lt
        have oR2127 := oR2121.below hb6
        have xc128 := xc122.below hb6 xc122.lt
        clear hB117 xa118 oR1119 xb120 oR2121 xc122
        clear xa_0 xa_1 xa_2 xa_3 xa_l xa_f xb_0 xb_1 xb_2 xb_3 xb_l xb_f xc_0 xc_1 xc_2 xc_3 xc_l xc_f
        obtain ⟨xa_0, xa_1, xa_2, xa_3, xa_l, xa_f⟩ := (⟨xa124.cell 0, xa124.cell 1, xa124.cell 2, xa124.cell 3, xa124.lt, xa124.frozen⟩ : _ ∧ _ ∧ _ ∧ _ ∧ _ ∧ _)
        obtain ⟨xb_0, xb_1, xb_2, xb_3, xb_l, xb_f⟩ := (⟨xb126.cell 0, xb126.cell 1, xb126.cell 2, xb126.cell 3, xb126.lt, xb126.frozen⟩ : _ ∧ _ ∧ _ ∧ _ ∧ _ ∧ _)
        obtain ⟨xc_0, xc_1, xc_2, xc_3, xc_l, xc_f⟩ := (⟨xc128.cell 0, xc128.cell 1, xc128.cell 2, xc128.cell 3, xc128.lt, xc128.frozen⟩ : _ ∧ _ ∧ _ ∧ _ ∧ _ ∧ _)
        go_wp2
        go_ret
        exact ⟨by first | rfl | (simp; done) | (simp; omega), HB2.out.trans (hB123.mono HB2.out.size)⟩
      · skip
        have hd2 : R.d = C.d + (-1) := by rw [hd]; simp
        have hdb : (R.d == C.d + (-1)) = true := by simp [hd2]
        have hw : IntKind.i64.wrap (C.d + (-1)) = C.d + (-1) := by rw [IntKind.wrap_i64]; omega
        have HD2 := hid hd2
        clear hd2 hd
        have hB129 := hB0.alloc hB0.size (.cells #[.int .i64 C.d, .int .i64 C.w, .slice B C.m.length d, .bool C.b] 27)
        clear hB0
        have xa130 : At (w2.alloc (.cells #[.int .i64 C.d, .int .i64 C.w, .slice B C.m.length d, .bool C.b] 27)) (w2.heap.size) 27 #[.int .i64 C.d, .int .i64 C.w, .slice B C.m.length d, .bool C.b] := At.newAt _ _ (by first | rfl | (simp; done) | (simp; omega))
        obtain ⟨xa_0, xa_1, xa_2, xa_3, xa_l, xa_f⟩ := (⟨xa130.cell 0, xa130.cell 1, xa130.cell 2, xa130.cell 3, xa130.lt, xa130.frozen⟩ : _ ∧ _ ∧ _ ∧ _ ∧ _ ∧ _)
        go_wp2_with fail
        refine (iStepNest_any C 3 B d _ (hs.on hB129) dl.cap dl.n4).mono ?_
        rintro e w3 ⟨A3, c3, he, ho3, hb3⟩
        rw [ER.out, EK.out] at he
        rw [ER.out] at ho3
        subst he
        have sz3 : w2.heap.size + 1 ≤ w3.heap.size := Nat.le_trans (by first | exact Nat.le_refl _ | (simp; done) | (simp; omega)) (hb3.size)
        have hB131 := hB129.trans (hb3.mono hB129.size)
        have xa132 := xa130.below hb3 xa130.lt
        clear hB129 xa130
        clear xa_0 xa_1 xa_2 xa_3 xa_l xa_f
        have oR1133 : OwnM w3 w2.heap.size A3 c3 R := OwnM.mono ho3 (by first | omega | (simp; omega) | (simp; done))
        clear ho3
        have hB134 := hB131.alloc hB131.size (.cells #[.int .i64 R.d, .int .i64 R.w, .slice A3 R.m.length c3, .bool R.b] 27)
        have xa135 := xa132.alloc (.cells #[.int .i64 R.d, .int .i64 R.w, .slice A3 R.m.length c3, .bool R.b] 27)
        have oR1136 := oR1133.alloc (.cells #[.int .i64 R.d, .int .i64 R.w, .slice A3 R.m.length c3, .bool R.b] 27)
        clear hB131 xa132 oR1133
        have xb137 : At (w3.alloc (.cells #[.int .i64 R.d, .int .i64 R.w, .slice A3 R.m.length c3, .bool R.b] 27)) (w3.heap.size) 27 #[.int .i64 R.d, .int .i64 R.w, .slice A3 R.m.length c3, .bool R.b] := At.newAt _ _ (by first | rfl | (simp; done) | (simp; omega))
        obtain ⟨xa_0, xa_1, xa_2, xa_3, xa_l, xa_f⟩ := (⟨xa135.cell 0, xa135.cell 1, xa135.cell 2, xa135.cell 3, xa135.lt, xa135.frozen⟩ : _ ∧ _ ∧ _ ∧ _ ∧ _ ∧ _)
        obtain ⟨xb_0, xb_1, xb_2, xb_3, xb_l, xb_f⟩ := (⟨xb137.cell 0, xb137.cell 1, xb137.cell 2, xb137.cell 3, xb137.lt, xb137.frozen⟩ : _ ∧ _ ∧ _ ∧ _ ∧ _ ∧ _)
        go_wp2_with fail
        refine (sStepNest_any C 3 B d _ (hs.on hB134) dl.cap dl.n4).mono ?_
        rintro e w4 ⟨A4, c4, he, ho4, hb4⟩
        rw [ER.out, EK.out] at he
        rw [ER.out] at ho4
        subst he
        have sz4 : w3.heap.size + 1 ≤ w4.heap.size := Nat.le_trans (by first | exact Nat.le_refl _ | (simp; done) | (simp; omega)) (hb4.size)
        have hB138 := hB134.trans (hb4.mono hB134.size)
        have xa139 := xa135.below hb4 xa135.lt
        have oR1140 := oR1136.below hb4
        have xb141 := xb137.below hb4 xb137.lt
        clear hB134 xa135 oR1136 xb137
        clear xa_0 xa_1 xa_2 xa_3 xa_l xa_f xb_0 xb_1 xb_2 xb_3 xb_l xb_f
        have oR2142 : OwnM w4 w2.heap.size A4 c4 R := OwnM.mono ho4 (by first | omega | (simp; omega) | (simp; done))
        clear ho4
        have hB143 := hB138.alloc hB138.size (.cells #[.int .i64 R.d, .int .i64 R.w, .slice A4 R.m.length c4, .bool R.b] 27)
        have xa144 := xa139.alloc (.cells #[.int .i64 R.d, .int .i64 R.w, .slice A4 R.m.length c4, .bool R.b] 27)
        have oR1145 := oR1140.alloc (.cells #[.int .i64 R.d, .int .i64 R.w, .slice A4 R.m.length c4, .bool R.b] 27)
        have xb146 := xb141.alloc (.cells #[.int .i64 R.d, .int .i64 R.w, .slice A4 R.m.length c4, .bool R.b] 27)
        have oR2147 := oR2142.alloc (.cells #[.int .i64 R.d, .int .i64 R.w, .slice A4 R.m.length c4, .bool R.b] 27)
        clear hB138 xa139 oR1140 xb141 oR2142
        have xc148 : At (w4.alloc (.cells #[.int .i64 R.d, .int .i64 R.w, .slice A4 R.m.length c4, .bool R.b] 27)) (w4.heap.size) 27 #[.int .i64 R.d, .int .i64 R.w, .slice A4 R.m.length c4, .bool R.b] := At.newAt _ _ (by first | rfl | (simp; done) | (simp; omega))
        obtain ⟨xa_0, xa_1, xa_2, xa_3, xa_l, xa_f⟩ := (⟨xa144.cell 0, xa144.cell 1, xa144.cell 2, xa144.cell 3, xa144.lt, xa144.frozen⟩ : _ ∧ _ ∧ _ ∧ _ ∧ _ ∧ _)
        obtain ⟨xb_0, xb_1, xb_2, xb_3, xb_l, xb_f⟩ := (⟨xb146.cell 0, xb146.cell 1, xb146.cell 2, xb146.cell 3, xb146.lt, xb146.frozen⟩ : _ ∧ _ ∧ _ ∧ _ ∧ _ ∧ _)
        obtain ⟨xc_0, xc_1, xc_2, xc_3, xc_l, xc_f⟩ := (⟨xc148.cell 0, xc148.cell 1, xc148.cell 2, xc148.cell 3, xc148.lt, xc148.frozen⟩ : _ ∧ _ ∧ _ ∧ _ ∧ _ ∧ _)
        go_wp2_with fail
        with_reducible refine (equalNest_same A3 A4 c3 c4 R _ oR1145.sees oR2147.sees HRl.out).mono ?_
        rintro e w5 ⟨rfl, hb5⟩
        have sz5 : w4.heap.size + 1 ≤ w5.heap.size := Nat.le_trans (by first | exact Nat.le_refl _ | (simp; done) | (simp; omega)) (hb5.size)
        have hB149 := hB143.trans (hb5.mono hB143.size)
        have xa150 := xa144.below hb5 xa144.lt
        have oR1151 := oR1145.below hb5
        have xb152 := xb146.below hb5 xb146.lt
        have oR2153 := oR2147.below hb5
        have xc154 := xc148.below hb5 xc148.lt
        clear hB143 xa144 oR1145 xb146 oR2147 xc148
        clear xa_0 xa_1 xa_2 xa_3 xa_l xa_f xb_0 xb_1 xb_2 xb_3 xb_l xb_f xc_0 xc_1 xc_2 xc_3 xc_l xc_f
        obtain ⟨xa_0, xa_1, xa_2, xa_3, xa_l, xa_f⟩ := (⟨xa150.cell 0, xa150.cell 1, xa150.cell 2, xa150.cell 3, xa150.lt, xa150.frozen⟩ : _ ∧ _ ∧ _ ∧ _ ∧ _ ∧ _)
        obtain ⟨xb_0, xb_1, xb_2, xb_3, xb_l, xb_f⟩ := (⟨xb152.cell 0, xb152.cell 1, xb152.cell 2, xb152.cell 3, xb152.lt, xb152.frozen⟩ : _ ∧ _ ∧ _ ∧ _ ∧ _ ∧ _)
        obtain ⟨xc_0, xc_1, xc_2, xc_3, xc_l, xc_f⟩ := (⟨xc154.cell 0, xc154.cell 1, xc154.cell 2, xc154.cell 3, xc154.lt, xc154.frozen⟩ : _ ∧ _ ∧ _ ∧ _ ∧ _ ∧ _)
        go_wp2_with fail
        with_reducible refine (iValidNest_any R A3 c3 _ oR1151.sees oR1151.cap HRl.out).mono ?_
        rintro e w6 ⟨he, hb6⟩
        rw [HV.out] at he
        subst he
        have sz6 : w5.heap.size ≤ w6.heap.size := Nat.le_trans (by first | exact Nat.le_refl _ | (simp; done) | (simp; omega)) (hb6.size)
        have hB155 := hB149.trans (hb6.mono hB149.size)
        have xa156 := xa150.below hb6 xa150.lt
        have oR1157 := oR1151.below hb6
        have xb158 := xb152.below hb6 xb152.lt
        have oR2159 := oR2153.below hb6
        have xc160 := xc154.below hb6 xc154.lt
        clear hB149 xa150 oR1151 xb152 oR2153 xc154
        clear xa_0 xa_1 xa_2 xa_3 xa_l xa_f xb_0 xb_1 xb_2 xb_3 xb_l xb_f xc_0 xc_1 xc_2 xc_3 xc_l xc_f
        obtain ⟨xa_0, xa_1, xa_2, xa_3, xa_l, xa_f⟩ := (⟨xa156.cell 0, xa156.cell 1, xa156.cell 2, xa156.cell 3, xa156.lt, xa156.frozen⟩ : _ ∧ _ ∧ _ ∧ _ ∧ _ ∧ _)
        obtain ⟨xb_0, xb_1, xb_2, xb_3, xb_l, xb_f⟩ := (⟨xb158.cell 0, xb158.cell 1, xb158.cell 2, xb158.cell 3, xb158.lt, xb158.frozen⟩ : _ ∧ _ ∧ _ ∧ _ ∧ _ ∧ _)
        obtain ⟨xc_0, xc_1, xc_2, xc_3, xc_l, xc_f⟩ := (⟨xc160.cell 0, xc160.cell 1, xc160.cell 2, xc160.cell 3, xc160.lt, xc160.frozen⟩ : _ ∧ _ ∧ _ ∧ _ ∧ _ ∧ _)
        go_wp2
        go_ret
        exact ⟨by first | rfl | (simp; done) | (simp; omega), HB2.out.trans (hB155.mono HB2.out.size)⟩
      · skip
        have hd2 : R.d = C.d + (-1) := by rw [hd]; simp
        have hdb : (R.d == C.d + (-1)) = true := by simp [hd2]
        have hw : IntKind.i64.wrap (C.d + (-1)) = C.d + (-1) := by rw [IntKind.wrap_i64]; omega
        have HD2 := hid hd2
        clear hd2 hd
        have hB161 := hB0.alloc hB0.size (.cells #[.int .i64 C.d, .int .i64 C.w, .slice B C.m.length d, .bool C.b] 27)
        clear hB0
        have xa162 : At (w2.alloc (.cells #[.int .i64 C.d, .int .i64 C.w, .slice B C.m.length d, .bool C.b] 27)) (w2.heap.size) 27 #[.int .i64 C.d, .int .i64 C.w, .slice B C.m.length d, .bool C.b] := At.newAt _ _ (by first | rfl | (simp; done) | (simp; omega))
        obtain ⟨xa_0, xa_1, xa_2, xa_3, xa_l, xa_f⟩ := (⟨xa162.cell 0, xa162.cell 1, xa162.cell 2, xa162.cell 3, xa162.lt, xa162.frozen⟩ : _ ∧ _ ∧ _ ∧ _ ∧ _ ∧ _)
        go_wp2_with fail
        refine (iStepNest_any C 4 B d _ (hs.on hB161) dl.cap dl.n4).mono ?_
        rintro e w3 ⟨A3, c3, he, ho3, hb3⟩
        rw [ER.out, EK.out] at he
        rw [ER.out] at ho3
        subst he
        have sz3 : w2.heap.size + 1 ≤ w3.heap.size := Nat.le_trans (by first | exact Nat.le_refl _ | (simp; done) | (simp; omega)) (hb3.size)
        have hB163 := hB161.trans (hb3.mono hB161.size)
        have xa164 := xa162.below hb3 xa162.lt
        clear hB161 xa162
        clear xa_0 xa_1 xa_2 xa_3 xa_l xa_f
        have oR1165 : OwnM w3 w2.heap.size A3 c3 R := OwnM.mono ho3 (by first | omega | (simp; omega) | (simp; done))
        clear ho3
        have hB166 := hB163.alloc hB163.size (.cells #[.int .i64 R.d, .int .i64 R.w, .slice A3 R.m.length c3, .bool R.b] 27)
        have xa167 := xa164.alloc (.cells #[.int .i64 R.d, .int .i64 R.w, .slice A3 R.m.length c3, .bool R.b] 27)
        have oR1168 := oR1165.alloc (.cells #[.int .i64 R.d, .int .i64 R.w, .slice A3 R.m.length c3, .bool R.b] 27)
        clear hB163 xa164 oR1165
        have xb169 : At (w3.alloc (.cells #[.int .i64 R.d, .int .i64 R.w, .slice A3 R.m.length c3, .bool R.b] 27)) (w3.heap.size) 27 #[.int .i64 R.d, .int .i64 R.w, .slice A3 R.m.length c3, .bool R.b] := At.newAt _ _ (by first | rfl | (simp; done) | (simp; omega))
        obtain ⟨xa_0, xa_1, xa_2, xa_3, xa_l, xa_f⟩ := (⟨xa167.cell 0, xa167.cell 1, xa167.cell 2, xa167.cell 3, xa167.lt, xa167.frozen⟩ : _ ∧ _ ∧ _ ∧ _ ∧ _ ∧ _)
        obtain ⟨xb_0, xb_1, xb_2, xb_3, xb_l, xb_f⟩ := (⟨xb169.cell 0, xb169.cell 1, xb169.cell 2, xb169.cell 3, xb169.lt, xb169.frozen⟩ : _ ∧ _ ∧ _ ∧ _ ∧ _ ∧ _)
        go_wp2_with fail
        refine (sStepNest_any C 4 B d _ (hs.on hB166) dl.cap dl.n4).mono ?_
        rintro e w4 ⟨A4, c4, he, ho4, hb4⟩
        rw [ER.out, EK.out] at he
        rw [ER.out] at ho4
        subst he
        have sz4 : w3.heap.size + 1 ≤ w4.heap.size := Nat.le_trans (by first | exact Nat.le_refl _ | (simp; done) | (simp; omega)) (hb4.size)
        have hB170 := hB166.trans (hb4.mono hB166.size)
        have xa171 := xa167.below hb4 xa167.lt
        have oR1172 := oR1168.below hb4
        have xb173 := xb169.below hb4 xb169.lt
        clear hB166 xa167 oR1168 xb169
        clear xa_0 xa_1 xa_2 xa_3 xa_l xa_f xb_0 xb_1 xb_2 xb_3 xb_l xb_f
        have oR2174 : OwnM w4 w2.heap.size A4 c4 R := OwnM.mono ho4 (by first | omega | (simp; omega) | (simp; done))
        clear ho4
        have hB175 := hB170.alloc hB170.size (.cells #[.int .i64 R.d, .int .i64 R.w, .slice A4 R.m.length c4, .bool R.b] 27)
        have xa176 := xa171.alloc (.cells #[.int .i64 R.d, .int .i64 R.w, .slice A4 R.m.length c4, .bool R.b] 27)
        have oR1177 := oR1172.alloc (.cells #[.int .i64 R.d, .int .i64 R.w, .slice A4 R.m.length c4, .bool R.b] 27)
        have xb178 := xb173.alloc (.cells #[.int .i64 R.d, .int .i64 R.w, .slice A4 R.m.length c4, .bool R.b] 27)
        have oR2179 := oR2174.alloc (.cells #[.int .i64 R.d, .int .i64 R.w, .slice A4 R.m.length c4, .bool R.b] 27)
        clear hB170 xa171 oR1172 xb173 oR2174
        have xc180 : At (w4.alloc (.cells #[.int .i64 R.d, .int .i64 R.w, .slice A4 R.m.length c4, .bool R.b] 27)) (w4.heap.size) 27 #[.int .i64 R.d, .int .i64 R.w, .slice A4 R.m.length c4, .bool R.b] := At.newAt _ _ (by first | rfl | (simp; done) | (simp; omega))
        obtain ⟨xa_0, xa_1, xa_2, xa_3, xa_l, xa_f⟩ := (⟨xa176.cell 0, xa176.cell 1, xa176.cell 2, xa176.cell 3, xa176.lt, xa176.frozen⟩ : _ ∧ _ ∧ _ ∧ _ ∧ _ ∧ _)
        obtain ⟨xb_0, xb_1, xb_2, xb_3, xb_l, xb_f⟩ := (⟨xb178.cell 0, xb178.cell 1, xb178.cell 2, xb178.cell 3, xb178.lt, xb178.frozen⟩ : _ ∧ _ ∧ _ ∧ _ ∧ _ ∧ _)
        obtain ⟨xc_0, xc_1, xc_2, xc_3, xc_l, xc_f⟩ := (⟨xc180.cell 0, xc180.cell 1, xc180.cell 2, xc180.cell 3, xc180.lt, xc180.frozen⟩ : _ ∧ _ ∧ _ ∧ _ ∧ _ ∧ _)
        go_wp2_with fail
        with_reducible refine (equalNest_same A3 A4 c3 c4 R _ oR1177.sees oR2179.sees HRl.out).mono ?_
        rintro e w5 ⟨rfl, hb5⟩
        have sz5 : w4.heap.size + 1 ≤ w5.heap.size := Nat.le_trans (by first | exact Nat.le_refl _ | (simp; done) | (simp; omega)) (hb5.size)
        have hB181 := hB175.trans (hb5.mono hB175.size)
        have xa182 := xa176.below hb5 xa176.lt
        have oR1183 := oR1177.below hb5
        have xb184 := xb178.below hb5 xb178.lt
        have oR2185 := oR2179.below hb5
        have xc186 := xc180.below hb5 xc180.lt
        clear hB175 xa176 oR1177 xb178 oR2179 xc180
        clear xa_0 xa_1 xa_2 xa_3 xa_l xa_f xb_0 xb_1 xb_2 xb_3 xb_l xb_f xc_0 xc_1 xc_2 xc_3 xc_l xc_f
        obtain ⟨xa_0, xa_1, xa_2, xa_3, xa_l, xa_f⟩ := (⟨xa182.cell 0, xa182.cell 1, xa182.cell 2, xa182.cell 3, xa182.lt, xa182.frozen⟩ : _ ∧ _ ∧ _ ∧ _ ∧ _ ∧ _)
        obtain ⟨xb_0, xb_1, xb_2, xb_3, xb_l, xb_f⟩ := (⟨xb184.cell 0, xb184.cell 1, xb184.cell 2, xb184.cell 3, xb184.lt, xb184.frozen⟩ : _ ∧ _ ∧ _ ∧ _ ∧ _ ∧ _)
        obtain ⟨xc_0, xc_1, xc_2, xc_3, xc_l, xc_f⟩ := (⟨xc186.cell 0, xc186.cell 1, xc186.cell 2, xc186.cell 3, xc186.lt, xc186.frozen⟩ : _ ∧ _ ∧ _ ∧ _ ∧ _ ∧ _)
        go_wp2_with fail
        with_reducible refine (iValidNest_any R A3 c3 _ oR1183.sees oR1183.cap HRl.out).mono ?_
        rintro e w6 ⟨he, hb6⟩
        rw [HV.out] at he
        subst he
        have sz6 : w5.heap.size ≤ w6.heap.size := Nat.le_trans (by first | exact Nat.le_refl _ | (simp; done) | (simp; omega)) (hb6.size)
        have hB187 := hB181.trans (hb6.mono hB181.size)
        have xa188 := xa182.below hb6 xa182.lt
        have oR1189 := oR1183.below hb6
        have xb190 := xb184.below hb6 xb184.lt
        have oR2191 := oR2185.below hb6
        have xc192 := xc186.below hb6 xc186.lt
        clear hB181 xa182 oR1183 xb184 oR2185 xc186
        clear xa_0 xa_1 xa_2 xa_3 xa_l xa_f xb_0 xb_1 xb_2 xb_3 xb_l xb_f xc_0 xc_1 xc_2 xc_3 xc_l xc_f
        obtain ⟨xa_0, xa_1, xa_2, xa_3, xa_l, xa_f⟩ := (⟨xa188.cell 0, xa188.cell 1, xa188.cell 2, xa188.cell 3, xa188.lt, xa188.frozen⟩ : _ ∧ _ ∧ _ ∧ _ ∧ _ ∧ _)
        obtain ⟨xb_0, xb_1, xb_2, xb_3, xb_l, xb_f⟩ := (⟨xb190.cell 0, xb190.cell 1, xb190.cell 2, xb190.cell 3, xb190.lt, xb190.frozen⟩ : _ ∧ _ ∧ _ ∧ _ ∧ _ ∧ _)
        obtain ⟨xc_0, xc_1, xc_2, xc_3, xc_l, xc_f⟩ := (⟨xc192.cell 0, xc192.cell 1, xc192.cell 2, xc192.cell 3, xc192.lt, xc192.frozen⟩ : _ ∧ _ ∧ _ ∧ _ ∧ _ ∧ _)
        go_wp2
        go_ret
        exact ⟨by first | rfl | (simp; done) | (simp; omega), HB2.out.trans (hB187.mono HB2.out.size)⟩
end Go.Proofs.Ythmpeahlddfpnaa

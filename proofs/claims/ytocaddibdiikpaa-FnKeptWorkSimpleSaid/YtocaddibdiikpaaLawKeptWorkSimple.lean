/-
  The walk of the law FnKeptWorkSimple: at every code it returns true and changes nothing that was there. Conditions: none.
-/
import Derived.Test.YtocaddibdiikpaaLawNsB
import Derived.Test.YtocaddibdiikpaaLawFrame
import Derived.BigQuiet

namespace Go.Proofs.Ytocaddibdiikpaa
open Go.RowKit Nes

set_option maxHeartbeats 8000000 in
theorem walkKeptWorkSimple (a : Option Addr) (len cap : Nat) (zs : List Int) (w : World) (hn : zs.length = len) (hc : len ≤ cap) (hcc : cap ≤ maxLen) (h : Sees w w.heap.size a (byts zs)) (hz : ∀ y ∈ zs, 0 ≤ y ∧ y ≤ 255) :
    Calls Try.prog 9 #[.slice a len cap] w fun e w' => e = .returned (.bool true) ∧ Below w.heap.size w w' := by
  have HE := hid hn
  have HC := hid hcc
  have HZ := hid hz
  clear hn hcc hz
  by_cases hbig : 1048576 < len
  · go_enter Try.func9, Try.ntmps9
    go_wp2
    go_ret
    exact ⟨rfl, Below.refl _ _⟩
  · go_enter Try.func9, Try.ntmps9
    go_wp2_with fail
    refine (drawKeptWork_any _ _ _ _ _ h HZ.out HE.out hc (by omega) HC.out).mono ?_
    rintro e w2 ⟨B, d, l, rfl, dl⟩
    have hs := dl.sees
    have HB2 := hid dl.bel
    have h18 := dl.n18
    have hB0 := Below.refl w2.heap.size w2
    obtain ⟨V, hV⟩ : ∃ V, V = keptV l := ⟨_, rfl⟩
    have EV : Hid (keptV l = V) := hid hV.symm
    have HV := hid hV
    clear hV
    obtain ⟨R, hR⟩ : ∃ R, R = runS l := ⟨_, rfl⟩
    have ER : Hid (runS l = R) := hid hR.symm
    have HRl := hid (show R.m.length ≤ 4194304 by rw [hR]; exact Nat.le_trans (runS_len l) (by decide))
    have HR := hid hR
    clear hR
    obtain ⟨Y, hY⟩ : ∃ Y, Y = runV l := ⟨_, rfl⟩
    have EY : Hid (runV l = Y) := hid hY.symm
    clear hY
    obtain ⟨i0, hi0, hz0, hz1, hz2⟩ := info_parts intInfo
    have HF := hid (fun (h : ¬ V < 0) => keptV_few (l := l) (by rw [← HV.out]; exact h))
    have HKS := hid (fun (h : l.length + 4 ≤ 16) (e : R.d = 0) => (show keptV (l ++ [0, 1, 1, 3]) = V + 2 by rw [HV.out]; exact kept_simple h (by rw [← HR.out]; exact e)))
    have hVr := (show V ≤ 16 by rw [HV.out]; exact (keptV_range l).2)
    by_cases hv : V < 0
    · skip
      go_wp2_with fail
      with_reducible refine (iKeptWork_any B d l _ (hs.on4 hB0) dl.n4).mono ?_
      rintro e w3 ⟨he, hb3⟩
      rw [EV.out] at he
      subst he
      have sz3 : w2.heap.size ≤ w3.heap.size := Nat.le_trans (by first | exact Nat.le_refl _ | (simp; done) | (simp; omega)) (hb3.size)
      have hB1 := hB0.trans (hb3.mono hB0.size)
      clear hB0
      go_wp2_with fail
      refine (iRunNest_any B d l _ (hs.on4 hB1) dl.n4).mono ?_
      rintro e w4 ⟨A4, c4, he, ho4, hb4⟩
      rw [ER.out, EY.out] at he
      rw [ER.out] at ho4
      subst he
      have sz4 : w3.heap.size ≤ w4.heap.size := Nat.le_trans (by first | exact Nat.le_refl _ | (simp; done) | (simp; omega)) (hb4.size)
      have hB2 := hB1.trans (hb4.mono hB1.size)
      clear hB1
      have oR13 : OwnM w4 w2.heap.size A4 c4 R := OwnM.mono ho4 (by first | omega | (simp; omega) | (simp; done))
      clear ho4
      have hB4 := hB2.alloc hB2.size (.cells #[.int .i64 R.d, .int .i64 R.w, .slice A4 R.m.length c4, .bool R.b] 25)
      have oR15 := oR13.alloc (.cells #[.int .i64 R.d, .int .i64 R.w, .slice A4 R.m.length c4, .bool R.b] 25)
      clear hB2 oR13
      have xb6 : At (w4.alloc (.cells #[.int .i64 R.d, .int .i64 R.w, .slice A4 R.m.length c4, .bool R.b] 25)) (w4.heap.size) 25 #[.int .i64 R.d, .int .i64 R.w, .slice A4 R.m.length c4, .bool R.b] := At.newAt _ _ (by first | rfl | (simp; done) | (simp; omega))
      obtain ⟨xb_0, xb_1, xb_2, xb_3, xb_l, xb_f⟩ := (⟨xb6.cell 0, xb6.cell 1, xb6.cell 2, xb6.cell 3, xb6.lt, xb6.frozen⟩ : _ ∧ _ ∧ _ ∧ _ ∧ _ ∧ _)
      go_wp2_with fail
      with_reducible refine (sKeptWork_any B d l _ (hs.on4 hB4) dl.n4).mono ?_
      rintro e w5 ⟨he, hb5⟩
      rw [EV.out] at he
      subst he
      have sz5 : w4.heap.size + 1 ≤ w5.heap.size := Nat.le_trans (by first | exact Nat.le_refl _ | (simp; done) | (simp; omega)) (hb5.size)
      have hB7 := hB4.trans (hb5.mono hB4.size)
      have oR18 := oR15.below hb5
      have xb9 := xb6.below hb5 xb6.lt
      clear hB4 oR15 xb6
      clear xb_0 xb_1 xb_2 xb_3 xb_l xb_f
      obtain ⟨xb_0, xb_1, xb_2, xb_3, xb_l, xb_f⟩ := (⟨xb9.cell 0, xb9.cell 1, xb9.cell 2, xb9.cell 3, xb9.lt, xb9.frozen⟩ : _ ∧ _ ∧ _ ∧ _ ∧ _ ∧ _)
      go_wp2_with fail
      with_reducible refine (sKeptWork_any B d l _ (hs.on4 hB7) dl.n4).mono ?_
      rintro e w6 ⟨he, hb6⟩
      rw [EV.out] at he
      subst he
      have sz6 : w5.heap.size ≤ w6.heap.size := Nat.le_trans (by first | exact Nat.le_refl _ | (simp; done) | (simp; omega)) (hb6.size)
      have hB10 := hB7.trans (hb6.mono hB7.size)
      have oR111 := oR18.below hb6
      have xb12 := xb9.below hb6 xb9.lt
      clear hB7 oR18 xb9
      clear xb_0 xb_1 xb_2 xb_3 xb_l xb_f
      obtain ⟨xb_0, xb_1, xb_2, xb_3, xb_l, xb_f⟩ := (⟨xb12.cell 0, xb12.cell 1, xb12.cell 2, xb12.cell 3, xb12.lt, xb12.frozen⟩ : _ ∧ _ ∧ _ ∧ _ ∧ _ ∧ _)
      go_wp2
      go_ret
      exact ⟨by first | rfl | (simp; done) | (simp; omega), HB2.out.trans (hB10.mono HB2.out.size)⟩
    by_cases hd : R.d = 0
    · skip
      have hdb : (R.d != 0) = false := by simp [hd]
      have hw4 : IntKind.i64.wrap ((l.length : Int) + 4) = (l.length : Int) + 4 := by rw [IntKind.wrap_i64]; omega
      by_cases h4 : (l.length : Int) + 4 > 16
      · skip
        have h4b : (16 : Int) < (l.length : Int) + 4 := h4
        have HD := hid hd
        clear hd
        go_wp2_with fail
        with_reducible refine (iKeptWork_any B d l _ (hs.on4 hB0) dl.n4).mono ?_
        rintro e w3 ⟨he, hb3⟩
        rw [EV.out] at he
        subst he
        have sz3 : w2.heap.size ≤ w3.heap.size := Nat.le_trans (by first | exact Nat.le_refl _ | (simp; done) | (simp; omega)) (hb3.size)
        have hB13 := hB0.trans (hb3.mono hB0.size)
        clear hB0
        go_wp2_with fail
        refine (iRunNest_any B d l _ (hs.on4 hB13) dl.n4).mono ?_
        rintro e w4 ⟨A4, c4, he, ho4, hb4⟩
        rw [ER.out, EY.out] at he
        rw [ER.out] at ho4
        subst he
        have sz4 : w3.heap.size ≤ w4.heap.size := Nat.le_trans (by first | exact Nat.le_refl _ | (simp; done) | (simp; omega)) (hb4.size)
        have hB14 := hB13.trans (hb4.mono hB13.size)
        clear hB13
        have oR115 : OwnM w4 w2.heap.size A4 c4 R := OwnM.mono ho4 (by first | omega | (simp; omega) | (simp; done))
        clear ho4
        have hB16 := hB14.alloc hB14.size (.cells #[.int .i64 R.d, .int .i64 R.w, .slice A4 R.m.length c4, .bool R.b] 25)
        have oR117 := oR115.alloc (.cells #[.int .i64 R.d, .int .i64 R.w, .slice A4 R.m.length c4, .bool R.b] 25)
        clear hB14 oR115
        have xb18 : At (w4.alloc (.cells #[.int .i64 R.d, .int .i64 R.w, .slice A4 R.m.length c4, .bool R.b] 25)) (w4.heap.size) 25 #[.int .i64 R.d, .int .i64 R.w, .slice A4 R.m.length c4, .bool R.b] := At.newAt _ _ (by first | rfl | (simp; done) | (simp; omega))
        obtain ⟨xb_0, xb_1, xb_2, xb_3, xb_l, xb_f⟩ := (⟨xb18.cell 0, xb18.cell 1, xb18.cell 2, xb18.cell 3, xb18.lt, xb18.frozen⟩ : _ ∧ _ ∧ _ ∧ _ ∧ _ ∧ _)
        go_wp2_with fail
        with_reducible refine (sKeptWork_any B d l _ (hs.on4 hB16) dl.n4).mono ?_
        rintro e w5 ⟨he, hb5⟩
        rw [EV.out] at he
        subst he
        have sz5 : w4.heap.size + 1 ≤ w5.heap.size := Nat.le_trans (by first | exact Nat.le_refl _ | (simp; done) | (simp; omega)) (hb5.size)
        have hB19 := hB16.trans (hb5.mono hB16.size)
        have oR120 := oR117.below hb5
        have xb21 := xb18.below hb5 xb18.lt
        clear hB16 oR117 xb18
        clear xb_0 xb_1 xb_2 xb_3 xb_l xb_f
        obtain ⟨xb_0, xb_1, xb_2, xb_3, xb_l, xb_f⟩ := (⟨xb21.cell 0, xb21.cell 1, xb21.cell 2, xb21.cell 3, xb21.lt, xb21.frozen⟩ : _ ∧ _ ∧ _ ∧ _ ∧ _ ∧ _)
        go_wp2_with fail
        with_reducible refine (sKeptWork_any B d l _ (hs.on4 hB19) dl.n4).mono ?_
        rintro e w6 ⟨he, hb6⟩
        rw [EV.out] at he
        subst he
        have sz6 : w5.heap.size ≤ w6.heap.size := Nat.le_trans (by first | exact Nat.le_refl _ | (simp; done) | (simp; omega)) (hb6.size)
        have hB22 := hB19.trans (hb6.mono hB19.size)
        have oR123 := oR120.below hb6
        have xb24 := xb21.below hb6 xb21.lt
        clear hB19 oR120 xb21
        clear xb_0 xb_1 xb_2 xb_3 xb_l xb_f
        obtain ⟨xb_0, xb_1, xb_2, xb_3, xb_l, xb_f⟩ := (⟨xb24.cell 0, xb24.cell 1, xb24.cell 2, xb24.cell 3, xb24.lt, xb24.frozen⟩ : _ ∧ _ ∧ _ ∧ _ ∧ _ ∧ _)
        go_wp2
        go_ret
        exact ⟨by first | rfl | (simp; done) | (simp; omega), HB2.out.trans (hB22.mono HB2.out.size)⟩
      · skip
        have h4b : ¬ (16 : Int) < (l.length : Int) + 4 := h4
        have EX := hid (HKS.out (by omega) hd)
        have HD := hid hd
        clear hd
        have hw2 : IntKind.i64.wrap (V + 2) = V + 2 := by rw [IntKind.wrap_i64]; omega
        go_wp2_with fail
        with_reducible refine (iKeptWork_any B d l _ (hs.on4 hB0) dl.n4).mono ?_
        rintro e w3 ⟨he, hb3⟩
        rw [EV.out] at he
        subst he
        have sz3 : w2.heap.size ≤ w3.heap.size := Nat.le_trans (by first | exact Nat.le_refl _ | (simp; done) | (simp; omega)) (hb3.size)
        have hB25 := hB0.trans (hb3.mono hB0.size)
        clear hB0
        go_wp2_with fail
        refine (iRunNest_any B d l _ (hs.on4 hB25) dl.n4).mono ?_
        rintro e w4 ⟨A4, c4, he, ho4, hb4⟩
        rw [ER.out, EY.out] at he
        rw [ER.out] at ho4
        subst he
        have sz4 : w3.heap.size ≤ w4.heap.size := Nat.le_trans (by first | exact Nat.le_refl _ | (simp; done) | (simp; omega)) (hb4.size)
        have hB26 := hB25.trans (hb4.mono hB25.size)
        clear hB25
        have oR127 : OwnM w4 w2.heap.size A4 c4 R := OwnM.mono ho4 (by first | omega | (simp; omega) | (simp; done))
        clear ho4
        have hB28 := hB26.alloc hB26.size (.cells #[.int .i64 R.d, .int .i64 R.w, .slice A4 R.m.length c4, .bool R.b] 25)
        have oR129 := oR127.alloc (.cells #[.int .i64 R.d, .int .i64 R.w, .slice A4 R.m.length c4, .bool R.b] 25)
        clear hB26 oR127
        have xb30 : At (w4.alloc (.cells #[.int .i64 R.d, .int .i64 R.w, .slice A4 R.m.length c4, .bool R.b] 25)) (w4.heap.size) 25 #[.int .i64 R.d, .int .i64 R.w, .slice A4 R.m.length c4, .bool R.b] := At.newAt _ _ (by first | rfl | (simp; done) | (simp; omega))
        obtain ⟨xb_0, xb_1, xb_2, xb_3, xb_l, xb_f⟩ := (⟨xb30.cell 0, xb30.cell 1, xb30.cell 2, xb30.cell 3, xb30.lt, xb30.frozen⟩ : _ ∧ _ ∧ _ ∧ _ ∧ _ ∧ _)
        go_wp2_with fail
        with_reducible refine (sKeptWork_any B d l _ (hs.on4 hB28) dl.n4).mono ?_
        rintro e w5 ⟨he, hb5⟩
        rw [EV.out] at he
        subst he
        have sz5 : w4.heap.size + 1 ≤ w5.heap.size := Nat.le_trans (by first | exact Nat.le_refl _ | (simp; done) | (simp; omega)) (hb5.size)
        have hB31 := hB28.trans (hb5.mono hB28.size)
        have oR132 := oR129.below hb5
        have xb33 := xb30.below hb5 xb30.lt
        clear hB28 oR129 xb30
        clear xb_0 xb_1 xb_2 xb_3 xb_l xb_f
        obtain ⟨xb_0, xb_1, xb_2, xb_3, xb_l, xb_f⟩ := (⟨xb33.cell 0, xb33.cell 1, xb33.cell 2, xb33.cell 3, xb33.lt, xb33.frozen⟩ : _ ∧ _ ∧ _ ∧ _ ∧ _ ∧ _)
        have hB34 := hB31.alloc hB31.size (.cells #[] 3)
        have oR135 := oR132.alloc (.cells #[] 3)
        have xb36 := xb33.alloc (.cells #[] 3)
        clear hB31 oR132 xb33
        have ho0 : Own (w5.alloc (.cells #[] 3)) w5.heap.size (.slice (some ⟨w5.heap.size, 0, none⟩) 0 0) [] := made_at 3 1 (by first | rfl | (simp; done)) (Nat.le_refl _)
        have hsl := (hs.on4 hB34)
        rcases B with _ | ad
        · skip
          have hln := hsl.none_nil
          have hl : l = [] := by cases l <;> simp_all [ints]
          subst hl
          clear hln hsl
          have hB37 := hB34.alloc hB34.size (.cells #[.int .i64 0, .int .i64 1, .int .i64 1, .int .i64 3] 3)
          have oR138 := oR135.alloc (.cells #[.int .i64 0, .int .i64 1, .int .i64 1, .int .i64 3] 3)
          have xb39 := xb36.alloc (.cells #[.int .i64 0, .int .i64 1, .int .i64 1, .int .i64 3] 3)
          clear hB34 oR135 xb36
          have hown2 := ((ho0).below ((Below.refl _ _).alloc (Nat.le_refl _) (.cells #[.int .i64 0, .int .i64 1, .int .i64 1, .int .i64 3] 3))).out
          have hlow2 := hown2.lt
          go_wp2_with (at_builtin; refine wpList_append_own_at _ rfl _ _ 23 rfl (w5.heap.size) 3 i0 (.int .i64 0) 1 8 Try.underlying23 hi0 hz0 hz1 hz2 rfl (by decide) _ _ _ rfl hown2 ⟨w5.heap.size + 1, 0, none⟩ 4 4 [.int .i64 0, .int .i64 1, .int .i64 1, .int .i64 3] rfl rfl (by simpa using cells_new (w5.alloc (.cells #[] 3)) [.int .i64 0, .int .i64 1, .int .i64 1, .int .i64 3] 3) ?c2 ?c3 ?c4 ?c5 ?_)
          case c2 => simp [Value.oneCell']
          case c3 => unfold maxLen; first | (simp; done) | (simp; omega) | omega
          case c4 => first | (simp; done) | (simp; omega) | omega
          case c5 => first | omega | (simp; omega) | (simp; done)
          case _ =>
            intro vb wB h9 hg9 _ _
            have hOB : Own wB (w5.heap.size) vb ([] ++ [0, 1, 1, 3]) := by simpa [Own, ints] using h9
            obtain ⟨Ab, cb, rfl, _⟩ := hOB.form
            have hBB := hB37.grown hg9 hB37.size (fun q hq => Nat.le_trans (by omega) (hlow2 q hq).1)
            clear h9 hg9 hown2 hlow2 hB37
            go_wp2_with fail
            with_reducible refine (iKeptWork_len (l := [] ++ [0, 1, 1, 3]) (by first | rfl | (simp; done)) hOB.seesN' (by decide)).mono ?_
            rintro e wC ⟨he, hbC⟩
            rw [EX.out] at he
            subst he
            clear hOB
            have hBC := hBB.trans (hbC.mono hBB.size)
            go_wp2
            go_ret
            exact ⟨by first | rfl | (simp; done) | (simp; omega), HB2.out.trans (hBC.mono HB2.out.size)⟩
        · skip
          have hl4 := hid (show l.length ≤ 16 by omega)
          go_wp2_with (at_builtin; refine wpList_append_own _ rfl _ _ 23 rfl (w5.heap.size) 3 i0 (.int .i64 0) 1 8 Try.underlying23 hi0 hz0 hz1 hz2 rfl (by decide) _ _ _ rfl ho0.out ad l.length d (ints l) rfl ?c1 ?cn ?c2 ?c3 ?c4 ?c5 ?_)
          case c1 => simp [ints]
          case cn => exact hsl.add
          case c2 => exact ints_one l
          case c3 => have := hl4.out; unfold maxLen; simp; omega
          case c4 => have := hl4.out; simp; omega
          case c5 => first | omega | (simp; omega) | (simp; done)
          case _ =>
            intro va wA hA hgA _
            have hOw : Own wA (w5.heap.size) va l := by simpa [Own, ints] using hA
            obtain ⟨Aa, ca, rfl, _⟩ := hOw.form
            have szA : w5.heap.size + 1 ≤ wA.heap.size := Nat.le_trans (by first | exact Nat.le_refl _ | (simp; done) | (simp; omega)) hgA.size
            have hB40 := hB34.grown hgA hB34.size (fun q hq => Nat.le_trans (by omega) (ho0.out.lt q hq).1)
            clear hA hgA ho0 hsl hB34
            clear oR135
            clear xb36
            have hB41 := hB40.alloc hB40.size (.cells #[.int .i64 0, .int .i64 1, .int .i64 1, .int .i64 3] 3)
            clear hB40
            have hown2 := ((hOw).below ((Below.refl _ _).alloc (Nat.le_refl _) (.cells #[.int .i64 0, .int .i64 1, .int .i64 1, .int .i64 3] 3))).out
            have hlow2 := hown2.lt
            go_wp2_with (at_builtin; refine wpList_append_own_at _ rfl _ _ 23 rfl (w5.heap.size) 3 i0 (.int .i64 0) 1 8 Try.underlying23 hi0 hz0 hz1 hz2 rfl (by decide) _ _ _ rfl hown2 ⟨wA.heap.size, 0, none⟩ 4 4 [.int .i64 0, .int .i64 1, .int .i64 1, .int .i64 3] rfl rfl (by simpa using cells_new wA [.int .i64 0, .int .i64 1, .int .i64 1, .int .i64 3] 3) ?c2 ?c3 ?c4 ?c5 ?_)
            case c2 => simp [Value.oneCell']
            case c3 => have := hl4.out; unfold maxLen; first | (simp; done) | (simp; omega) | omega
            case c4 => have := hl4.out; first | (simp; done) | (simp; omega) | omega
            case c5 => first | omega | (simp; omega) | (simp; done)
            case _ =>
              intro vb wB h9 hg9 _ _
              have hOB : Own wB (w5.heap.size) vb (l ++ [0, 1, 1, 3]) := by simpa [Own, ints] using h9
              obtain ⟨Ab, cb, rfl, _⟩ := hOB.form
              have hBB := hB41.grown hg9 hB41.size (fun q hq => Nat.le_trans (by omega) (hlow2 q hq).1)
              clear h9 hg9 hown2 hlow2 hB41
              go_wp2_with fail
              with_reducible refine (iKeptWork_len (l := l ++ [0, 1, 1, 3]) (by first | rfl | (simp; done)) hOB.seesN' (by have := hl4.out; simp; omega)).mono ?_
              rintro e wC ⟨he, hbC⟩
              rw [EX.out] at he
              subst he
              clear hOB
              have hBC := hBB.trans (hbC.mono hBB.size)
              go_wp2
              go_ret
              exact ⟨by first | rfl | (simp; done) | (simp; omega), HB2.out.trans (hBC.mono HB2.out.size)⟩
    · skip
      have hdb : (R.d != 0) = true := by simpa using hd
      go_wp2_with fail
      with_reducible refine (iKeptWork_any B d l _ (hs.on4 hB0) dl.n4).mono ?_
      rintro e w3 ⟨he, hb3⟩
      rw [EV.out] at he
      subst he
      have sz3 : w2.heap.size ≤ w3.heap.size := Nat.le_trans (by first | exact Nat.le_refl _ | (simp; done) | (simp; omega)) (hb3.size)
      have hB42 := hB0.trans (hb3.mono hB0.size)
      clear hB0
      go_wp2_with fail
      refine (iRunNest_any B d l _ (hs.on4 hB42) dl.n4).mono ?_
      rintro e w4 ⟨A4, c4, he, ho4, hb4⟩
      rw [ER.out, EY.out] at he
      rw [ER.out] at ho4
      subst he
      have sz4 : w3.heap.size ≤ w4.heap.size := Nat.le_trans (by first | exact Nat.le_refl _ | (simp; done) | (simp; omega)) (hb4.size)
      have hB43 := hB42.trans (hb4.mono hB42.size)
      clear hB42
      have oR144 : OwnM w4 w2.heap.size A4 c4 R := OwnM.mono ho4 (by first | omega | (simp; omega) | (simp; done))
      clear ho4
      have hB45 := hB43.alloc hB43.size (.cells #[.int .i64 R.d, .int .i64 R.w, .slice A4 R.m.length c4, .bool R.b] 25)
      have oR146 := oR144.alloc (.cells #[.int .i64 R.d, .int .i64 R.w, .slice A4 R.m.length c4, .bool R.b] 25)
      clear hB43 oR144
      have xb47 : At (w4.alloc (.cells #[.int .i64 R.d, .int .i64 R.w, .slice A4 R.m.length c4, .bool R.b] 25)) (w4.heap.size) 25 #[.int .i64 R.d, .int .i64 R.w, .slice A4 R.m.length c4, .bool R.b] := At.newAt _ _ (by first | rfl | (simp; done) | (simp; omega))
      obtain ⟨xb_0, xb_1, xb_2, xb_3, xb_l, xb_f⟩ := (⟨xb47.cell 0, xb47.cell 1, xb47.cell 2, xb47.cell 3, xb47.lt, xb47.frozen⟩ : _ ∧ _ ∧ _ ∧ _ ∧ _ ∧ _)
      go_wp2_with fail
      with_reducible refine (sKeptWork_any B d l _ (hs.on4 hB45) dl.n4).mono ?_
      rintro e w5 ⟨he, hb5⟩
      rw [EV.out] at he
      subst he
      have sz5 : w4.heap.size + 1 ≤ w5.heap.size := Nat.le_trans (by first | exact Nat.le_refl _ | (simp; done) | (simp; omega)) (hb5.size)
      have hB48 := hB45.trans (hb5.mono hB45.size)
      have oR149 := oR146.below hb5
      have xb50 := xb47.below hb5 xb47.lt
      clear hB45 oR146 xb47
      clear xb_0 xb_1 xb_2 xb_3 xb_l xb_f
      obtain ⟨xb_0, xb_1, xb_2, xb_3, xb_l, xb_f⟩ := (⟨xb50.cell 0, xb50.cell 1, xb50.cell 2, xb50.cell 3, xb50.lt, xb50.frozen⟩ : _ ∧ _ ∧ _ ∧ _ ∧ _ ∧ _)
      go_wp2_with fail
      with_reducible refine (sKeptWork_any B d l _ (hs.on4 hB48) dl.n4).mono ?_
      rintro e w6 ⟨he, hb6⟩
      rw [EV.out] at he
      subst he
      have sz6 : w5.heap.size ≤ w6.heap.size := Nat.le_trans (by first | exact Nat.le_refl _ | (simp; done) | (simp; omega)) (hb6.size)
      have hB51 := hB48.trans (hb6.mono hB48.size)
      have oR152 := oR149.below hb6
      have xb53 := xb50.below hb6 xb50.lt
      clear hB48 oR149 xb50
      clear xb_0 xb_1 xb_2 xb_3 xb_l xb_f
      obtain ⟨xb_0, xb_1, xb_2, xb_3, xb_l, xb_f⟩ := (⟨xb53.cell 0, xb53.cell 1, xb53.cell 2, xb53.cell 3, xb53.lt, xb53.frozen⟩ : _ ∧ _ ∧ _ ∧ _ ∧ _ ∧ _)
      go_wp2
      go_ret
      exact ⟨by first | rfl | (simp; done) | (simp; omega), HB2.out.trans (hB51.mono HB2.out.size)⟩
end Go.Proofs.Ytocaddibdiikpaa

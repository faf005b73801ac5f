/-
  The walk of the law FnRunNestWork: at every code it returns true and changes nothing that was there. Conditions: none.
-/
import Derived.Test.YthmpeahlddfpnabLawNsB
import Derived.Test.YthmpeahlddfpnabLawFrame
import Derived.BigQuiet

namespace Go.Proofs.Ythmpeahlddfpnab
open Go.RowKit Nes

set_option maxHeartbeats 8000000 in
theorem walkRunNestWork (a : Option Addr) (len cap : Nat) (zs : List Int) (w : World) (hn : zs.length = len) (hc : len ≤ cap) (hcc : cap ≤ maxLen) (h : Sees w w.heap.size a (byts zs)) (hz : ∀ y ∈ zs, 0 ≤ y ∧ y ≤ 255) :
    Calls Try.prog 8 #[.slice a len cap] w fun e w' => e = .returned (.bool true) ∧ Below w.heap.size w w' := by
  have HE := hid hn
  have HC := hid hcc
  have HZ := hid hz
  clear hn hcc hz
  by_cases hbig : 1048576 < len
  · go_enter Try.func8, Try.ntmps8
    go_wp2
    go_ret
    exact ⟨rfl, Below.refl _ _⟩
  · go_enter Try.func8, Try.ntmps8
    go_wp2_with fail
    refine (drawRunNest_any _ _ _ _ _ h HZ.out HE.out hc (by omega) HC.out).mono ?_
    rintro e w2 ⟨B, d, l, rfl, dl⟩
    have hs := dl.sees
    have HB2 := hid dl.bel
    have h18 := dl.n18
    have hB0 := Below.refl w2.heap.size w2
    obtain ⟨R, hR⟩ : ∃ R, R = runS l := ⟨_, rfl⟩
    have ER : Hid (runS l = R) := hid hR.symm
    have HRl := hid (show R.m.length ≤ 4194304 by rw [hR]; exact Nat.le_trans (runS_len l) (by decide))
    have HR := hid hR
    clear hR
    obtain ⟨V, hV⟩ : ∃ V, V = runV l := ⟨_, rfl⟩
    have EV : Hid (runV l = V) := hid hV.symm
    have HV := hid hV
    clear hV
    obtain ⟨K, hK⟩ : ∃ K, K = keptV l := ⟨_, rfl⟩
    have EK : Hid (keptV l = K) := hid hK.symm
    have HL := hid (fun (h : l.length ≤ 16) => (⟨by have := (acc_work l).1; rw [HR.out, hK, runS_yes h, keptV_yes h]; exact this, by have := acc_work l; have := (acc_ok l).2.1; have := ones_range l; rw [HR.out, hK, runS_yes h, keptV_yes h]; omega⟩ : R.w + K ≤ ones l ∧ (0 ≤ R.w ∧ R.w ≤ 12) ∧ 0 ≤ K ∧ K ≤ 16))
    clear hK
    have HF := hid (fun (h : ¬ V < 0) => runV_few (l := l) (by rw [← HV.out]; exact h))
    by_cases hv : V < 0
    · skip
      go_wp2_with fail
      refine (iRunNest_any B d l _ (hs.on4 hB0) dl.n4).mono ?_
      rintro e w3 ⟨A3, c3, he, ho3, hb3⟩
      rw [ER.out, EV.out] at he
      rw [ER.out] at ho3
      subst he
      have sz3 : w2.heap.size ≤ w3.heap.size := Nat.le_trans (by first | exact Nat.le_refl _ | (simp; done) | (simp; omega)) (hb3.size)
      have hB1 := hB0.trans (hb3.mono hB0.size)
      clear hB0
      have oR12 : OwnM w3 w2.heap.size A3 c3 R := OwnM.mono ho3 (by first | omega | (simp; omega) | (simp; done))
      clear ho3
      have hB3 := hB1.alloc hB1.size (.cells #[.int .i64 R.d, .int .i64 R.w, .slice A3 R.m.length c3, .bool R.b] 25)
      have oR14 := oR12.alloc (.cells #[.int .i64 R.d, .int .i64 R.w, .slice A3 R.m.length c3, .bool R.b] 25)
      clear hB1 oR12
      have xb5 : At (w3.alloc (.cells #[.int .i64 R.d, .int .i64 R.w, .slice A3 R.m.length c3, .bool R.b] 25)) (w3.heap.size) 25 #[.int .i64 R.d, .int .i64 R.w, .slice A3 R.m.length c3, .bool R.b] := At.newAt _ _ (by first | rfl | (simp; done) | (simp; omega))
      obtain ⟨xb_0, xb_1, xb_2, xb_3, xb_l, xb_f⟩ := (⟨xb5.cell 0, xb5.cell 1, xb5.cell 2, xb5.cell 3, xb5.lt, xb5.frozen⟩ : _ ∧ _ ∧ _ ∧ _ ∧ _ ∧ _)
      go_wp2_with fail
      refine (sRunNest_any B d l _ (hs.on4 hB3) dl.n4).mono ?_
      rintro e w4 ⟨A4, c4, he, ho4, hb4⟩
      rw [ER.out, EV.out] at he
      rw [ER.out] at ho4
      subst he
      have sz4 : w3.heap.size + 1 ≤ w4.heap.size := Nat.le_trans (by first | exact Nat.le_refl _ | (simp; done) | (simp; omega)) (hb4.size)
      have hB6 := hB3.trans (hb4.mono hB3.size)
      have oR17 := oR14.below hb4
      have xb8 := xb5.below hb4 xb5.lt
      clear hB3 oR14 xb5
      clear xb_0 xb_1 xb_2 xb_3 xb_l xb_f
      have oR29 : OwnM w4 w2.heap.size A4 c4 R := OwnM.mono ho4 (by first | omega | (simp; omega) | (simp; done))
      clear ho4
      have hB10 := hB6.alloc hB6.size (.cells #[.int .i64 R.d, .int .i64 R.w, .slice A4 R.m.length c4, .bool R.b] 25)
      have oR111 := oR17.alloc (.cells #[.int .i64 R.d, .int .i64 R.w, .slice A4 R.m.length c4, .bool R.b] 25)
      have xb12 := xb8.alloc (.cells #[.int .i64 R.d, .int .i64 R.w, .slice A4 R.m.length c4, .bool R.b] 25)
      have oR213 := oR29.alloc (.cells #[.int .i64 R.d, .int .i64 R.w, .slice A4 R.m.length c4, .bool R.b] 25)
      clear hB6 oR17 xb8 oR29
      have xc14 : At (w4.alloc (.cells #[.int .i64 R.d, .int .i64 R.w, .slice A4 R.m.length c4, .bool R.b] 25)) (w4.heap.size) 25 #[.int .i64 R.d, .int .i64 R.w, .slice A4 R.m.length c4, .bool R.b] := At.newAt _ _ (by first | rfl | (simp; done) | (simp; omega))
      obtain ⟨xb_0, xb_1, xb_2, xb_3, xb_l, xb_f⟩ := (⟨xb12.cell 0, xb12.cell 1, xb12.cell 2, xb12.cell 3, xb12.lt, xb12.frozen⟩ : _ ∧ _ ∧ _ ∧ _ ∧ _ ∧ _)
      obtain ⟨xc_0, xc_1, xc_2, xc_3, xc_l, xc_f⟩ := (⟨xc14.cell 0, xc14.cell 1, xc14.cell 2, xc14.cell 3, xc14.lt, xc14.frozen⟩ : _ ∧ _ ∧ _ ∧ _ ∧ _ ∧ _)
      go_wp2_with fail
      with_reducible refine (equalNest_same A3 A4 c3 c4 R _ oR111.sees oR213.sees HRl.out).mono ?_
      rintro e w5 ⟨rfl, hb5⟩
      have sz5 : w4.heap.size + 1 ≤ w5.heap.size := Nat.le_trans (by first | exact Nat.le_refl _ | (simp; done) | (simp; omega)) (hb5.size)
      have hB15 := hB10.trans (hb5.mono hB10.size)
      have oR116 := oR111.below hb5
      have xb17 := xb12.below hb5 xb12.lt
      have oR218 := oR213.below hb5
      have xc19 := xc14.below hb5 xc14.lt
      clear hB10 oR111 xb12 oR213 xc14
      clear xb_0 xb_1 xb_2 xb_3 xb_l xb_f xc_0 xc_1 xc_2 xc_3 xc_l xc_f
      obtain ⟨xb_0, xb_1, xb_2, xb_3, xb_l, xb_f⟩ := (⟨xb17.cell 0, xb17.cell 1, xb17.cell 2, xb17.cell 3, xb17.lt, xb17.frozen⟩ : _ ∧ _ ∧ _ ∧ _ ∧ _ ∧ _)
      obtain ⟨xc_0, xc_1, xc_2, xc_3, xc_l, xc_f⟩ := (⟨xc19.cell 0, xc19.cell 1, xc19.cell 2, xc19.cell 3, xc19.lt, xc19.frozen⟩ : _ ∧ _ ∧ _ ∧ _ ∧ _ ∧ _)
      go_wp2_with fail
      with_reducible refine (equalNest_same A3 A4 c3 c4 R _ oR116.sees oR218.sees HRl.out).mono ?_
      rintro e w6 ⟨rfl, hb6⟩
      have sz6 : w5.heap.size ≤ w6.heap.size := Nat.le_trans (by first | exact Nat.le_refl _ | (simp; done) | (simp; omega)) (hb6.size)
      have hB20 := hB15.trans (hb6.mono hB15.size)
      have oR121 := oR116.below hb6
      have xb22 := xb17.below hb6 xb17.lt
      have oR223 := oR218.below hb6
      have xc24 := xc19.below hb6 xc19.lt
      clear hB15 oR116 xb17 oR218 xc19
      clear xb_0 xb_1 xb_2 xb_3 xb_l xb_f xc_0 xc_1 xc_2 xc_3 xc_l xc_f
      obtain ⟨xb_0, xb_1, xb_2, xb_3, xb_l, xb_f⟩ := (⟨xb22.cell 0, xb22.cell 1, xb22.cell 2, xb22.cell 3, xb22.lt, xb22.frozen⟩ : _ ∧ _ ∧ _ ∧ _ ∧ _ ∧ _)
      obtain ⟨xc_0, xc_1, xc_2, xc_3, xc_l, xc_f⟩ := (⟨xc24.cell 0, xc24.cell 1, xc24.cell 2, xc24.cell 3, xc24.lt, xc24.frozen⟩ : _ ∧ _ ∧ _ ∧ _ ∧ _ ∧ _)
      go_wp2
      go_ret
      exact ⟨by first | rfl | (simp; done) | (simp; omega), HB2.out.trans (hB20.mono HB2.out.size)⟩
    · skip
      obtain ⟨b1, ⟨b2, b3⟩, b4, b5⟩ := HL.out (HF.out (by omega))
      have B1 := hid b1
      clear b1
      have hw1 : IntKind.i64.wrap (R.w + K) = R.w + K := by rw [IntKind.wrap_i64]; omega
      go_wp2_with fail
      refine (iRunNest_any B d l _ (hs.on4 hB0) dl.n4).mono ?_
      rintro e w3 ⟨A3, c3, he, ho3, hb3⟩
      rw [ER.out, EV.out] at he
      rw [ER.out] at ho3
      subst he
      have sz3 : w2.heap.size ≤ w3.heap.size := Nat.le_trans (by first | exact Nat.le_refl _ | (simp; done) | (simp; omega)) (hb3.size)
      have hB25 := hB0.trans (hb3.mono hB0.size)
      clear hB0
      have oR126 : OwnM w3 w2.heap.size A3 c3 R := OwnM.mono ho3 (by first | omega | (simp; omega) | (simp; done))
      clear ho3
      have hB27 := hB25.alloc hB25.size (.cells #[.int .i64 R.d, .int .i64 R.w, .slice A3 R.m.length c3, .bool R.b] 25)
      have oR128 := oR126.alloc (.cells #[.int .i64 R.d, .int .i64 R.w, .slice A3 R.m.length c3, .bool R.b] 25)
      clear hB25 oR126
      have xb29 : At (w3.alloc (.cells #[.int .i64 R.d, .int .i64 R.w, .slice A3 R.m.length c3, .bool R.b] 25)) (w3.heap.size) 25 #[.int .i64 R.d, .int .i64 R.w, .slice A3 R.m.length c3, .bool R.b] := At.newAt _ _ (by first | rfl | (simp; done) | (simp; omega))
      obtain ⟨xb_0, xb_1, xb_2, xb_3, xb_l, xb_f⟩ := (⟨xb29.cell 0, xb29.cell 1, xb29.cell 2, xb29.cell 3, xb29.lt, xb29.frozen⟩ : _ ∧ _ ∧ _ ∧ _ ∧ _ ∧ _)
      go_wp2_with fail
      refine (sRunNest_any B d l _ (hs.on4 hB27) dl.n4).mono ?_
      rintro e w4 ⟨A4, c4, he, ho4, hb4⟩
      rw [ER.out, EV.out] at he
      rw [ER.out] at ho4
      subst he
      have sz4 : w3.heap.size + 1 ≤ w4.heap.size := Nat.le_trans (by first | exact Nat.le_refl _ | (simp; done) | (simp; omega)) (hb4.size)
      have hB30 := hB27.trans (hb4.mono hB27.size)
      have oR131 := oR128.below hb4
      have xb32 := xb29.below hb4 xb29.lt
      clear hB27 oR128 xb29
      clear xb_0 xb_1 xb_2 xb_3 xb_l xb_f
      have oR233 : OwnM w4 w2.heap.size A4 c4 R := OwnM.mono ho4 (by first | omega | (simp; omega) | (simp; done))
      clear ho4
      have hB34 := hB30.alloc hB30.size (.cells #[.int .i64 R.d, .int .i64 R.w, .slice A4 R.m.length c4, .bool R.b] 25)
      have oR135 := oR131.alloc (.cells #[.int .i64 R.d, .int .i64 R.w, .slice A4 R.m.length c4, .bool R.b] 25)
      have xb36 := xb32.alloc (.cells #[.int .i64 R.d, .int .i64 R.w, .slice A4 R.m.length c4, .bool R.b] 25)
      have oR237 := oR233.alloc (.cells #[.int .i64 R.d, .int .i64 R.w, .slice A4 R.m.length c4, .bool R.b] 25)
      clear hB30 oR131 xb32 oR233
      have xc38 : At (w4.alloc (.cells #[.int .i64 R.d, .int .i64 R.w, .slice A4 R.m.length c4, .bool R.b] 25)) (w4.heap.size) 25 #[.int .i64 R.d, .int .i64 R.w, .slice A4 R.m.length c4, .bool R.b] := At.newAt _ _ (by first | rfl | (simp; done) | (simp; omega))
      obtain ⟨xb_0, xb_1, xb_2, xb_3, xb_l, xb_f⟩ := (⟨xb36.cell 0, xb36.cell 1, xb36.cell 2, xb36.cell 3, xb36.lt, xb36.frozen⟩ : _ ∧ _ ∧ _ ∧ _ ∧ _ ∧ _)
      obtain ⟨xc_0, xc_1, xc_2, xc_3, xc_l, xc_f⟩ := (⟨xc38.cell 0, xc38.cell 1, xc38.cell 2, xc38.cell 3, xc38.lt, xc38.frozen⟩ : _ ∧ _ ∧ _ ∧ _ ∧ _ ∧ _)
      go_wp2_with fail
      with_reducible refine (equalNest_same A3 A4 c3 c4 R _ oR135.sees oR237.sees HRl.out).mono ?_
      rintro e w5 ⟨rfl, hb5⟩
      have sz5 : w4.heap.size + 1 ≤ w5.heap.size := Nat.le_trans (by first | exact Nat.le_refl _ | (simp; done) | (simp; omega)) (hb5.size)
      have hB39 := hB34.trans (hb5.mono hB34.size)
      have oR140 := oR135.below hb5
      have xb41 := xb36.below hb5 xb36.lt
      have oR242 := oR237.below hb5
      have xc43 := xc38.below hb5 xc38.lt
      clear hB34 oR135 xb36 oR237 xc38
      clear xb_0 xb_1 xb_2 xb_3 xb_l xb_f xc_0 xc_1 xc_2 xc_3 xc_l xc_f
      clear xc43
      clear oR242
      obtain ⟨xb_0, xb_1, xb_2, xb_3, xb_l, xb_f⟩ := (⟨xb41.cell 0, xb41.cell 1, xb41.cell 2, xb41.cell 3, xb41.lt, xb41.frozen⟩ : _ ∧ _ ∧ _ ∧ _ ∧ _ ∧ _)
      go_wp2_with fail
      go_loop [8, 9] (fun n i => ∃ j : Nat, j ≤ l.length ∧ i = .int .i64 j ∧ n = .int .i64 (ones (l.take j))) (fun _ i => l.length - (intOf i).toNat)
      case atStart => exact ⟨0, Nat.zero_le _, rfl, rfl⟩
      case round =>
        obtain ⟨j, hj, rfl, rfl⟩ := hrel
        by_cases hjl : j < l.length
        · skip
          have hji : (j : Int) < (l.length : Int) := by omega
          obtain ⟨b, o, rfl, hbl, hcl⟩ := (hs.on4 hB39).int hjl
          obtain ⟨s1, s2⟩ := ones_step hjl
          have hor := ones_range (l.take j)
          have htl : (l.take j).length ≤ 18 := by rw [List.length_take]; omega
          have HS1 := hid s1
          have HS2 := hid s2
          obtain ⟨x, hx⟩ : ∃ x, x = l[j] := ⟨_, rfl⟩
          rw [← hx] at hcl HS1 HS2
          clear hx s1 s2
          obtain ⟨Q, hQ⟩ : ∃ Q, Q = ones (l.take j) := ⟨_, rfl⟩
          have EQ : Hid (ones (l.take j) = Q) := hid hQ.symm
          rw [← hQ] at hor HS1 HS2
          rw [← hQ]
          clear hQ
          have hw1 : IntKind.i64.wrap (Q + 1) = Q + 1 := by rw [IntKind.wrap_i64]; omega
          by_cases hx1 : x = 1
          · skip
            have hxb : (x == 1) = true := by simp [hx1]
            have HT := hid (HS1.out hx1)
            clear hx1
            go_wp2
            go_round
            case rel => exact ⟨j + 1, by omega, by go_num, by rw [HT.out]⟩
            case measure => simp [intOf]; omega
          · skip
            have hxb : (x == 1) = false := beq_eq_false_iff_ne.2 hx1
            have HT := hid (HS2.out hx1)
            clear hx1
            go_wp2
            go_round
            case rel => exact ⟨j + 1, by omega, by go_num, by rw [HT.out]⟩
            case measure => simp [intOf]; omega
        · skip
          have hji : ¬ (j : Int) < (l.length : Int) := by omega
          rw [take_whole hjl]
          obtain ⟨Q, hQ⟩ : ∃ Q, Q = ones l := ⟨_, rfl⟩
          have EQ : Hid (ones l = Q) := hid hQ.symm
          rw [← hQ]
          have hvq : R.w + K ≤ Q := by rw [hQ]; exact B1.out
          clear hQ
          have hvb : decide (R.w + K ≤ Q) = true := by simpa using hvq
          have xbd := xb41.drew
          have hBd := hB39.drew
          have hsd := hs.on4 hBd
          obtain ⟨xb_0, xb_1, xb_2, xb_3, xb_l, xb_f⟩ := (⟨xb41.cell 0, xb41.cell 1, xb41.cell 2, xb41.cell 3, xb41.lt, xb41.frozen⟩ : _ ∧ _ ∧ _ ∧ _ ∧ _ ∧ _)
          go_wp2_with fail
          go_region_held3 (fun w' => w'.cell? ⟨w3.heap.size, 1, none⟩ = some (.int .i64 R.w))
            (first | with_reducible exact xb_1 | with_reducible exact y1 | go_keep)
            (first
              | (go_at_call 21; (with_reducible refine (iKeptWork_any B d l _ hsd dl.n4).mono ?_); rintro e w9 ⟨he, hb9⟩; rw [EK.out] at he; subst he; have hB9 := hBd.trans (hb9.mono hBd.size); obtain ⟨y0, y1, y2, y3, yl, yf⟩ := (xbd.below hb9 xbd.lt).four)
              | fail)
          all_goals
            go_wp2
            go_ret
            exact ⟨by first | rfl | (simp; done) | (simp; omega), HB2.out.trans (hB9.mono HB2.out.size)⟩
end Go.Proofs.Ythmpeahlddfpnab

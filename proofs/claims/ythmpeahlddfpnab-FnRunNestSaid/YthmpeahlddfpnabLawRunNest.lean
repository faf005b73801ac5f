/-
  The walk of the law FnRunNest: at every code it returns true and changes nothing that was there. Conditions: none.
-/
import Derived.Test.YthmpeahlddfpnabLawNsB
import Derived.Test.YthmpeahlddfpnabLawFrame
import Derived.BigQuiet

namespace Go.Proofs.Ythmpeahlddfpnab
open Go.RowKit Nes

set_option maxHeartbeats 8000000 in
theorem walkRunNest (a : Option Addr) (len cap : Nat) (zs : List Int) (w : World) (hn : zs.length = len) (hc : len ≤ cap) (hcc : cap ≤ maxLen) (h : Sees w w.heap.size a (byts zs)) (hz : ∀ y ∈ zs, 0 ≤ y ∧ y ≤ 255) :
    Calls Try.prog 4 #[.slice a len cap] w fun e w' => e = .returned (.bool true) ∧ Below w.heap.size w w' := by
  have HE := hid hn
  have HC := hid hcc
  have HZ := hid hz
  clear hn hcc hz
  by_cases hbig : 1048576 < len
  · go_enter Try.func4, Try.ntmps4
    go_wp2
    go_ret
    exact ⟨rfl, Below.refl _ _⟩
  · go_enter Try.func4, Try.ntmps4
    go_wp2_with fail
    refine (drawRunNest_any _ _ _ _ _ h HZ.out HE.out hc (by omega) HC.out).mono ?_
    rintro e w2 ⟨B, d, l, rfl, dl⟩
    have hs := dl.sees
    have HB2 := hid dl.bel
    have h18 := dl.n18
    have hB0 := Below.refl w2.heap.size w2
    obtain ⟨R, hR⟩ : ∃ R, R = runS l := ⟨_, rfl⟩
    have ER : Hid (runS l = R) := hid hR.symm
    have HRl := hid (show R.m.length ≤ 4194304 by rw [hR]; exact Nat.le_trans (runS_len l) (by decide))
    have HR := hid hR
    clear hR
    obtain ⟨V, hV⟩ : ∃ V, V = runV l := ⟨_, rfl⟩
    have EV : Hid (runV l = V) := hid hV.symm
    have HV := hid hV
    clear hV
    have HF := hid (fun (h : ¬ V < 0) => runV_few (l := l) (by rw [← HV.out]; exact h))
    by_cases hv : V < 0
    · skip
      go_wp2_with fail
      refine (iRunNest_any B d l _ (hs.on4 hB0) dl.n4).mono ?_
      rintro e w3 ⟨A3, c3, he, ho3, hb3⟩
      rw [ER.out, EV.out] at he
      rw [ER.out] at ho3
      subst he
      have sz3 : w2.heap.size ≤ w3.heap.size := Nat.le_trans (by first | exact Nat.le_refl _ | (simp; done) | (simp; omega)) (hb3.size)
      have hB1 := hB0.trans (hb3.mono hB0.size)
      clear hB0
      have oR12 : OwnM w3 w2.heap.size A3 c3 R := OwnM.mono ho3 (by first | omega | (simp; omega) | (simp; done))
      clear ho3
      have hB3 := hB1.alloc hB1.size (.cells #[.int .i64 R.d, .int .i64 R.w, .slice A3 R.m.length c3, .bool R.b] 25)
      have oR14 := oR12.alloc (.cells #[.int .i64 R.d, .int .i64 R.w, .slice A3 R.m.length c3, .bool R.b] 25)
      clear hB1 oR12
      have xb5 : At (w3.alloc (.cells #[.int .i64 R.d, .int .i64 R.w, .slice A3 R.m.length c3, .bool R.b] 25)) (w3.heap.size) 25 #[.int .i64 R.d, .int .i64 R.w, .slice A3 R.m.length c3, .bool R.b] := At.newAt _ _ (by first | rfl | (simp; done) | (simp; omega))
      obtain ⟨xb_0, xb_1, xb_2, xb_3, xb_l, xb_f⟩ := (⟨xb5.cell 0, xb5.cell 1, xb5.cell 2, xb5.cell 3, xb5.lt, xb5.frozen⟩ : _ ∧ _ ∧ _ ∧ _ ∧ _ ∧ _)
      go_wp2_with fail
      refine (sRunNest_any B d l _ (hs.on4 hB3) dl.n4).mono ?_
      rintro e w4 ⟨A4, c4, he, ho4, hb4⟩
      rw [ER.out, EV.out] at he
      rw [ER.out] at ho4
      subst he
      have sz4 : w3.heap.size + 1 ≤ w4.heap.size := Nat.le_trans (by first | exact Nat.le_refl _ | (simp; done) | (simp; omega)) (hb4.size)
      have hB6 := hB3.trans (hb4.mono hB3.size)
      have oR17 := oR14.below hb4
      have xb8 := xb5.below hb4 xb5.lt
      clear hB3 oR14 xb5
      clear xb_0 xb_1 xb_2 xb_3 xb_l xb_f
      have oR29 : OwnM w4 w2.heap.size A4 c4 R := OwnM.mono ho4 (by first | omega | (simp; omega) | (simp; done))
      clear ho4
      have hB10 := hB6.alloc hB6.size (.cells #[.int .i64 R.d, .int .i64 R.w, .slice A4 R.m.length c4, .bool R.b] 25)
      have oR111 := oR17.alloc (.cells #[.int .i64 R.d, .int .i64 R.w, .slice A4 R.m.length c4, .bool R.b] 25)
      have xb12 := xb8.alloc (.cells #[.int .i64 R.d, .int .i64 R.w, .slice A4 R.m.length c4, .bool R.b] 25)
      have oR213 := oR29.alloc (.cells #[.int .i64 R.d, .int .i64 R.w, .slice A4 R.m.length c4, .bool R.b] 25)
      clear hB6 oR17 xb8 oR29
      have xc14 : At (w4.alloc (.cells #[.int .i64 R.d, .int .i64 R.w, .slice A4 R.m.length c4, .bool R.b] 25)) (w4.heap.size) 25 #[.int .i64 R.d, .int .i64 R.w, .slice A4 R.m.length c4, .bool R.b] := At.newAt _ _ (by first | rfl | (simp; done) | (simp; omega))
      obtain ⟨xb_0, xb_1, xb_2, xb_3, xb_l, xb_f⟩ := (⟨xb12.cell 0, xb12.cell 1, xb12.cell 2, xb12.cell 3, xb12.lt, xb12.frozen⟩ : _ ∧ _ ∧ _ ∧ _ ∧ _ ∧ _)
      obtain ⟨xc_0, xc_1, xc_2, xc_3, xc_l, xc_f⟩ := (⟨xc14.cell 0, xc14.cell 1, xc14.cell 2, xc14.cell 3, xc14.lt, xc14.frozen⟩ : _ ∧ _ ∧ _ ∧ _ ∧ _ ∧ _)
      go_wp2_with fail
      with_reducible refine (equalNest_same A3 A4 c3 c4 R _ oR111.sees oR213.sees HRl.out).mono ?_
      rintro e w5 ⟨rfl, hb5⟩
      have sz5 : w4.heap.size + 1 ≤ w5.heap.size := Nat.le_trans (by first | exact Nat.le_refl _ | (simp; done) | (simp; omega)) (hb5.size)
      have hB15 := hB10.trans (hb5.mono hB10.size)
      have oR116 := oR111.below hb5
      have xb17 := xb12.below hb5 xb12.lt
      have oR218 := oR213.below hb5
      have xc19 := xc14.below hb5 xc14.lt
      clear hB10 oR111 xb12 oR213 xc14
      clear xb_0 xb_1 xb_2 xb_3 xb_l xb_f xc_0 xc_1 xc_2 xc_3 xc_l xc_f
      obtain ⟨xb_0, xb_1, xb_2, xb_3, xb_l, xb_f⟩ := (⟨xb17.cell 0, xb17.cell 1, xb17.cell 2, xb17.cell 3, xb17.lt, xb17.frozen⟩ : _ ∧ _ ∧ _ ∧ _ ∧ _ ∧ _)
      obtain ⟨xc_0, xc_1, xc_2, xc_3, xc_l, xc_f⟩ := (⟨xc19.cell 0, xc19.cell 1, xc19.cell 2, xc19.cell 3, xc19.lt, xc19.frozen⟩ : _ ∧ _ ∧ _ ∧ _ ∧ _ ∧ _)
      go_wp2_with fail
      with_reducible refine (equalNest_same A3 A4 c3 c4 R _ oR116.sees oR218.sees HRl.out).mono ?_
      rintro e w6 ⟨rfl, hb6⟩
      have sz6 : w5.heap.size ≤ w6.heap.size := Nat.le_trans (by first | exact Nat.le_refl _ | (simp; done) | (simp; omega)) (hb6.size)
      have hB20 := hB15.trans (hb6.mono hB15.size)
      have oR121 := oR116.below hb6
      have xb22 := xb17.below hb6 xb17.lt
      have oR223 := oR218.below hb6
      have xc24 := xc19.below hb6 xc19.lt
      clear hB15 oR116 xb17 oR218 xc19
      clear xb_0 xb_1 xb_2 xb_3 xb_l xb_f xc_0 xc_1 xc_2 xc_3 xc_l xc_f
      obtain ⟨xb_0, xb_1, xb_2, xb_3, xb_l, xb_f⟩ := (⟨xb22.cell 0, xb22.cell 1, xb22.cell 2, xb22.cell 3, xb22.lt, xb22.frozen⟩ : _ ∧ _ ∧ _ ∧ _ ∧ _ ∧ _)
      obtain ⟨xc_0, xc_1, xc_2, xc_3, xc_l, xc_f⟩ := (⟨xc24.cell 0, xc24.cell 1, xc24.cell 2, xc24.cell 3, xc24.lt, xc24.frozen⟩ : _ ∧ _ ∧ _ ∧ _ ∧ _ ∧ _)
      go_wp2
      go_ret
      exact ⟨by first | rfl | (simp; done) | (simp; omega), HB2.out.trans (hB20.mono HB2.out.size)⟩
    by_cases hl0 : l.length = 0
    · skip
      have hl0b : ((l.length : Int) == 0) = true := by simp [hl0]
      have HL0 := hid hl0
      clear hl0
      go_wp2_with fail
      refine (iRunNest_any B d l _ (hs.on4 hB0) dl.n4).mono ?_
      rintro e w3 ⟨A3, c3, he, ho3, hb3⟩
      rw [ER.out, EV.out] at he
      rw [ER.out] at ho3
      subst he
      have sz3 : w2.heap.size ≤ w3.heap.size := Nat.le_trans (by first | exact Nat.le_refl _ | (simp; done) | (simp; omega)) (hb3.size)
      have hB25 := hB0.trans (hb3.mono hB0.size)
      clear hB0
      have oR126 : OwnM w3 w2.heap.size A3 c3 R := OwnM.mono ho3 (by first | omega | (simp; omega) | (simp; done))
      clear ho3
      have hB27 := hB25.alloc hB25.size (.cells #[.int .i64 R.d, .int .i64 R.w, .slice A3 R.m.length c3, .bool R.b] 25)
      have oR128 := oR126.alloc (.cells #[.int .i64 R.d, .int .i64 R.w, .slice A3 R.m.length c3, .bool R.b] 25)
      clear hB25 oR126
      have xb29 : At (w3.alloc (.cells #[.int .i64 R.d, .int .i64 R.w, .slice A3 R.m.length c3, .bool R.b] 25)) (w3.heap.size) 25 #[.int .i64 R.d, .int .i64 R.w, .slice A3 R.m.length c3, .bool R.b] := At.newAt _ _ (by first | rfl | (simp; done) | (simp; omega))
      obtain ⟨xb_0, xb_1, xb_2, xb_3, xb_l, xb_f⟩ := (⟨xb29.cell 0, xb29.cell 1, xb29.cell 2, xb29.cell 3, xb29.lt, xb29.frozen⟩ : _ ∧ _ ∧ _ ∧ _ ∧ _ ∧ _)
      go_wp2_with fail
      refine (sRunNest_any B d l _ (hs.on4 hB27) dl.n4).mono ?_
      rintro e w4 ⟨A4, c4, he, ho4, hb4⟩
      rw [ER.out, EV.out] at he
      rw [ER.out] at ho4
      subst he
      have sz4 : w3.heap.size + 1 ≤ w4.heap.size := Nat.le_trans (by first | exact Nat.le_refl _ | (simp; done) | (simp; omega)) (hb4.size)
      have hB30 := hB27.trans (hb4.mono hB27.size)
      have oR131 := oR128.below hb4
      have xb32 := xb29.below hb4 xb29.lt
      clear hB27 oR128 xb29
      clear xb_0 xb_1 xb_2 xb_3 xb_l xb_f
      have oR233 : OwnM w4 w2.heap.size A4 c4 R := OwnM.mono ho4 (by first | omega | (simp; omega) | (simp; done))
      clear ho4
      have hB34 := hB30.alloc hB30.size (.cells #[.int .i64 R.d, .int .i64 R.w, .slice A4 R.m.length c4, .bool R.b] 25)
      have oR135 := oR131.alloc (.cells #[.int .i64 R.d, .int .i64 R.w, .slice A4 R.m.length c4, .bool R.b] 25)
      have xb36 := xb32.alloc (.cells #[.int .i64 R.d, .int .i64 R.w, .slice A4 R.m.length c4, .bool R.b] 25)
      have oR237 := oR233.alloc (.cells #[.int .i64 R.d, .int .i64 R.w, .slice A4 R.m.length c4, .bool R.b] 25)
      clear hB30 oR131 xb32 oR233
      have xc38 : At (w4.alloc (.cells #[.int .i64 R.d, .int .i64 R.w, .slice A4 R.m.length c4, .bool R.b] 25)) (w4.heap.size) 25 #[.int .i64 R.d, .int .i64 R.w, .slice A4 R.m.length c4, .bool R.b] := At.newAt _ _ (by first | rfl | (simp; done) | (simp; omega))
      obtain ⟨xb_0, xb_1, xb_2, xb_3, xb_l, xb_f⟩ := (⟨xb36.cell 0, xb36.cell 1, xb36.cell 2, xb36.cell 3, xb36.lt, xb36.frozen⟩ : _ ∧ _ ∧ _ ∧ _ ∧ _ ∧ _)
      obtain ⟨xc_0, xc_1, xc_2, xc_3, xc_l, xc_f⟩ := (⟨xc38.cell 0, xc38.cell 1, xc38.cell 2, xc38.cell 3, xc38.lt, xc38.frozen⟩ : _ ∧ _ ∧ _ ∧ _ ∧ _ ∧ _)
      go_wp2_with fail
      with_reducible refine (equalNest_same A3 A4 c3 c4 R _ oR135.sees oR237.sees HRl.out).mono ?_
      rintro e w5 ⟨rfl, hb5⟩
      have sz5 : w4.heap.size + 1 ≤ w5.heap.size := Nat.le_trans (by first | exact Nat.le_refl _ | (simp; done) | (simp; omega)) (hb5.size)
      have hB39 := hB34.trans (hb5.mono hB34.size)
      have oR140 := oR135.below hb5
      have xb41 := xb36.below hb5 xb36.lt
      have oR242 := oR237.below hb5
      have xc43 := xc38.below hb5 xc38.lt
      clear hB34 oR135 xb36 oR237 xc38
      clear xb_0 xb_1 xb_2 xb_3 xb_l xb_f xc_0 xc_1 xc_2 xc_3 xc_l xc_f
      obtain ⟨xb_0, xb_1, xb_2, xb_3, xb_l, xb_f⟩ := (⟨xb41.cell 0, xb41.cell 1, xb41.cell 2, xb41.cell 3, xb41.lt, xb41.frozen⟩ : _ ∧ _ ∧ _ ∧ _ ∧ _ ∧ _)
      obtain ⟨xc_0, xc_1, xc_2, xc_3, xc_l, xc_f⟩ := (⟨xc43.cell 0, xc43.cell 1, xc43.cell 2, xc43.cell 3, xc43.lt, xc43.frozen⟩ : _ ∧ _ ∧ _ ∧ _ ∧ _ ∧ _)
      go_wp2_with fail
      with_reducible refine (equalNest_same A3 A4 c3 c4 R _ oR140.sees oR242.sees HRl.out).mono ?_
      rintro e w6 ⟨rfl, hb6⟩
      have sz6 : w5.heap.size ≤ w6.heap.size := Nat.le_trans (by first | exact Nat.le_refl _ | (simp; done) | (simp; omega)) (hb6.size)
      have hB44 := hB39.trans (hb6.mono hB39.size)
      have oR145 := oR140.below hb6
      have xb46 := xb41.below hb6 xb41.lt
      have oR247 := oR242.below hb6
      have xc48 := xc43.below hb6 xc43.lt
      clear hB39 oR140 xb41 oR242 xc43
      clear xb_0 xb_1 xb_2 xb_3 xb_l xb_f xc_0 xc_1 xc_2 xc_3 xc_l xc_f
      obtain ⟨xb_0, xb_1, xb_2, xb_3, xb_l, xb_f⟩ := (⟨xb46.cell 0, xb46.cell 1, xb46.cell 2, xb46.cell 3, xb46.lt, xb46.frozen⟩ : _ ∧ _ ∧ _ ∧ _ ∧ _ ∧ _)
      obtain ⟨xc_0, xc_1, xc_2, xc_3, xc_l, xc_f⟩ := (⟨xc48.cell 0, xc48.cell 1, xc48.cell 2, xc48.cell 3, xc48.lt, xc48.frozen⟩ : _ ∧ _ ∧ _ ∧ _ ∧ _ ∧ _)
      go_wp2
      go_ret
      exact ⟨by first | rfl | (simp; done) | (simp; omega), HB2.out.trans (hB44.mono HB2.out.size)⟩
    · skip
      have hl16 := HF.out (by omega)
      have hl0b : ((l.length : Int) == 0) = false := beq_eq_false_iff_ne.2 (by omega)
      obtain ⟨n, hn9⟩ : ∃ n, l.length = n + 1 := ⟨l.length - 1, by omega⟩
      have hnl : n < l.length := by omega
      have hcap := dl.cap
      have hrl := run_law hl16 hn9 hnl
      rw [← HV.out, ← HR.out] at hrl
      have HOK := hid (fun (_ : V = V) => (show nestB (runS l) = true from nestB_iff.2 (runS_ok l)))
      obtain ⟨P, hP⟩ : ∃ P, P = runS (l.take n) := ⟨_, rfl⟩
      have EP : Hid (runS (l.take n) = P) := hid hP.symm
      have HPl := hid (show P.m.length ≤ 4194304 by rw [hP]; exact Nat.le_trans (runS_len _) (by decide))
      rw [← hP] at hrl
      obtain ⟨Y, hY⟩ : ∃ Y, Y = runV (l.take n) := ⟨_, rfl⟩
      have EY : Hid (runV (l.take n) = Y) := hid hY.symm
      rw [← hY] at hrl
      have hYr := runV_range (l.take n)
      rw [← hY] at hYr
      have hw1 : IntKind.i64.wrap ((l.length : Int) - 1) = (n : Int) := by rw [IntKind.wrap_i64]; omega
      have m1 : (0 : Int) ≤ (n : Int) := by omega
      have m2 : (n : Int) ≤ (l.length : Int) := by omega
      have m3 : (n : Int) ≤ (d : Int) := by omega
      have m4 : (l.length : Int) ≤ (d : Int) := by omega
      have m5 : (n : Int) < (l.length : Int) := by omega
      have HT := hid (show (l.take n).length = n by rw [List.length_take]; omega)
      have HTn := hid (show (l.take n).length ≤ 4194304 by rw [HT.out]; omega)
      have HTS := hid (fun (w1 : World) (hs : Sees w1 w1.heap.size B (ints l)) => (show Sees w1 w1.heap.size B (ints (l.take n)) by rw [take_ints]; exact hs.take n))
      have HNL := hid hnl
      obtain ⟨b, o, rfl, hbl, hcl⟩ := dl.sees.int hnl
      obtain ⟨x, hx⟩ : ∃ x, x = l[n]'hnl := ⟨_, rfl⟩
      rw [← hx] at hcl hrl
      have HX := hid hx.symm
      obtain ⟨Q, hQ⟩ : ∃ Q, Q = stepS P x := ⟨_, rfl⟩
      have EQ : Hid (stepS P x = Q) := hid hQ.symm
      have HQl := hid (show Q.m.length ≤ 4194304 by rw [hQ]; exact Nat.le_trans (stepS_len P x) (by decide))
      obtain ⟨K, hK⟩ : ∃ K, K = stepB P x := ⟨_, rfl⟩
      have EK : Hid (stepB P x = K) := hid hK.symm
      rw [← hQ, ← hK] at hrl
      have HRV := hid (show nestB R = true by rw [HR.out]; exact nestB_iff.2 (runS_ok l))
      have HRL := hid hrl
      clear hx hP hY hn9 hrl hQ hK
      go_wp2_with fail
      refine (iRunNest_any (some ⟨b, o, none⟩) d l _ (hs.on4 hB0) dl.n4).mono ?_
      rintro e w3 ⟨A3, c3, he, ho3, hb3⟩
      rw [ER.out, EV.out] at he
      rw [ER.out] at ho3
      subst he
      have sz3 : w2.heap.size ≤ w3.heap.size := Nat.le_trans (by first | exact Nat.le_refl _ | (simp; done) | (simp; omega)) (hb3.size)
      have hB49 := hB0.trans (hb3.mono hB0.size)
      clear hB0
      have oR150 : OwnM w3 w2.heap.size A3 c3 R := OwnM.mono ho3 (by first | omega | (simp; omega) | (simp; done))
      clear ho3
      have hB51 := hB49.alloc hB49.size (.cells #[.int .i64 R.d, .int .i64 R.w, .slice A3 R.m.length c3, .bool R.b] 25)
      have oR152 := oR150.alloc (.cells #[.int .i64 R.d, .int .i64 R.w, .slice A3 R.m.length c3, .bool R.b] 25)
      clear hB49 oR150
      have xb53 : At (w3.alloc (.cells #[.int .i64 R.d, .int .i64 R.w, .slice A3 R.m.length c3, .bool R.b] 25)) (w3.heap.size) 25 #[.int .i64 R.d, .int .i64 R.w, .slice A3 R.m.length c3, .bool R.b] := At.newAt _ _ (by first | rfl | (simp; done) | (simp; omega))
      obtain ⟨xb_0, xb_1, xb_2, xb_3, xb_l, xb_f⟩ := (⟨xb53.cell 0, xb53.cell 1, xb53.cell 2, xb53.cell 3, xb53.lt, xb53.frozen⟩ : _ ∧ _ ∧ _ ∧ _ ∧ _ ∧ _)
      go_wp2_with fail
      refine (sRunNest_any (some ⟨b, o, none⟩) d l _ (hs.on4 hB51) dl.n4).mono ?_
      rintro e w4 ⟨A4, c4, he, ho4, hb4⟩
      rw [ER.out, EV.out] at he
      rw [ER.out] at ho4
      subst he
      have sz4 : w3.heap.size + 1 ≤ w4.heap.size := Nat.le_trans (by first | exact Nat.le_refl _ | (simp; done) | (simp; omega)) (hb4.size)
      have hB54 := hB51.trans (hb4.mono hB51.size)
      have oR155 := oR152.below hb4
      have xb56 := xb53.below hb4 xb53.lt
      clear hB51 oR152 xb53
      clear xb_0 xb_1 xb_2 xb_3 xb_l xb_f
      have oR257 : OwnM w4 w2.heap.size A4 c4 R := OwnM.mono ho4 (by first | omega | (simp; omega) | (simp; done))
      clear ho4
      have hB58 := hB54.alloc hB54.size (.cells #[.int .i64 R.d, .int .i64 R.w, .slice A4 R.m.length c4, .bool R.b] 25)
      have oR159 := oR155.alloc (.cells #[.int .i64 R.d, .int .i64 R.w, .slice A4 R.m.length c4, .bool R.b] 25)
      have xb60 := xb56.alloc (.cells #[.int .i64 R.d, .int .i64 R.w, .slice A4 R.m.length c4, .bool R.b] 25)
      have oR261 := oR257.alloc (.cells #[.int .i64 R.d, .int .i64 R.w, .slice A4 R.m.length c4, .bool R.b] 25)
      clear hB54 oR155 xb56 oR257
      have xc62 : At (w4.alloc (.cells #[.int .i64 R.d, .int .i64 R.w, .slice A4 R.m.length c4, .bool R.b] 25)) (w4.heap.size) 25 #[.int .i64 R.d, .int .i64 R.w, .slice A4 R.m.length c4, .bool R.b] := At.newAt _ _ (by first | rfl | (simp; done) | (simp; omega))
      obtain ⟨xb_0, xb_1, xb_2, xb_3, xb_l, xb_f⟩ := (⟨xb60.cell 0, xb60.cell 1, xb60.cell 2, xb60.cell 3, xb60.lt, xb60.frozen⟩ : _ ∧ _ ∧ _ ∧ _ ∧ _ ∧ _)
      obtain ⟨xc_0, xc_1, xc_2, xc_3, xc_l, xc_f⟩ := (⟨xc62.cell 0, xc62.cell 1, xc62.cell 2, xc62.cell 3, xc62.lt, xc62.frozen⟩ : _ ∧ _ ∧ _ ∧ _ ∧ _ ∧ _)
      go_wp2_with fail
      with_reducible refine (equalNest_same A3 A4 c3 c4 R _ oR159.sees oR261.sees HRl.out).mono ?_
      rintro e w5 ⟨rfl, hb5⟩
      have sz5 : w4.heap.size + 1 ≤ w5.heap.size := Nat.le_trans (by first | exact Nat.le_refl _ | (simp; done) | (simp; omega)) (hb5.size)
      have hB63 := hB58.trans (hb5.mono hB58.size)
      have oR164 := oR159.below hb5
      have xb65 := xb60.below hb5 xb60.lt
      have oR266 := oR261.below hb5
      have xc67 := xc62.below hb5 xc62.lt
      clear hB58 oR159 xb60 oR261 xc62
      clear xb_0 xb_1 xb_2 xb_3 xb_l xb_f xc_0 xc_1 xc_2 xc_3 xc_l xc_f
      clear xc67
      clear oR266
      obtain ⟨xb_0, xb_1, xb_2, xb_3, xb_l, xb_f⟩ := (⟨xb65.cell 0, xb65.cell 1, xb65.cell 2, xb65.cell 3, xb65.lt, xb65.frozen⟩ : _ ∧ _ ∧ _ ∧ _ ∧ _ ∧ _)
      go_wp2_with fail
      refine (iRunNest_len HT.out (HTS.out _ (hs.on4 hB63)) HTn.out).mono ?_
      rintro e w6 ⟨A6, c6, he, ho6, hb6⟩
      rw [EP.out, EY.out] at he
      rw [EP.out] at ho6
      subst he
      have sz6 : w5.heap.size ≤ w6.heap.size := Nat.le_trans (by first | exact Nat.le_refl _ | (simp; done) | (simp; omega)) (hb6.size)
      have hB68 := hB63.trans (hb6.mono hB63.size)
      have oR169 := oR164.below hb6
      have xb70 := xb65.below hb6 xb65.lt
      clear hB63 oR164 xb65
      clear xb_0 xb_1 xb_2 xb_3 xb_l xb_f
      have oP171 : OwnM w6 w2.heap.size A6 c6 P := OwnM.mono ho6 (by first | omega | (simp; omega) | (simp; done))
      clear ho6
      have hB72 := hB68.alloc hB68.size (.cells #[.int .i64 P.d, .int .i64 P.w, .slice A6 P.m.length c6, .bool P.b] 25)
      have oR173 := oR169.alloc (.cells #[.int .i64 P.d, .int .i64 P.w, .slice A6 P.m.length c6, .bool P.b] 25)
      have xb74 := xb70.alloc (.cells #[.int .i64 P.d, .int .i64 P.w, .slice A6 P.m.length c6, .bool P.b] 25)
      have oP175 := oP171.alloc (.cells #[.int .i64 P.d, .int .i64 P.w, .slice A6 P.m.length c6, .bool P.b] 25)
      clear hB68 oR169 xb70 oP171
      have xp76 : At (w6.alloc (.cells #[.int .i64 P.d, .int .i64 P.w, .slice A6 P.m.length c6, .bool P.b] 25)) (w6.heap.size) 25 #[.int .i64 P.d, .int .i64 P.w, .slice A6 P.m.length c6, .bool P.b] := At.newAt _ _ (by first | rfl | (simp; done) | (simp; omega))
      have hcx := Sees.cellAt (hs.on4 hB72) HNL.out
      rw [HX.out] at hcx
      have hbn : b < (w6.alloc (.cells #[.int .i64 P.d, .int .i64 P.w, .slice A6 P.m.length c6, .bool P.b] 25)).heap.size := by have := hB72.size; omega
      obtain ⟨wq, hwq⟩ : ∃ wq, wq = (w6.alloc (.cells #[.int .i64 P.d, .int .i64 P.w, .slice A6 P.m.length c6, .bool P.b] 25)) := ⟨_, rfl⟩
      rw [← hwq] at hB72 oR173 xb74 oP175 xp76 hcx hbn
      have q_xb : w3.heap.size < wq.heap.size := xb74.lt
      have q_xp : w6.heap.size < wq.heap.size := xp76.lt
      have hB_d := hB72.drew
      have oR1_d := oR173.drew
      have xb_d := xb74.drew
      have oP1_d := oP175.drew
      have xp_d := xp76.drew
      obtain ⟨xb_0, xb_1, xb_2, xb_3, xb_l, xb_f⟩ := (⟨xb74.cell 0, xb74.cell 1, xb74.cell 2, xb74.cell 3, xb74.lt, xb74.frozen⟩ : _ ∧ _ ∧ _ ∧ _ ∧ _ ∧ _)
      obtain ⟨xp_0, xp_1, xp_2, xp_3, xp_l, xp_f⟩ := (⟨xp76.cell 0, xp76.cell 1, xp76.cell 2, xp76.cell 3, xp76.lt, xp76.frozen⟩ : _ ∧ _ ∧ _ ∧ _ ∧ _ ∧ _)
      go_upto_region 9 with fail
      rw [← hwq]
      have HWQ := hid hwq
      clear hwq
      go_cut [10, 11] from 63 to 72 (fun v10 v11 wx => ∃ (g8 : Nat) (Aa : Option Addr) (ca : Nat), v10 = .pointer (some ⟨g8, 0, none⟩) ∧ v11 = .bool K ∧ At wx g8 25 #[.int .i64 Q.d, .int .i64 Q.w, .slice Aa Q.m.length ca, .bool Q.b] ∧ wq.heap.size ≤ g8 ∧ OwnM wx (wq.heap.size) Aa ca Q ∧ Below w2.heap.size w2 wx ∧ OwnM wx w2.heap.size A3 c3 R ∧ At wx (w3.heap.size) 25 #[.int .i64 R.d, .int .i64 R.w, .slice A3 R.m.length c3, .bool R.b] ∧ OwnM wx w2.heap.size A6 c6 P ∧ At wx (w6.heap.size) 25 #[.int .i64 P.d, .int .i64 P.w, .slice A6 P.m.length c6, .bool P.b])
      case first =>
        have nz1 : ¬ w6.heap.size = wq.heap.size := by have := xp76.lt; omega
        have nz2 : ¬ wq.heap.size = w6.heap.size := by omega
        have nz3 : ¬ b = wq.heap.size := by omega
        have nz4 : ¬ wq.heap.size = b := by omega
        go_region_held3 (fun w' => w'.cell? ⟨w6.heap.size, 0, none⟩ = some (.int .i64 P.d) ∧ w'.cell? ⟨w6.heap.size, 1, none⟩ = some (.int .i64 P.w) ∧ w'.cell? ⟨w6.heap.size, 2, none⟩ = some (.slice A6 P.m.length c6) ∧ w'.cell? ⟨w6.heap.size, 3, none⟩ = some (.bool P.b) ∧ w'.cell? ⟨b, o + n, none⟩ = some (.int .i64 x))
          (first | with_reducible exact ⟨xp_0, xp_1, xp_2, xp_3, hcx⟩ | with_reducible exact ⟨a0, a1, a2, a3, hca⟩ | go_keep)
          (first
            | (go_at_call 13; (with_reducible refine (iStepNest_any P _ A6 c6 _ (by first | exact oP1_d.sees | exact ((oP175.alloc _).drew).sees) oP175.cap HPl.out).mono ?_); rintro e wa hq9; obtain ⟨Aa, ca, he, hoa, hba⟩ := hq9; rw [EQ.out, EK.out] at he; rw [EQ.out] at hoa; subst he; have hB_a := (by first | exact hB_d.trans (hba.mono hB_d.size) | exact ((hB72.alloc hB72.size _).drew).trans (hba.mono ((hB72.alloc hB72.size _).drew).size) : Below w2.heap.size w2 wa); have oR1_a := (by first | exact oR1_d.below hba | exact ((oR173.alloc _).drew).below hba : OwnM wa w2.heap.size A3 c3 R); have xb_a := (by first | exact xb_d.below hba xb_d.lt | exact ((xb74.alloc _).drew).below hba ((xb74.alloc _).drew).lt : At wa (w3.heap.size) 25 #[.int .i64 R.d, .int .i64 R.w, .slice A3 R.m.length c3, .bool R.b]); have oP1_a := (by first | exact oP1_d.below hba | exact ((oP175.alloc _).drew).below hba : OwnM wa w2.heap.size A6 c6 P); have xp_a := (by first | exact xp_d.below hba xp_d.lt | exact ((xp76.alloc _).drew).below hba ((xp76.alloc _).drew).lt : At wa (w6.heap.size) 25 #[.int .i64 P.d, .int .i64 P.w, .slice A6 P.m.length c6, .bool P.b]); have hoam := (by first | exact OwnM.mono hoa (Nat.le_refl _) | exact OwnM.mono hoa (Nat.le_of_lt (by simp)) : OwnM wa (wq.heap.size) Aa ca Q); have hza := (by first | exact hba.size | exact Nat.le_trans (Nat.le_of_lt (by simp)) hba.size : wq.heap.size ≤ wa.heap.size); have hca := ((hB_a.cell (p := ⟨b, o + n, none⟩) hbl).trans hcl); obtain ⟨a0, a1, a2, a3, al, af⟩ := xp_a.four; have na1 : ¬ w6.heap.size = wa.heap.size := Nat.ne_of_lt al; have na2 : ¬ wa.heap.size = w6.heap.size := fun e => Nat.ne_of_lt al e.symm; have nb1 : ¬ b = wa.heap.size := Nat.ne_of_lt (Nat.lt_of_lt_of_le hbn hza); have nb2 : ¬ wa.heap.size = b := fun e => nb1 e.symm; (try have pza := ((At.newAt 25 #[.int .i64 0, .int .i64 0, .slice none 0 0, .bool false] rfl).drew : At ((wq.alloc (.cells #[.int .i64 0, .int .i64 0, .slice none 0 0, .bool false] 25)).drew) wq.heap.size 25 #[.int .i64 0, .int .i64 0, .slice none 0 0, .bool false]).below hba (by simp)); (try have pzc := pza.cell); (try have pzf := pza.frozen))
            | fail)
        all_goals
          go_wp2_with fail
          clear a0 a1 a2 a3 af
          go_meet
          first
            | (obtain ⟨hp8, hg8⟩ := four_put (.int .i64 Q.d) (.int .i64 Q.w) (.slice Aa Q.m.length ca) (.bool Q.b) pza rfl
               exact ⟨_, _, _, rfl, rfl, hp8, Nat.le_refl _, hoam.past4 pza hg8, below_put hB_a hg8 (by have := hB72.size; omega) hB_a.size, oR1_a.past4 pza hg8, xb_a.past hg8 (by have := xb74.lt; omega), oP1_a.past4 pza hg8, xp_a.past hg8 (by have := xp76.lt; omega)⟩)
            | exact ⟨_, _, _, rfl, rfl, At.newAt _ _ rfl, hza, hoam.alloc _, hB_a.alloc hB_a.size _, oR1_a.alloc _, xb_a.alloc _, oP1_a.alloc _, xp_a.alloc _⟩
      case rest =>
        obtain ⟨g8, Aa, ca, rfl, rfl, pn8, hge8, po8, hB_c, oR1_c, xb_c, oP1_c, xp_c⟩ := hcut
        clear hB_d oR1_d xb_d oP1_d xp_d hB72 oR173 xb74 oP175 xp76 xb_0 xb_1 xb_2 xb_3 xb_l xb_f xp_0 xp_1 xp_2 xp_3 xp_l xp_f
        have hB77 := hB_c
        clear hB_c
        have oR178 := oR1_c
        clear oR1_c
        have xb79 := xb_c
        clear xb_c
        have oP180 := oP1_c
        clear oP1_c
        have xp81 := xp_c
        clear xp_c
        have xn82 := pn8
        clear pn8
        have szc : g8 < wc.heap.size := xn82.lt
        cases K with
        | false =>
          obtain ⟨k1, k2⟩ := HRL.out.1 rfl
          have hw2 : IntKind.i64.wrap (Y + 1) = Y + 1 := by rw [IntKind.wrap_i64]; omega
          have hyb : (V == Y + 1) = true := by simp [k1]
          have K1 := hid k1
          subst k2
          clear k1
          obtain ⟨xb_0, xb_1, xb_2, xb_3, xb_l, xb_f⟩ := (⟨xb79.cell 0, xb79.cell 1, xb79.cell 2, xb79.cell 3, xb79.lt, xb79.frozen⟩ : _ ∧ _ ∧ _ ∧ _ ∧ _ ∧ _)
          obtain ⟨xp_0, xp_1, xp_2, xp_3, xp_l, xp_f⟩ := (⟨xp81.cell 0, xp81.cell 1, xp81.cell 2, xp81.cell 3, xp81.lt, xp81.frozen⟩ : _ ∧ _ ∧ _ ∧ _ ∧ _ ∧ _)
          obtain ⟨xn_0, xn_1, xn_2, xn_3, xn_l, xn_f⟩ := (⟨xn82.cell 0, xn82.cell 1, xn82.cell 2, xn82.cell 3, xn82.lt, xn82.frozen⟩ : _ ∧ _ ∧ _ ∧ _ ∧ _ ∧ _)
          have ne_xb_xn_ : ¬ w3.heap.size = g8 := by omega
          have ne_xn_xb_ : ¬ g8 = w3.heap.size := by omega
          have ne_xp_xn_ : ¬ w6.heap.size = g8 := by omega
          have ne_xn_xp_ : ¬ g8 = w6.heap.size := by omega
          go_wp2_with fail
          with_reducible refine (equalNest_same A3 A6 c3 c6 R _ oR178.sees oP180.sees HRl.out).mono ?_
          rintro e w7 ⟨rfl, hb7⟩
          have sz7 : wc.heap.size ≤ w7.heap.size := Nat.le_trans (by first | exact Nat.le_refl _ | (simp; done) | (simp; omega)) (hb7.size)
          have hB83 := hB77.trans (hb7.mono hB77.size)
          have oR184 := oR178.below hb7
          have xb85 := xb79.below hb7 xb79.lt
          have oP186 := oP180.below hb7
          have xp87 := xp81.below hb7 xp81.lt
          have xn88 := xn82.below hb7 xn82.lt
          clear hB77 oR178 xb79 oP180 xp81 xn82
          clear xb_0 xb_1 xb_2 xb_3 xb_l xb_f xp_0 xp_1 xp_2 xp_3 xp_l xp_f xn_0 xn_1 xn_2 xn_3 xn_l xn_f ne_xb_xn_ ne_xn_xb_ ne_xp_xn_ ne_xn_xp_
          obtain ⟨xb_0, xb_1, xb_2, xb_3, xb_l, xb_f⟩ := (⟨xb85.cell 0, xb85.cell 1, xb85.cell 2, xb85.cell 3, xb85.lt, xb85.frozen⟩ : _ ∧ _ ∧ _ ∧ _ ∧ _ ∧ _)
          obtain ⟨xp_0, xp_1, xp_2, xp_3, xp_l, xp_f⟩ := (⟨xp87.cell 0, xp87.cell 1, xp87.cell 2, xp87.cell 3, xp87.lt, xp87.frozen⟩ : _ ∧ _ ∧ _ ∧ _ ∧ _ ∧ _)
          obtain ⟨xn_0, xn_1, xn_2, xn_3, xn_l, xn_f⟩ := (⟨xn88.cell 0, xn88.cell 1, xn88.cell 2, xn88.cell 3, xn88.lt, xn88.frozen⟩ : _ ∧ _ ∧ _ ∧ _ ∧ _ ∧ _)
          have ne_xb_xn_ : ¬ w3.heap.size = g8 := by omega
          have ne_xn_xb_ : ¬ g8 = w3.heap.size := by omega
          have ne_xp_xn_ : ¬ w6.heap.size = g8 := by omega
          have ne_xn_xp_ : ¬ g8 = w6.heap.size := by omega
          go_wp2
          go_ret
          exact ⟨by first | rfl | (simp; done) | (simp; omega), HB2.out.trans (hB83.mono HB2.out.size)⟩
        | true =>
          obtain ⟨k1, k2⟩ := HRL.out.2 rfl
          have hyb : (V == Y) = true := by simp [k1]
          have K1 := hid k1
          subst k2
          clear k1
          have oN89 : OwnM wc w2.heap.size Aa ca R := OwnM.mono po8 (by omega)
          obtain ⟨xb_0, xb_1, xb_2, xb_3, xb_l, xb_f⟩ := (⟨xb79.cell 0, xb79.cell 1, xb79.cell 2, xb79.cell 3, xb79.lt, xb79.frozen⟩ : _ ∧ _ ∧ _ ∧ _ ∧ _ ∧ _)
          obtain ⟨xp_0, xp_1, xp_2, xp_3, xp_l, xp_f⟩ := (⟨xp81.cell 0, xp81.cell 1, xp81.cell 2, xp81.cell 3, xp81.lt, xp81.frozen⟩ : _ ∧ _ ∧ _ ∧ _ ∧ _ ∧ _)
          obtain ⟨xn_0, xn_1, xn_2, xn_3, xn_l, xn_f⟩ := (⟨xn82.cell 0, xn82.cell 1, xn82.cell 2, xn82.cell 3, xn82.lt, xn82.frozen⟩ : _ ∧ _ ∧ _ ∧ _ ∧ _ ∧ _)
          have ne_xb_xn_ : ¬ w3.heap.size = g8 := by omega
          have ne_xn_xb_ : ¬ g8 = w3.heap.size := by omega
          have ne_xp_xn_ : ¬ w6.heap.size = g8 := by omega
          have ne_xn_xp_ : ¬ g8 = w6.heap.size := by omega
          go_wp2_with fail
          with_reducible refine (equalNest_same A3 Aa c3 ca R _ oR178.sees oN89.sees HRl.out).mono ?_
          rintro e w7 ⟨rfl, hb7⟩
          have sz7 : wc.heap.size ≤ w7.heap.size := Nat.le_trans (by first | exact Nat.le_refl _ | (simp; done) | (simp; omega)) (hb7.size)
          have hB90 := hB77.trans (hb7.mono hB77.size)
          have oR191 := oR178.below hb7
          have xb92 := xb79.below hb7 xb79.lt
          have oP193 := oP180.below hb7
          have xp94 := xp81.below hb7 xp81.lt
          have xn95 := xn82.below hb7 xn82.lt
          have oN96 := oN89.below hb7
          clear hB77 oR178 xb79 oP180 xp81 xn82 oN89
          clear xb_0 xb_1 xb_2 xb_3 xb_l xb_f xp_0 xp_1 xp_2 xp_3 xp_l xp_f xn_0 xn_1 xn_2 xn_3 xn_l xn_f ne_xb_xn_ ne_xn_xb_ ne_xp_xn_ ne_xn_xp_
          obtain ⟨xb_0, xb_1, xb_2, xb_3, xb_l, xb_f⟩ := (⟨xb92.cell 0, xb92.cell 1, xb92.cell 2, xb92.cell 3, xb92.lt, xb92.frozen⟩ : _ ∧ _ ∧ _ ∧ _ ∧ _ ∧ _)
          obtain ⟨xp_0, xp_1, xp_2, xp_3, xp_l, xp_f⟩ := (⟨xp94.cell 0, xp94.cell 1, xp94.cell 2, xp94.cell 3, xp94.lt, xp94.frozen⟩ : _ ∧ _ ∧ _ ∧ _ ∧ _ ∧ _)
          obtain ⟨xn_0, xn_1, xn_2, xn_3, xn_l, xn_f⟩ := (⟨xn95.cell 0, xn95.cell 1, xn95.cell 2, xn95.cell 3, xn95.lt, xn95.frozen⟩ : _ ∧ _ ∧ _ ∧ _ ∧ _ ∧ _)
          have ne_xb_xn_ : ¬ w3.heap.size = g8 := by omega
          have ne_xn_xb_ : ¬ g8 = w3.heap.size := by omega
          have ne_xp_xn_ : ¬ w6.heap.size = g8 := by omega
          have ne_xn_xp_ : ¬ g8 = w6.heap.size := by omega
          go_wp2_with fail
          with_reducible refine (iValidNest_any R A3 c3 _ oR191.sees oR191.cap HRl.out).mono ?_
          rintro e w8 ⟨he, hb8⟩
          rw [HRV.out] at he
          subst he
          have sz8 : w7.heap.size ≤ w8.heap.size := Nat.le_trans (by first | exact Nat.le_refl _ | (simp; done) | (simp; omega)) (hb8.size)
          have hB97 := hB90.trans (hb8.mono hB90.size)
          have oR198 := oR191.below hb8
          have xb99 := xb92.below hb8 xb92.lt
          have oP1100 := oP193.below hb8
          have xp101 := xp94.below hb8 xp94.lt
          have xn102 := xn95.below hb8 xn95.lt
          have oN103 := oN96.below hb8
          clear hB90 oR191 xb92 oP193 xp94 xn95 oN96
          clear xb_0 xb_1 xb_2 xb_3 xb_l xb_f xp_0 xp_1 xp_2 xp_3 xp_l xp_f xn_0 xn_1 xn_2 xn_3 xn_l xn_f ne_xb_xn_ ne_xn_xb_ ne_xp_xn_ ne_xn_xp_
          obtain ⟨xb_0, xb_1, xb_2, xb_3, xb_l, xb_f⟩ := (⟨xb99.cell 0, xb99.cell 1, xb99.cell 2, xb99.cell 3, xb99.lt, xb99.frozen⟩ : _ ∧ _ ∧ _ ∧ _ ∧ _ ∧ _)
          obtain ⟨xp_0, xp_1, xp_2, xp_3, xp_l, xp_f⟩ := (⟨xp101.cell 0, xp101.cell 1, xp101.cell 2, xp101.cell 3, xp101.lt, xp101.frozen⟩ : _ ∧ _ ∧ _ ∧ _ ∧ _ ∧ _)
          obtain ⟨xn_0, xn_1, xn_2, xn_3, xn_l, xn_f⟩ := (⟨xn102.cell 0, xn102.cell 1, xn102.cell 2, xn102.cell 3, xn102.lt, xn102.frozen⟩ : _ ∧ _ ∧ _ ∧ _ ∧ _ ∧ _)
          have ne_xb_xn_ : ¬ w3.heap.size = g8 := by omega
          have ne_xn_xb_ : ¬ g8 = w3.heap.size := by omega
          have ne_xp_xn_ : ¬ w6.heap.size = g8 := by omega
          have ne_xn_xp_ : ¬ g8 = w6.heap.size := by omega
          go_wp2
          go_ret
          exact ⟨by first | rfl | (simp; done) | (simp; omega), HB2.out.trans (hB97.mono HB2.out.size)⟩
end Go.Proofs.Ythmpeahlddfpnab

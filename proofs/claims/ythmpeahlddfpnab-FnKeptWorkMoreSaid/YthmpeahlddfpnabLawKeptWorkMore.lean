/-
  The walk of the law FnKeptWorkMore: at every code it returns true and changes nothing that was there. Conditions: none.
-/
import Derived.Test.YthmpeahlddfpnabLawNsB
import Derived.Test.YthmpeahlddfpnabLawFrame
import Derived.BigQuiet

namespace Go.Proofs.Ythmpeahlddfpnab
open Go.RowKit Nes

set_option maxHeartbeats 8000000 in
theorem walkKeptWorkMore (a : Option Addr) (len cap : Nat) (zs : List Int) (w : World) (hn : zs.length = len) (hc : len ≤ cap) (hcc : cap ≤ maxLen) (h : Sees w w.heap.size a (byts zs)) (hz : ∀ y ∈ zs, 0 ≤ y ∧ y ≤ 255) :
    Calls Try.prog 7 #[.slice a len cap] w fun e w' => e = .returned (.bool true) ∧ Below w.heap.size w w' := by
  have HE := hid hn
  have HC := hid hcc
  have HZ := hid hz
  clear hn hcc hz
  by_cases hbig : 1048576 < len
  · go_enter Try.func7, Try.ntmps7
    go_wp2
    go_ret
    exact ⟨rfl, Below.refl _ _⟩
  · go_enter Try.func7, Try.ntmps7
    go_wp2_with fail
    refine (drawKeptWork_any _ _ _ _ _ h HZ.out HE.out hc (by omega) HC.out).mono ?_
    rintro e w2 ⟨B, d, l, rfl, dl⟩
    have hs := dl.sees
    have HB2 := hid dl.bel
    have h18 := dl.n18
    have hB0 := Below.refl w2.heap.size w2
    obtain ⟨V, hV⟩ : ∃ V, V = keptV l := ⟨_, rfl⟩
    have EV : Hid (keptV l = V) := hid hV.symm
    have HV := hid hV
    clear hV
    have HF := hid (fun (h : ¬ V < 0) => keptV_few (l := l) (by rw [← HV.out]; exact h))
    by_cases hv : V < 0
    · skip
      go_wp2_with fail
      with_reducible refine (iKeptWork_any B d l _ (hs.on4 hB0) dl.n4).mono ?_
      rintro e w3 ⟨he, hb3⟩
      rw [EV.out] at he
      subst he
      have sz3 : w2.heap.size ≤ w3.heap.size := Nat.le_trans (by first | exact Nat.le_refl _ | (simp; done) | (simp; omega)) (hb3.size)
      have hB1 := hB0.trans (hb3.mono hB0.size)
      clear hB0
      go_wp2_with fail
      with_reducible refine (sKeptWork_any B d l _ (hs.on4 hB1) dl.n4).mono ?_
      rintro e w4 ⟨he, hb4⟩
      rw [EV.out] at he
      subst he
      have sz4 : w3.heap.size ≤ w4.heap.size := Nat.le_trans (by first | exact Nat.le_refl _ | (simp; done) | (simp; omega)) (hb4.size)
      have hB2 := hB1.trans (hb4.mono hB1.size)
      clear hB1
      go_wp2_with fail
      with_reducible refine (sKeptWork_any B d l _ (hs.on4 hB2) dl.n4).mono ?_
      rintro e w5 ⟨he, hb5⟩
      rw [EV.out] at he
      subst he
      have sz5 : w4.heap.size ≤ w5.heap.size := Nat.le_trans (by first | exact Nat.le_refl _ | (simp; done) | (simp; omega)) (hb5.size)
      have hB3 := hB2.trans (hb5.mono hB2.size)
      clear hB2
      go_wp2
      go_ret
      exact ⟨by first | rfl | (simp; done) | (simp; omega), HB2.out.trans (hB3.mono HB2.out.size)⟩
    by_cases hl0 : l.length = 0
    · skip
      have hl0b : ((l.length : Int) == 0) = true := by simp [hl0]
      have HL0 := hid hl0
      clear hl0
      go_wp2_with fail
      with_reducible refine (iKeptWork_any B d l _ (hs.on4 hB0) dl.n4).mono ?_
      rintro e w3 ⟨he, hb3⟩
      rw [EV.out] at he
      subst he
      have sz3 : w2.heap.size ≤ w3.heap.size := Nat.le_trans (by first | exact Nat.le_refl _ | (simp; done) | (simp; omega)) (hb3.size)
      have hB4 := hB0.trans (hb3.mono hB0.size)
      clear hB0
      go_wp2_with fail
      with_reducible refine (sKeptWork_any B d l _ (hs.on4 hB4) dl.n4).mono ?_
      rintro e w4 ⟨he, hb4⟩
      rw [EV.out] at he
      subst he
      have sz4 : w3.heap.size ≤ w4.heap.size := Nat.le_trans (by first | exact Nat.le_refl _ | (simp; done) | (simp; omega)) (hb4.size)
      have hB5 := hB4.trans (hb4.mono hB4.size)
      clear hB4
      go_wp2_with fail
      with_reducible refine (sKeptWork_any B d l _ (hs.on4 hB5) dl.n4).mono ?_
      rintro e w5 ⟨he, hb5⟩
      rw [EV.out] at he
      subst he
      have sz5 : w4.heap.size ≤ w5.heap.size := Nat.le_trans (by first | exact Nat.le_refl _ | (simp; done) | (simp; omega)) (hb5.size)
      have hB6 := hB5.trans (hb5.mono hB5.size)
      clear hB5
      go_wp2
      go_ret
      exact ⟨by first | rfl | (simp; done) | (simp; omega), HB2.out.trans (hB6.mono HB2.out.size)⟩
    · skip
      have hl16 := HF.out (by omega)
      have hl0b : ((l.length : Int) == 0) = false := beq_eq_false_iff_ne.2 (by omega)
      obtain ⟨n, hn9⟩ : ∃ n, l.length = n + 1 := ⟨l.length - 1, by omega⟩
      have hnl : n < l.length := by omega
      have hcap := dl.cap
      have hkl := kept_law hl16 hn9 hnl
      rw [← HV.out] at hkl
      obtain ⟨U, hU⟩ : ∃ U, U = keptV (l.take n) := ⟨_, rfl⟩
      have EU : Hid (keptV (l.take n) = U) := hid hU.symm
      obtain ⟨P, hP⟩ : ∃ P, P = runS (l.take n) := ⟨_, rfl⟩
      have EP : Hid (runS (l.take n) = P) := hid hP.symm
      have HPl := hid (show P.m.length ≤ 4194304 by rw [hP]; exact Nat.le_trans (runS_len _) (by decide))
      have hUr := keptV_range (l.take n)
      have hPw := (runS_ok (l.take n)).2.1
      rw [← hU] at hUr hkl
      rw [← hP] at hPw hkl
      obtain ⟨Y, hY⟩ : ∃ Y, Y = runV (l.take n) := ⟨_, rfl⟩
      have EY : Hid (runV (l.take n) = Y) := hid hY.symm
      have hw1 : IntKind.i64.wrap ((l.length : Int) - 1) = (n : Int) := by rw [IntKind.wrap_i64]; omega
      have m1 : (0 : Int) ≤ (n : Int) := by omega
      have m2 : (n : Int) ≤ (l.length : Int) := by omega
      have m3 : (n : Int) ≤ (d : Int) := by omega
      have m4 : (l.length : Int) ≤ (d : Int) := by omega
      have m5 : (n : Int) < (l.length : Int) := by omega
      have HT := hid (show (l.take n).length = n by rw [List.length_take]; omega)
      have HTn := hid (show (l.take n).length ≤ 4194304 by rw [HT.out]; omega)
      have HTS := hid (fun (w1 : World) (hs : Sees w1 w1.heap.size B (ints l)) => (show Sees w1 w1.heap.size B (ints (l.take n)) by rw [take_ints]; exact hs.take n))
      have HNL := hid hnl
      obtain ⟨b, o, rfl, hbl, hcl⟩ := dl.sees.int hnl
      obtain ⟨x, hx⟩ : ∃ x, x = l[n]'hnl := ⟨_, rfl⟩
      rw [← hx] at hcl hkl
      have HX := hid hx.symm
      clear hx hU hP hY hn9
      have hw2 : IntKind.i64.wrap (U + P.w) = U + P.w := by rw [IntKind.wrap_i64]; omega
      have HKL := hid hkl
      clear hkl
      go_wp2_with fail
      with_reducible refine (iKeptWork_any (some ⟨b, o, none⟩) d l _ (hs.on4 hB0) dl.n4).mono ?_
      rintro e w3 ⟨he, hb3⟩
      rw [EV.out] at he
      subst he
      have sz3 : w2.heap.size ≤ w3.heap.size := Nat.le_trans (by first | exact Nat.le_refl _ | (simp; done) | (simp; omega)) (hb3.size)
      have hB7 := hB0.trans (hb3.mono hB0.size)
      clear hB0
      go_wp2_with fail
      with_reducible refine (sKeptWork_any (some ⟨b, o, none⟩) d l _ (hs.on4 hB7) dl.n4).mono ?_
      rintro e w4 ⟨he, hb4⟩
      rw [EV.out] at he
      subst he
      have sz4 : w3.heap.size ≤ w4.heap.size := Nat.le_trans (by first | exact Nat.le_refl _ | (simp; done) | (simp; omega)) (hb4.size)
      have hB8 := hB7.trans (hb4.mono hB7.size)
      clear hB7
      go_wp2_with fail
      with_reducible refine (iKeptWork_len HT.out (HTS.out _ (hs.on4 hB8)) HTn.out).mono ?_
      rintro e w5 ⟨he, hb5⟩
      rw [EU.out] at he
      subst he
      have sz5 : w4.heap.size ≤ w5.heap.size := Nat.le_trans (by first | exact Nat.le_refl _ | (simp; done) | (simp; omega)) (hb5.size)
      have hB9 := hB8.trans (hb5.mono hB8.size)
      clear hB8
      go_wp2_with fail
      refine (iRunNest_len HT.out (HTS.out _ (hs.on4 hB9)) HTn.out).mono ?_
      rintro e w6 ⟨A6, c6, he, ho6, hb6⟩
      rw [EP.out, EY.out] at he
      rw [EP.out] at ho6
      subst he
      have sz6 : w5.heap.size ≤ w6.heap.size := Nat.le_trans (by first | exact Nat.le_refl _ | (simp; done) | (simp; omega)) (hb6.size)
      have hB10 := hB9.trans (hb6.mono hB9.size)
      clear hB9
      have oP111 : OwnM w6 w2.heap.size A6 c6 P := OwnM.mono ho6 (by first | omega | (simp; omega) | (simp; done))
      clear ho6
      have hB12 := hB10.alloc hB10.size (.cells #[.int .i64 P.d, .int .i64 P.w, .slice A6 P.m.length c6, .bool P.b] 25)
      have oP113 := oP111.alloc (.cells #[.int .i64 P.d, .int .i64 P.w, .slice A6 P.m.length c6, .bool P.b] 25)
      clear hB10 oP111
      have xp14 : At (w6.alloc (.cells #[.int .i64 P.d, .int .i64 P.w, .slice A6 P.m.length c6, .bool P.b] 25)) (w6.heap.size) 25 #[.int .i64 P.d, .int .i64 P.w, .slice A6 P.m.length c6, .bool P.b] := At.newAt _ _ (by first | rfl | (simp; done) | (simp; omega))
      have hcx := Sees.cellAt (hs.on4 hB12) HNL.out
      rw [HX.out] at hcx
      by_cases huv : U = V
      · skip
        have hub : (U == V) = true := by simp [huv]
        have HUV := hid huv
        clear huv
        obtain ⟨xp_0, xp_1, xp_2, xp_3, xp_l, xp_f⟩ := (⟨xp14.cell 0, xp14.cell 1, xp14.cell 2, xp14.cell 3, xp14.lt, xp14.frozen⟩ : _ ∧ _ ∧ _ ∧ _ ∧ _ ∧ _)
        go_wp2
        go_ret
        exact ⟨by first | rfl | (simp; done) | (simp; omega), HB2.out.trans (hB12.mono HB2.out.size)⟩
      · skip
        have hub : (U == V) = false := beq_eq_false_iff_ne.2 huv
        obtain ⟨k1, k2⟩ := HKL.out.resolve_left huv
        have hvb : (V == U + P.w) = true := by simp [k1]
        have hx3 : (x == 3) = true := by simp [k2]
        have K1 := hid k1
        have K2 := hid k2
        clear k1 k2 huv
        obtain ⟨xp_0, xp_1, xp_2, xp_3, xp_l, xp_f⟩ := (⟨xp14.cell 0, xp14.cell 1, xp14.cell 2, xp14.cell 3, xp14.lt, xp14.frozen⟩ : _ ∧ _ ∧ _ ∧ _ ∧ _ ∧ _)
        go_wp2
        go_ret
        exact ⟨by first | rfl | (simp; done) | (simp; omega), HB2.out.trans (hB12.mono HB2.out.size)⟩
end Go.Proofs.Ythmpeahlddfpnab

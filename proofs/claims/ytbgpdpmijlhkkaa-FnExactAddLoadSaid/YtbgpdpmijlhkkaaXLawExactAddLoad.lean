/-
  The walk of the exact law FnExactAddLoad: at every argument it returns true and changes nothing that was there. Conditions: none.
-/
import Derived.Test.YtbgpdpmijlhkkaaXGen
import Derived.Test.YtbgpdpmijlhkkaaHoE
import Derived.Test.YtbgpdpmijlhkkaaSsHost
namespace Go.Proofs.Ytbgpdpmijlhkkaa
open Go.RowKit Hos

set_option maxHeartbeats 4000000 in
theorem walkExactAddLoad (A : Option Addr) (c : Nat) (l : List Hst) (q d : Int) (w : World) (hm : l.length ≤ maxLen) (hc : l.length ≤ c) (h : Sees w w.heap.size A (strip hcl l)) :
    Calls Try.prog 6 #[.slice A l.length c, .int .i64 q, .int .i64 d] w fun e w' => e = .returned (.bool true) ∧ Below w.heap.size w w' := by
  have HM := hid hm
  have HC := hid hc
  clear hm hc
  by_cases hbig : 1048576 < l.length
  · have E : Hid ((if 1048576 < l.length then (-1 : Int) else 1048576 - l.length) = -1) := hid (if_pos hbig)
    go_enter Try.func6, Try.ntmps6
    go_wp2_with fail
    refine (szHostS_any A l.length c _ HM.out).mono ?_
    rintro e w1 ⟨he, rfl⟩
    rw [E.out] at he
    subst he
    go_wp2
    go_ret
    exact ⟨rfl, Below.refl _ _⟩
  · have E : Hid ((if 1048576 < l.length then (-1 : Int) else 1048576 - l.length) = 1048576 - l.length) := hid (if_neg hbig)
    have HN := hid (show l.length ≤ 1048576 by omega)
    have HN4 := hid (show l.length ≤ 4194304 by omega)
    have hle : ¬ (1048576 : Int) - (l.length : Int) < 0 := by omega
    have hB0 := Below.refl w.heap.size w
    have H0 := h
    skip
    go_enter Try.func6, Try.ntmps6
    go_wp2_with fail
    refine (szHostS_any A l.length c _ HM.out).mono ?_
    rintro e w' ⟨he, rfl⟩
    rw [E.out] at he
    subst he
    obtain ⟨V, hV⟩ : ∃ y, y = loadL l q d := ⟨_, rfl⟩
    have HV : Hid (loadL l q d = V) := hid hV.symm
    have HVn : Hid (V.length ≤ 4194304) := hid (by rw [hV]; have := loadL_len l q d; have := HN.out; omega)
    clear hV
    obtain ⟨K, hK⟩ : ∃ y, y = loadB l q d := ⟨_, rfl⟩
    have HK : Hid (loadB l q d = K) := hid hK.symm
    clear hK
    go_wp2_with fail
    refine (toHostS_any A c l _ H0 HN4.out).mono ?_
    rintro e w1 ⟨v1, rfl, ho1, hb1⟩
    have hB1 := hB0.trans (hb1.mono hB0.size)
    have Z1 := hid hb1.size
    have H1 := (h.below hB1).more hB1.size
    clear hb1  hB0 H0
    obtain ⟨A1, c1, rfl, hc1, _, s1⟩ := ho1.form
    have CX := hid hc1
    have RX : Hid (∀ k, (Value.slice A1 l.length c1).ownBlock = some k → w.heap.size ≤ k ∧ k < w1.heap.size) := hid ho1.lt
    clear hc1 s1
    have X1 := ho1
    clear ho1
    go_wp2_with fail
    refine (sAddLoad_any A1 c1 l q d  _ X1.sees HN4.out).mono ?_
    rintro e w2 ⟨v2, he, ho2, hb2⟩
    rw [HK.out] at he
    subst he
    rw [HV.out] at ho2
    have hB2 := hB1.trans (hb2.mono hB1.size)
    have Z2 := hid hb2.size
    have X2 := X1.below hb2
    have H2 := (h.below hB2).more hB2.size
    clear hb2 X1 hB1 H1
    obtain ⟨A2, c2, rfl, hc2, _, s2⟩ := ho2.form
    have CW := hid hc2
    have RW : Hid (∀ k, (Value.slice A2 V.length c2).ownBlock = some k → w1.heap.size ≤ k ∧ k < w2.heap.size) := hid ho2.lt
    clear hc2 s2
    have W2 := ho2
    clear ho2
    clear X2 RX CX
    go_wp2_with fail
    refine (toHostS_any A c l _ H2 HN4.out).mono ?_
    rintro e w3 ⟨v3, rfl, ho3, hb3⟩
    have hB3 := hB2.trans (hb3.mono hB2.size)
    have Z3 := hid hb3.size
    have W3 := W2.below hb3
    have H3 := (h.below hB3).more hB3.size
    clear hb3 W2 hB2 H2
    obtain ⟨A3, c3, rfl, hc3, _, s3⟩ := ho3.form
    have CX := hid hc3
    have RX : Hid (∀ k, (Value.slice A3 l.length c3).ownBlock = some k → w2.heap.size ≤ k ∧ k < w3.heap.size) := hid ho3.lt
    clear hc3 s3
    have X3 := ho3
    clear ho3
    go_wp2_with fail
    refine (iAddLoad_any A3 c3 l q d  _ X3.sees HN4.out).mono ?_
    rintro e w4 ⟨v4, he, ho4, hb4⟩
    rw [HK.out] at he
    subst he
    rw [HV.out] at ho4
    have hB4 := hB3.trans (hb4.mono hB3.size)
    have Z4 := hid hb4.size
    have W4 := W3.below hb4
    have X4 := X3.below hb4
    have H4 := (h.below hB4).more hB4.size
    clear hb4 W3 X3 hB3 H3
    obtain ⟨A4, c4, rfl, hc4, _, s4⟩ := ho4.form
    have CG := hid hc4
    have RG : Hid (∀ k, (Value.slice A4 V.length c4).ownBlock = some k → w3.heap.size ≤ k ∧ k < w4.heap.size) := hid ho4.lt
    clear hc4 s4
    have G4 := ho4
    clear ho4
    go_wp2_with fail
    refine (eqHostS_same A4 A2 c4 c2 V _ G4.sees W4.sees HVn.out).mono ?_
    rintro e w5 ⟨rfl, hb5⟩
    have hB5 := hB4.trans (hb5.mono hB4.size)
    have Z5 := hid hb5.size
    have W5 := W4.below hb5
    have X5 := X4.below hb5
    have G5 := G4.below hb5
    have H5 := (h.below hB5).more hB5.size
    clear hb5 W4 X4 G4 hB4 H4
    go_wp2_with fail
    refine (toHostS_any A c l _ H5 HN4.out).mono ?_
    rintro e w6 ⟨v6, rfl, ho6, hb6⟩
    have hB6 := hB5.trans (hb6.mono hB5.size)
    have Z6 := hid hb6.size
    have W6 := W5.below hb6
    have X6 := X5.below hb6
    have G6 := G5.below hb6
    have H6 := (h.below hB6).more hB6.size
    clear hb6 W5 X5 G5 hB5 H5
    obtain ⟨A6, c6, rfl, hc6, _, s6⟩ := ho6.form
    have CY := hid hc6
    have RY : Hid (∀ k, (Value.slice A6 l.length c6).ownBlock = some k → w5.heap.size ≤ k ∧ k < w6.heap.size) := hid ho6.lt
    clear hc6 s6
    have Y6 := ho6
    clear ho6
    go_wp2_with fail
    refine (eqHostS_same A3 A6 c3 c6 l _ X6.sees Y6.sees HN4.out).mono ?_
    rintro e w7 ⟨rfl, hb7⟩
    have hB7 := hB6.trans (hb7.mono hB6.size)
    have Z7 := hid hb7.size
    have W7 := W6.below hb7
    have X7 := X6.below hb7
    have G7 := G6.below hb7
    have Y7 := Y6.below hb7
    have H7 := (h.below hB7).more hB7.size
    clear hb7 W6 X6 G6 Y6 hB6 H6
    clear Y7 RY CY
    have hk1 : ¬ (1 : Int) + 3 * (l.length : Int) < 0 := by omega
    have hk2 : ¬ (1 : Int) + 3 * (V.length : Int) < 0 := by omega
    go_wp2_with fail
    refine (markHostS_any _ A3 c3 l _ X7 HN4.out).mono ?_
    rintro e w8 ⟨rfl, ho8, hg8⟩
    have hB8 := hB7.grown hg8 hB7.size (fun k hk => Nat.le_trans (by have := Z1.out; have := Z2.out; omega) (RX.out k hk).1)
    have Z8 := hid hg8.size
    have H8 := (h.below hB8).more hB8.size
    have W8 := W7.kept hg8 (apart2 RW.out RX.out (Or.inl (by omega)))
    have G8 := G7.kept hg8 (apart2 RG.out RX.out (Or.inr (by omega)))
    have X8 := ho8
    clear hg8 ho8 W7 X7 G7 hB7 H7
    clear X8 RX CX
    go_wp2_with fail
    refine (eqHostS_same A4 A2 c4 c2 V _ G8.sees W8.sees HVn.out).mono ?_
    rintro e w9 ⟨rfl, hb9⟩
    have hB9 := hB8.trans (hb9.mono hB8.size)
    have Z9 := hid hb9.size
    have W9 := W8.below hb9
    have G9 := G8.below hb9
    have H9 := (h.below hB9).more hB9.size
    clear hb9 W8 G8 hB8 H8
    go_wp2_with fail
    refine (markHostS_any _ A4 c4 V _ G9 HVn.out).mono ?_
    rintro e w10 ⟨rfl, ho10, hg10⟩
    have hB10 := hB9.grown hg10 hB9.size (fun k hk => Nat.le_trans (by have := Z1.out; have := Z2.out; have := Z3.out; omega) (RG.out k hk).1)
    have Z10 := hid hg10.size
    have H10 := (h.below hB10).more hB10.size
    have W10 := W9.kept hg10 (apart2 RW.out RG.out (Or.inl (by have := Z3.out; omega)))
    have G10 := ho10
    clear hg10 ho10 W9 G9 hB9 H9
    go_wp2_with fail
    refine (heldHostS_any A4 V.length c4 _ (show Sees _ _ A4 (strip hcl (Hst.marks V.length)) from G10.sees) HVn.out).mono ?_
    rintro e w11 ⟨rfl, rfl⟩
    go_wp2_with fail
    refine (toHostS_any A c l _ H10 HN4.out).mono ?_
    rintro e w11 ⟨v11, rfl, ho11, hb11⟩
    have hB11 := hB10.trans (hb11.mono hB10.size)
    have Z11 := hid hb11.size
    have W11 := W10.below hb11
    have G11 := G10.below hb11
    have H11 := (h.below hB11).more hB11.size
    clear hb11 W10 G10 hB10 H10
    obtain ⟨A11, c11, rfl, hc11, _, s11⟩ := ho11.form
    have CY := hid hc11
    have RY : Hid (∀ k, (Value.slice A11 l.length c11).ownBlock = some k → w10.heap.size ≤ k ∧ k < w11.heap.size) := hid ho11.lt
    clear hc11 s11
    have Y11 := ho11
    clear ho11
    go_wp2_with fail
    refine (iAddLoad_any A11 c11 l q d  _ Y11.sees HN4.out).mono ?_
    rintro e w12 ⟨v12, he, ho12, hb12⟩
    rw [HK.out] at he
    subst he
    rw [HV.out] at ho12
    have hB12 := hB11.trans (hb12.mono hB11.size)
    have Z12 := hid hb12.size
    have W12 := W11.below hb12
    have G12 := G11.below hb12
    have Y12 := Y11.below hb12
    have H12 := (h.below hB12).more hB12.size
    clear hb12 W11 G11 Y11 hB11 H11
    obtain ⟨A12, c12, rfl, hc12, _, s12⟩ := ho12.form
    have CQ := hid hc12
    have RQ : Hid (∀ k, (Value.slice A12 V.length c12).ownBlock = some k → w11.heap.size ≤ k ∧ k < w12.heap.size) := hid ho12.lt
    clear hc12 s12
    have Q12 := ho12
    clear ho12
    clear Y12 RY CY
    go_wp2_with fail
    refine (eqHostS_same A12 A2 c12 c2 V _ Q12.sees W12.sees HVn.out).mono ?_
    rintro e w13 ⟨rfl, hb13⟩
    have hB13 := hB12.trans (hb13.mono hB12.size)
    have Z13 := hid hb13.size
    have W13 := W12.below hb13
    have G13 := G12.below hb13
    have Q13 := Q12.below hb13
    have H13 := (h.below hB13).more hB13.size
    clear hb13 W12 G12 Q12 hB12 H12
    clear Q13 RQ CQ
    go_wp2_with fail
    refine (heldHostS_any A4 V.length c4 _ (show Sees _ _ A4 (strip hcl (Hst.marks V.length)) from G13.sees) HVn.out).mono ?_
    rintro e w14 ⟨rfl, rfl⟩
    go_wp2
    go_ret
    exact ⟨rfl, hB13⟩
end Go.Proofs.Ytbgpdpmijlhkkaa

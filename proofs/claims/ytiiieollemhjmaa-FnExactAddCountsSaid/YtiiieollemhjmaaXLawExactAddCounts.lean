/-
  The walk of the exact law FnExactAddCounts: at every argument it returns true and changes nothing that was there. Conditions: none.
-/
import Derived.Test.YtiiieollemhjmaaXGen
import Derived.Test.YtiiieollemhjmaaExZ
import Derived.Test.YtiiieollemhjmaaWaC
namespace Go.Proofs.Ytiiieollemhjmaa
open Go.RowKit Wt

set_option maxHeartbeats 4000000 in
theorem walkExactAddCounts (A_a : Option Addr) (c_a : Nat) (a : List Int) (A_b : Option Addr) (c_b : Nat) (b : List Int) (w : World) (_hm_a : a.length ≤ maxLen) (hc_a : a.length ≤ c_a) (h_a : Sees w w.heap.size A_a (ints a)) (_hm_b : b.length ≤ maxLen) (hc_b : b.length ≤ c_b) (h_b : Sees w w.heap.size A_b (ints b)) :
    Calls Try.prog 7 #[.slice A_a a.length c_a, .slice A_b b.length c_b] w fun e w' => e = .returned (.bool true) ∧ Below w.heap.size w w' := by
  have HC_a := hid hc_a
  clear hc_a
  have HC_b := hid hc_b
  clear hc_b
  have hB0 := Below.refl w.heap.size w
  by_cases hbig_a : 1048576 < a.length
  · go_enter Try.func7, Try.ntmps7
    go_wp2
    go_ret
    exact ⟨rfl, hB0⟩
  · skip
    by_cases hbig_b : 1048576 < b.length
    · go_enter Try.func7, Try.ntmps7
      go_wp2
      go_ret
      exact ⟨rfl, hB0⟩
    · skip
      have HN_a := hid (show a.length ≤ 1048576 by omega)
      have HF_a := hid (show a.length ≤ 4194304 by omega)
      have HN_b := hid (show b.length ≤ 1048576 by omega)
      have HF_b := hid (show b.length ≤ 4194304 by omega)
      obtain ⟨V, hV⟩ : ∃ y, y = addL a b := ⟨_, rfl⟩
      have HV : Hid (addL a b = V) := hid hV.symm
      have HVn : Hid (V.length ≤ 4194304) := hid (by rw [hV]; exact Nat.le_trans (addL_len a b) (by decide))
      clear hV
      have H0_a := (h_a.below hB0).more hB0.size
      have H0_b := (h_b.below hB0).more hB0.size
      obtain ⟨K, hK⟩ : ∃ y, y = addB a b := ⟨_, rfl⟩
      have HK : Hid (addB a b = K) := hid hK.symm
      clear hK
      go_enter Try.func7, Try.ntmps7
      go_wp2_with fail
      refine (toIntS_any A_a c_a a _ H0_a HF_a.out).mono ?_
      rintro e w1 ⟨v1, rfl, ho1, hb1⟩
      have hB1 := hB0.trans (hb1.mono hB0.size)
      have Z1 := hid hb1.size
      have H1_a := (h_a.below hB1).more hB1.size
      have H1_b := (h_b.below hB1).more hB1.size
      clear hb1  hB0 H0_a H0_b
      obtain ⟨A1, c1, rfl, hc1, _, s1⟩ := ho1.form4
      have CTa := hid hc1
      have RTa : Hid (∀ k, (Value.slice A1 a.length c1).ownBlock = some k → w.heap.size ≤ k ∧ k < w1.heap.size) := hid ho1.lt4
      clear hc1 s1
      have Ta1 := ho1
      clear ho1
      go_wp2_with fail
      refine (toIntS_any A_b c_b b _ H1_b HF_b.out).mono ?_
      rintro e w2 ⟨v2, rfl, ho2, hb2⟩
      have hB2 := hB1.trans (hb2.mono hB1.size)
      have Z2 := hid hb2.size
      have Ta2 := Ta1.below hb2
      have H2_a := (h_a.below hB2).more hB2.size
      have H2_b := (h_b.below hB2).more hB2.size
      clear hb2 Ta1 hB1 H1_a H1_b
      obtain ⟨A2, c2, rfl, hc2, _, s2⟩ := ho2.form4
      have CTb := hid hc2
      have RTb : Hid (∀ k, (Value.slice A2 b.length c2).ownBlock = some k → w1.heap.size ≤ k ∧ k < w2.heap.size) := hid ho2.lt4
      clear hc2 s2
      have Tb2 := ho2
      clear ho2
      go_wp2_with fail
      refine (sAddCounts_any a b A1 A2 c1 c2 _ Ta2.sees4 Tb2.sees4 HF_a.out HF_b.out).mono ?_
      rintro e w3 ⟨A3, c3, he, ho3, hb3⟩
      rw [HV.out, HK.out] at he
      rw [HV.out] at ho3
      subst he
      have hB3 := hB2.trans (hb3.mono hB2.size)
      have Z3 := hid hb3.size
      have Ta3 := Ta2.below hb3
      have Tb3 := Tb2.below hb3
      have H3_a := (h_a.below hB3).more hB3.size
      have H3_b := (h_b.below hB3).more hB3.size
      clear hb3 Ta2 Tb2 hB2 H2_a H2_b
      have CW := hid (Nat.le_refl 0)
      have RW : Hid (∀ k, (Value.slice A3 V.length c3).ownBlock = some k → w2.heap.size ≤ k ∧ k < w3.heap.size) := hid ho3.lt4
      have W3 := ho3
      clear ho3
      clear Ta3 RTa CTa
      clear Tb3 RTb CTb
      go_wp2_with fail
      refine (toIntS_any A_a c_a a _ H3_a HF_a.out).mono ?_
      rintro e w4 ⟨v4, rfl, ho4, hb4⟩
      have hB4 := hB3.trans (hb4.mono hB3.size)
      have Z4 := hid hb4.size
      have W4 := W3.below hb4
      have H4_a := (h_a.below hB4).more hB4.size
      have H4_b := (h_b.below hB4).more hB4.size
      clear hb4 W3 hB3 H3_a H3_b
      obtain ⟨A4, c4, rfl, hc4, _, s4⟩ := ho4.form4
      have CXa := hid hc4
      have RXa : Hid (∀ k, (Value.slice A4 a.length c4).ownBlock = some k → w3.heap.size ≤ k ∧ k < w4.heap.size) := hid ho4.lt4
      clear hc4 s4
      have Xa4 := ho4
      clear ho4
      go_wp2_with fail
      refine (toIntS_any A_b c_b b _ H4_b HF_b.out).mono ?_
      rintro e w5 ⟨v5, rfl, ho5, hb5⟩
      have hB5 := hB4.trans (hb5.mono hB4.size)
      have Z5 := hid hb5.size
      have W5 := W4.below hb5
      have Xa5 := Xa4.below hb5
      have H5_a := (h_a.below hB5).more hB5.size
      have H5_b := (h_b.below hB5).more hB5.size
      clear hb5 W4 Xa4 hB4 H4_a H4_b
      obtain ⟨A5, c5, rfl, hc5, _, s5⟩ := ho5.form4
      have CXb := hid hc5
      have RXb : Hid (∀ k, (Value.slice A5 b.length c5).ownBlock = some k → w4.heap.size ≤ k ∧ k < w5.heap.size) := hid ho5.lt4
      clear hc5 s5
      have Xb5 := ho5
      clear ho5
      go_wp2_with fail
      refine (iAddCounts_any a b A4 A5 c4 c5 _ Xa5.sees4 Xb5.sees4 HF_a.out HF_b.out).mono ?_
      rintro e w6 ⟨A6, c6, he, ho6, hb6⟩
      rw [HV.out, HK.out] at he
      rw [HV.out] at ho6
      subst he
      have hB6 := hB5.trans (hb6.mono hB5.size)
      have Z6 := hid hb6.size
      have W6 := W5.below hb6
      have Xa6 := Xa5.below hb6
      have Xb6 := Xb5.below hb6
      have H6_a := (h_a.below hB6).more hB6.size
      have H6_b := (h_b.below hB6).more hB6.size
      clear hb6 W5 Xa5 Xb5 hB5 H5_a H5_b
      have CG := hid (Nat.le_refl 0)
      have RG : Hid (∀ k, (Value.slice A6 V.length c6).ownBlock = some k → w5.heap.size ≤ k ∧ k < w6.heap.size) := hid ho6.lt4
      have G6 := ho6
      clear ho6
      go_wp2_with fail
      refine (eqIntS_same A6 A3 c6 c3 V _ G6.sees4 W6.sees4 HVn.out).mono ?_
      rintro e w7 ⟨rfl, hb7⟩
      have hB7 := hB6.trans (hb7.mono hB6.size)
      have Z7 := hid hb7.size
      have W7 := W6.below hb7
      have Xa7 := Xa6.below hb7
      have Xb7 := Xb6.below hb7
      have G7 := G6.below hb7
      have H7_a := (h_a.below hB7).more hB7.size
      have H7_b := (h_b.below hB7).more hB7.size
      clear hb7 W6 Xa6 Xb6 G6 hB6 H6_a H6_b
      go_wp2_with fail
      refine (toIntS_any A_a c_a a _ H7_a HF_a.out).mono ?_
      rintro e w8 ⟨v8, rfl, ho8, hb8⟩
      have hB8 := hB7.trans (hb8.mono hB7.size)
      have Z8 := hid hb8.size
      have W8 := W7.below hb8
      have Xa8 := Xa7.below hb8
      have Xb8 := Xb7.below hb8
      have G8 := G7.below hb8
      have H8_a := (h_a.below hB8).more hB8.size
      have H8_b := (h_b.below hB8).more hB8.size
      clear hb8 W7 Xa7 Xb7 G7 hB7 H7_a H7_b
      obtain ⟨A8, c8, rfl, hc8, _, s8⟩ := ho8.form4
      have CY := hid hc8
      have RY : Hid (∀ k, (Value.slice A8 a.length c8).ownBlock = some k → w7.heap.size ≤ k ∧ k < w8.heap.size) := hid ho8.lt4
      clear hc8 s8
      have Y8 := ho8
      clear ho8
      go_wp2_with fail
      refine (eqIntS_same A4 A8 c4 c8 a _ Xa8.sees4 Y8.sees4 HF_a.out).mono ?_
      rintro e w9 ⟨rfl, hb9⟩
      have hB9 := hB8.trans (hb9.mono hB8.size)
      have Z9 := hid hb9.size
      have W9 := W8.below hb9
      have Xa9 := Xa8.below hb9
      have Xb9 := Xb8.below hb9
      have G9 := G8.below hb9
      have Y9 := Y8.below hb9
      have H9_a := (h_a.below hB9).more hB9.size
      have H9_b := (h_b.below hB9).more hB9.size
      clear hb9 W8 Xa8 Xb8 G8 Y8 hB8 H8_a H8_b
      clear Y9 RY CY
      go_wp2_with fail
      refine (toIntS_any A_b c_b b _ H9_b HF_b.out).mono ?_
      rintro e w10 ⟨v10, rfl, ho10, hb10⟩
      have hB10 := hB9.trans (hb10.mono hB9.size)
      have Z10 := hid hb10.size
      have W10 := W9.below hb10
      have Xa10 := Xa9.below hb10
      have Xb10 := Xb9.below hb10
      have G10 := G9.below hb10
      have H10_a := (h_a.below hB10).more hB10.size
      have H10_b := (h_b.below hB10).more hB10.size
      clear hb10 W9 Xa9 Xb9 G9 hB9 H9_a H9_b
      obtain ⟨A10, c10, rfl, hc10, _, s10⟩ := ho10.form4
      have CY := hid hc10
      have RY : Hid (∀ k, (Value.slice A10 b.length c10).ownBlock = some k → w9.heap.size ≤ k ∧ k < w10.heap.size) := hid ho10.lt4
      clear hc10 s10
      have Y10 := ho10
      clear ho10
      go_wp2_with fail
      refine (eqIntS_same A5 A10 c5 c10 b _ Xb10.sees4 Y10.sees4 HF_b.out).mono ?_
      rintro e w11 ⟨rfl, hb11⟩
      have hB11 := hB10.trans (hb11.mono hB10.size)
      have Z11 := hid hb11.size
      have W11 := W10.below hb11
      have Xa11 := Xa10.below hb11
      have Xb11 := Xb10.below hb11
      have G11 := G10.below hb11
      have Y11 := Y10.below hb11
      have H11_a := (h_a.below hB11).more hB11.size
      have H11_b := (h_b.below hB11).more hB11.size
      clear hb11 W10 Xa10 Xb10 G10 Y10 hB10 H10_a H10_b
      clear Y11 RY CY
      go_wp2_with fail
      refine (markIntS_z (1) _ A4 c4 a _ Xa11 HF_a.out (by omega) (by have := HN_a.out; have := HN_b.out; omega)).mono ?_
      rintro e w12 ⟨rfl, hg12⟩
      have hB12 := hB11.grown hg12 hB11.size (fun k hk => Nat.le_trans (by have := Z1.out; have := Z2.out; have := Z3.out; (try simp only [World.size_alloc] at *); omega) (RXa.out k hk).1)
      have Z12 := hid hg12.size
      have H12_a := (h_a.below hB12).more hB12.size
      have H12_b := (h_b.below hB12).more hB12.size
      have W12 := W11.kept4 hg12 (apart2 RW.out RXa.out (Or.inl (by omega)))
      have Xb12 := Xb11.kept4 hg12 (apart2 RXb.out RXa.out (Or.inr (by omega)))
      have G12 := G11.kept4 hg12 (apart2 RG.out RXa.out (Or.inr (by have := Z5.out; omega)))
      clear hg12  W11 Xa11 Xb11 G11 hB11 H11_a H11_b
      clear RXa CXa
      go_wp2_with fail
      refine (markIntS_z (1 + (a.length : Int)) _ A5 c5 b _ Xb12 HF_b.out (by omega) (by have := HN_a.out; have := HN_b.out; omega)).mono ?_
      rintro e w13 ⟨rfl, hg13⟩
      have hB13 := hB12.grown hg13 hB12.size (fun k hk => Nat.le_trans (by have := Z1.out; have := Z2.out; have := Z3.out; have := Z4.out; (try simp only [World.size_alloc] at *); omega) (RXb.out k hk).1)
      have Z13 := hid hg13.size
      have H13_a := (h_a.below hB13).more hB13.size
      have H13_b := (h_b.below hB13).more hB13.size
      have W13 := W12.kept4 hg13 (apart2 RW.out RXb.out (Or.inl (by have := Z4.out; omega)))
      have G13 := G12.kept4 hg13 (apart2 RG.out RXb.out (Or.inr (by omega)))
      clear hg13  W12 Xb12 G12 hB12 H12_a H12_b
      clear RXb CXb
      have hk1 : ¬ 1 + (a.length : Int) + (b.length : Int) < 0 := by omega
      have hk2 : ¬ (1 : Int) + (V.length : Int) < 0 := by omega
      go_wp2_with fail
      refine (eqIntS_same A6 A3 c6 c3 V _ G13.sees4 W13.sees4 HVn.out).mono ?_
      rintro e w14 ⟨rfl, hb14⟩
      have hB14 := hB13.trans (hb14.mono hB13.size)
      have Z14 := hid hb14.size
      have W14 := W13.below hb14
      have G14 := G13.below hb14
      have H14_a := (h_a.below hB14).more hB14.size
      have H14_b := (h_b.below hB14).more hB14.size
      clear hb14 W13 G13 hB13 H13_a H13_b
      go_wp2_with fail
      refine (markIntS_any _ A6 c6 V _ G14 HVn.out).mono ?_
      rintro e w15 ⟨rfl, ho15, hg15⟩
      have hB15 := hB14.grown hg15 hB14.size (fun k hk => Nat.le_trans (by have := Z1.out; have := Z2.out; have := Z3.out; have := Z4.out; have := Z5.out; (try simp only [World.size_alloc] at *); omega) (RG.out k hk).1)
      have Z15 := hid hg15.size
      have H15_a := (h_a.below hB15).more hB15.size
      have H15_b := (h_b.below hB15).more hB15.size
      have W15 := W14.kept4 hg15 (apart2 RW.out RG.out (Or.inl (by have := Z4.out; have := Z5.out; omega)))
      have G15 := ho15
      clear hg15 ho15 W14 G14 hB14 H14_a H14_b
      go_wp2_with fail
      refine (heldIntS_any A6 V.length c6 _ (sees_marks G15) HVn.out).mono ?_
      rintro e w16 ⟨rfl, rfl⟩
      go_wp2_with fail
      refine (toIntS_any A_a c_a a _ H15_a HF_a.out).mono ?_
      rintro e w16 ⟨v16, rfl, ho16, hb16⟩
      have hB16 := hB15.trans (hb16.mono hB15.size)
      have Z16 := hid hb16.size
      have W16 := W15.below hb16
      have G16 := G15.below hb16
      have H16_a := (h_a.below hB16).more hB16.size
      have H16_b := (h_b.below hB16).more hB16.size
      clear hb16 W15 G15 hB15 H15_a H15_b
      obtain ⟨A16, c16, rfl, hc16, _, s16⟩ := ho16.form4
      have CYa := hid hc16
      have RYa : Hid (∀ k, (Value.slice A16 a.length c16).ownBlock = some k → w15.heap.size ≤ k ∧ k < w16.heap.size) := hid ho16.lt4
      clear hc16 s16
      have Ya16 := ho16
      clear ho16
      go_wp2_with fail
      refine (toIntS_any A_b c_b b _ H16_b HF_b.out).mono ?_
      rintro e w17 ⟨v17, rfl, ho17, hb17⟩
      have hB17 := hB16.trans (hb17.mono hB16.size)
      have Z17 := hid hb17.size
      have W17 := W16.below hb17
      have G17 := G16.below hb17
      have Ya17 := Ya16.below hb17
      have H17_a := (h_a.below hB17).more hB17.size
      have H17_b := (h_b.below hB17).more hB17.size
      clear hb17 W16 G16 Ya16 hB16 H16_a H16_b
      obtain ⟨A17, c17, rfl, hc17, _, s17⟩ := ho17.form4
      have CYb := hid hc17
      have RYb : Hid (∀ k, (Value.slice A17 b.length c17).ownBlock = some k → w16.heap.size ≤ k ∧ k < w17.heap.size) := hid ho17.lt4
      clear hc17 s17
      have Yb17 := ho17
      clear ho17
      go_wp2_with fail
      refine (iAddCounts_any a b A16 A17 c16 c17 _ Ya17.sees4 Yb17.sees4 HF_a.out HF_b.out).mono ?_
      rintro e w18 ⟨A18, c18, he, ho18, hb18⟩
      rw [HV.out, HK.out] at he
      rw [HV.out] at ho18
      subst he
      have hB18 := hB17.trans (hb18.mono hB17.size)
      have Z18 := hid hb18.size
      have W18 := W17.below hb18
      have G18 := G17.below hb18
      have Ya18 := Ya17.below hb18
      have Yb18 := Yb17.below hb18
      have H18_a := (h_a.below hB18).more hB18.size
      have H18_b := (h_b.below hB18).more hB18.size
      clear hb18 W17 G17 Ya17 Yb17 hB17 H17_a H17_b
      have CQ := hid (Nat.le_refl 0)
      have RQ : Hid (∀ k, (Value.slice A18 V.length c18).ownBlock = some k → w17.heap.size ≤ k ∧ k < w18.heap.size) := hid ho18.lt4
      have Q18 := ho18
      clear ho18
      clear Ya18 RYa CYa
      clear Yb18 RYb CYb
      go_wp2_with fail
      refine (eqIntS_same A18 A3 c18 c3 V _ Q18.sees4 W18.sees4 HVn.out).mono ?_
      rintro e w19 ⟨rfl, hb19⟩
      have hB19 := hB18.trans (hb19.mono hB18.size)
      have Z19 := hid hb19.size
      have W19 := W18.below hb19
      have G19 := G18.below hb19
      have Q19 := Q18.below hb19
      have H19_a := (h_a.below hB19).more hB19.size
      have H19_b := (h_b.below hB19).more hB19.size
      clear hb19 W18 G18 Q18 hB18 H18_a H18_b
      clear Q19 RQ CQ
      go_wp2_with fail
      refine (heldIntS_any A6 V.length c6 _ (sees_marks G19) HVn.out).mono ?_
      rintro e w20 ⟨rfl, rfl⟩
      go_wp2
      go_ret
      exact ⟨rfl, hB19⟩
end Go.Proofs.Ytiiieollemhjmaa

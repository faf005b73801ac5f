/-
  The walk of the exact law FnExactRouteReads: at every argument it returns true and changes nothing that was there. Conditions: none.
-/
import Derived.Test.YtbgpdpmijlhkkaaXGen
import Derived.Test.YtbgpdpmijlhkkaaExZ
import Derived.Test.YtbgpdpmijlhkkaaSsHost
import Derived.Test.YtbgpdpmijlhkkaaHoF
namespace Go.Proofs.Ytbgpdpmijlhkkaa
open Go.RowKit Hos

set_option maxHeartbeats 4000000 in
theorem walkExactRouteReads (A_l : Option Addr) (c_l : Nat) (l : List Hst) (A_gs : Option Addr) (c_gs : Nat) (gs : List Int) (w : World) (_hm_l : l.length ≤ maxLen) (hc_l : l.length ≤ c_l) (h_l : Sees w w.heap.size A_l (strip hcl l)) (_hm_gs : gs.length ≤ maxLen) (hc_gs : gs.length ≤ c_gs) (h_gs : Sees w w.heap.size A_gs (ints gs)) :
    Calls Try.prog 7 #[.slice A_l l.length c_l, .slice A_gs gs.length c_gs] w fun e w' => e = .returned (.bool true) ∧ Below w.heap.size w w' := by
  have HC_l := hid hc_l
  clear hc_l
  have HC_gs := hid hc_gs
  clear hc_gs
  have hB0 := Below.refl w.heap.size w
  by_cases hbig_gs : 1048576 < gs.length
  · go_enter Try.func7, Try.ntmps7
    go_wp2
    go_ret
    exact ⟨rfl, hB0⟩
  · skip
    by_cases hbig_l : 1048576 < l.length
    · have E0 : Hid ((if 1048576 < l.length then (-1 : Int) else 1048576 - l.length) = -1) := hid (if_pos hbig_l)
      go_enter Try.func7, Try.ntmps7
      go_wp2_with fail
      refine (szHostS_any A_l l.length c_l _ _hm_l).mono ?_
      rintro e w' ⟨he, rfl⟩
      rw [E0.out] at he
      subst he
      go_wp2
      go_ret
      exact ⟨rfl, hB0⟩
    · skip
      have E0 : Hid ((if 1048576 < l.length then (-1 : Int) else 1048576 - l.length) = 1048576 - l.length) := hid (if_neg hbig_l)
      have hle_l : ¬ (1048576 : Int) - (l.length : Int) < 0 := by omega
      have HN_l := hid (show l.length ≤ 1048576 by omega)
      have HF_l := hid (show l.length ≤ 4194304 by omega)
      have HN_gs := hid (show gs.length ≤ 1048576 by omega)
      have HF_gs := hid (show gs.length ≤ 4194304 by omega)
      obtain ⟨V, hV⟩ : ∃ y, y = readsL l gs := ⟨_, rfl⟩
      have HV : Hid (readsL l gs = V) := hid hV.symm
      have HVn : Hid (V.length ≤ 4194304) := hid (by rw [hV]; have := readsL_len l gs; have := HN_gs.out; omega)
      clear hV
      have H0_l := (h_l.below hB0).more hB0.size
      have H0_gs := (h_gs.below hB0).more hB0.size
      go_enter Try.func7, Try.ntmps7
      go_wp2_with fail
      refine (szHostS_any A_l l.length c_l _ _hm_l).mono ?_
      rintro e w' ⟨he, rfl⟩
      rw [E0.out] at he
      subst he
      go_wp2_with fail
      refine (toHostS_any A_l c_l l _ H0_l HF_l.out).mono ?_
      rintro e w1 ⟨v1, rfl, ho1, hb1⟩
      have hB1 := hB0.trans (hb1.mono hB0.size)
      have Z1 := hid hb1.size
      have H1_l := (h_l.below hB1).more hB1.size
      have H1_gs := (h_gs.below hB1).more hB1.size
      clear hb1  hB0 H0_l H0_gs
      obtain ⟨A1, c1, rfl, hc1, _, s1⟩ := ho1.form
      have CTl := hid hc1
      have RTl : Hid (∀ k, (Value.slice A1 l.length c1).ownBlock = some k → w.heap.size ≤ k ∧ k < w1.heap.size) := hid ho1.lt
      clear hc1 s1
      have Tl1 := ho1
      clear ho1
      go_wp2_with fail
      refine (toIntS_any A_gs c_gs gs _ H1_gs HF_gs.out).mono ?_
      rintro e w2 ⟨v2, rfl, ho2, hb2⟩
      have hB2 := hB1.trans (hb2.mono hB1.size)
      have Z2 := hid hb2.size
      have Tl2 := Tl1.below hb2
      have H2_l := (h_l.below hB2).more hB2.size
      have H2_gs := (h_gs.below hB2).more hB2.size
      clear hb2 Tl1 hB1 H1_l H1_gs
      obtain ⟨A2, c2, rfl, hc2, _, s2⟩ := ho2.form4
      have CTgs := hid hc2
      have RTgs : Hid (∀ k, (Value.slice A2 gs.length c2).ownBlock = some k → w1.heap.size ≤ k ∧ k < w2.heap.size) := hid ho2.lt4
      clear hc2 s2
      have Tgs2 := ho2
      clear ho2
      go_wp2_with fail
      refine (sRouteReads_any A1 A2 c1 c2 l gs _ Tl2.sees Tgs2.sees4 HF_l.out HF_gs.out).mono ?_
      rintro e w3 ⟨v3, rfl, ho3, hb3⟩
      rw [HV.out] at ho3
      have hB3 := hB2.trans (hb3.mono hB2.size)
      have Z3 := hid hb3.size
      have Tl3 := Tl2.below hb3
      have Tgs3 := Tgs2.below hb3
      have H3_l := (h_l.below hB3).more hB3.size
      have H3_gs := (h_gs.below hB3).more hB3.size
      clear hb3 Tl2 Tgs2 hB2 H2_l H2_gs
      obtain ⟨A3, c3, rfl, hc3, _, s3⟩ := ho3.form4
      have CW := hid hc3
      have RW : Hid (∀ k, (Value.slice A3 V.length c3).ownBlock = some k → w2.heap.size ≤ k ∧ k < w3.heap.size) := hid ho3.lt4
      clear hc3 s3
      have W3 := ho3
      clear ho3
      clear Tl3 RTl CTl
      clear Tgs3 RTgs CTgs
      go_wp2_with fail
      refine (toHostS_any A_l c_l l _ H3_l HF_l.out).mono ?_
      rintro e w4 ⟨v4, rfl, ho4, hb4⟩
      have hB4 := hB3.trans (hb4.mono hB3.size)
      have Z4 := hid hb4.size
      have W4 := W3.below hb4
      have H4_l := (h_l.below hB4).more hB4.size
      have H4_gs := (h_gs.below hB4).more hB4.size
      clear hb4 W3 hB3 H3_l H3_gs
      obtain ⟨A4, c4, rfl, hc4, _, s4⟩ := ho4.form
      have CXl := hid hc4
      have RXl : Hid (∀ k, (Value.slice A4 l.length c4).ownBlock = some k → w3.heap.size ≤ k ∧ k < w4.heap.size) := hid ho4.lt
      clear hc4 s4
      have Xl4 := ho4
      clear ho4
      go_wp2_with fail
      refine (toIntS_any A_gs c_gs gs _ H4_gs HF_gs.out).mono ?_
      rintro e w5 ⟨v5, rfl, ho5, hb5⟩
      have hB5 := hB4.trans (hb5.mono hB4.size)
      have Z5 := hid hb5.size
      have W5 := W4.below hb5
      have Xl5 := Xl4.below hb5
      have H5_l := (h_l.below hB5).more hB5.size
      have H5_gs := (h_gs.below hB5).more hB5.size
      clear hb5 W4 Xl4 hB4 H4_l H4_gs
      obtain ⟨A5, c5, rfl, hc5, _, s5⟩ := ho5.form4
      have CXgs := hid hc5
      have RXgs : Hid (∀ k, (Value.slice A5 gs.length c5).ownBlock = some k → w4.heap.size ≤ k ∧ k < w5.heap.size) := hid ho5.lt4
      clear hc5 s5
      have Xgs5 := ho5
      clear ho5
      go_wp2_with fail
      refine (iRouteReads_any A4 A5 c4 c5 l gs _ Xl5.sees Xgs5.sees4 HF_l.out HF_gs.out).mono ?_
      rintro e w6 ⟨v6, rfl, ho6, hb6⟩
      rw [HV.out] at ho6
      have hB6 := hB5.trans (hb6.mono hB5.size)
      have Z6 := hid hb6.size
      have W6 := W5.below hb6
      have Xl6 := Xl5.below hb6
      have Xgs6 := Xgs5.below hb6
      have H6_l := (h_l.below hB6).more hB6.size
      have H6_gs := (h_gs.below hB6).more hB6.size
      clear hb6 W5 Xl5 Xgs5 hB5 H5_l H5_gs
      obtain ⟨A6, c6, rfl, hc6, _, s6⟩ := ho6.form4
      have CG := hid hc6
      have RG : Hid (∀ k, (Value.slice A6 V.length c6).ownBlock = some k → w5.heap.size ≤ k ∧ k < w6.heap.size) := hid ho6.lt4
      clear hc6 s6
      have G6 := ho6
      clear ho6
      go_wp2_with fail
      refine (eqIntS_same A6 A3 c6 c3 V _ G6.sees4 W6.sees4 HVn.out).mono ?_
      rintro e w7 ⟨rfl, hb7⟩
      have hB7 := hB6.trans (hb7.mono hB6.size)
      have Z7 := hid hb7.size
      have W7 := W6.below hb7
      have Xl7 := Xl6.below hb7
      have Xgs7 := Xgs6.below hb7
      have G7 := G6.below hb7
      have H7_l := (h_l.below hB7).more hB7.size
      have H7_gs := (h_gs.below hB7).more hB7.size
      clear hb7 W6 Xl6 Xgs6 G6 hB6 H6_l H6_gs
      go_wp2_with fail
      refine (toHostS_any A_l c_l l _ H7_l HF_l.out).mono ?_
      rintro e w8 ⟨v8, rfl, ho8, hb8⟩
      have hB8 := hB7.trans (hb8.mono hB7.size)
      have Z8 := hid hb8.size
      have W8 := W7.below hb8
      have Xl8 := Xl7.below hb8
      have Xgs8 := Xgs7.below hb8
      have G8 := G7.below hb8
      have H8_l := (h_l.below hB8).more hB8.size
      have H8_gs := (h_gs.below hB8).more hB8.size
      clear hb8 W7 Xl7 Xgs7 G7 hB7 H7_l H7_gs
      obtain ⟨A8, c8, rfl, hc8, _, s8⟩ := ho8.form
      have CY := hid hc8
      have RY : Hid (∀ k, (Value.slice A8 l.length c8).ownBlock = some k → w7.heap.size ≤ k ∧ k < w8.heap.size) := hid ho8.lt
      clear hc8 s8
      have Y8 := ho8
      clear ho8
      go_wp2_with fail
      refine (eqHostS_same A4 A8 c4 c8 l _ Xl8.sees Y8.sees HF_l.out).mono ?_
      rintro e w9 ⟨rfl, hb9⟩
      have hB9 := hB8.trans (hb9.mono hB8.size)
      have Z9 := hid hb9.size
      have W9 := W8.below hb9
      have Xl9 := Xl8.below hb9
      have Xgs9 := Xgs8.below hb9
      have G9 := G8.below hb9
      have Y9 := Y8.below hb9
      have H9_l := (h_l.below hB9).more hB9.size
      have H9_gs := (h_gs.below hB9).more hB9.size
      clear hb9 W8 Xl8 Xgs8 G8 Y8 hB8 H8_l H8_gs
      clear Y9 RY CY
      go_wp2_with fail
      refine (toIntS_any A_gs c_gs gs _ H9_gs HF_gs.out).mono ?_
      rintro e w10 ⟨v10, rfl, ho10, hb10⟩
      have hB10 := hB9.trans (hb10.mono hB9.size)
      have Z10 := hid hb10.size
      have W10 := W9.below hb10
      have Xl10 := Xl9.below hb10
      have Xgs10 := Xgs9.below hb10
      have G10 := G9.below hb10
      have H10_l := (h_l.below hB10).more hB10.size
      have H10_gs := (h_gs.below hB10).more hB10.size
      clear hb10 W9 Xl9 Xgs9 G9 hB9 H9_l H9_gs
      obtain ⟨A10, c10, rfl, hc10, _, s10⟩ := ho10.form4
      have CY := hid hc10
      have RY : Hid (∀ k, (Value.slice A10 gs.length c10).ownBlock = some k → w9.heap.size ≤ k ∧ k < w10.heap.size) := hid ho10.lt4
      clear hc10 s10
      have Y10 := ho10
      clear ho10
      go_wp2_with fail
      refine (eqIntS_same A5 A10 c5 c10 gs _ Xgs10.sees4 Y10.sees4 HF_gs.out).mono ?_
      rintro e w11 ⟨rfl, hb11⟩
      have hB11 := hB10.trans (hb11.mono hB10.size)
      have Z11 := hid hb11.size
      have W11 := W10.below hb11
      have Xl11 := Xl10.below hb11
      have Xgs11 := Xgs10.below hb11
      have G11 := G10.below hb11
      have Y11 := Y10.below hb11
      have H11_l := (h_l.below hB11).more hB11.size
      have H11_gs := (h_gs.below hB11).more hB11.size
      clear hb11 W10 Xl10 Xgs10 G10 Y10 hB10 H10_l H10_gs
      clear Y11 RY CY
      go_wp2_with fail
      refine (markHostS_any _ A4 c4 l _ Xl11 HF_l.out).mono ?_
      rintro e w12 ⟨rfl, _, hg12⟩
      have hB12 := hB11.grown hg12 hB11.size (fun k hk => Nat.le_trans (by have := Z1.out; have := Z2.out; have := Z3.out; (try simp only [World.size_alloc] at *); omega) (RXl.out k hk).1)
      have Z12 := hid hg12.size
      have H12_l := (h_l.below hB12).more hB12.size
      have H12_gs := (h_gs.below hB12).more hB12.size
      have W12 := W11.kept4 hg12 (apart2 RW.out RXl.out (Or.inl (by omega)))
      have Xgs12 := Xgs11.kept4 hg12 (apart2 RXgs.out RXl.out (Or.inr (by omega)))
      have G12 := G11.kept4 hg12 (apart2 RG.out RXl.out (Or.inr (by have := Z5.out; omega)))
      clear hg12  W11 Xl11 Xgs11 G11 hB11 H11_l H11_gs
      clear RXl CXl
      go_wp2_with fail
      refine (markIntS_z (1 + 3 * (l.length : Int)) _ A5 c5 gs _ Xgs12 HF_gs.out (by omega) (by have := HN_l.out; have := HN_gs.out; omega)).mono ?_
      rintro e w13 ⟨rfl, hg13⟩
      have hB13 := hB12.grown hg13 hB12.size (fun k hk => Nat.le_trans (by have := Z1.out; have := Z2.out; have := Z3.out; have := Z4.out; (try simp only [World.size_alloc] at *); omega) (RXgs.out k hk).1)
      have Z13 := hid hg13.size
      have H13_l := (h_l.below hB13).more hB13.size
      have H13_gs := (h_gs.below hB13).more hB13.size
      have W13 := W12.kept4 hg13 (apart2 RW.out RXgs.out (Or.inl (by have := Z4.out; omega)))
      have G13 := G12.kept4 hg13 (apart2 RG.out RXgs.out (Or.inr (by omega)))
      clear hg13  W12 Xgs12 G12 hB12 H12_l H12_gs
      clear RXgs CXgs
      have hk1 : ¬ 1 + 3 * (l.length : Int) + (gs.length : Int) < 0 := by omega
      have hk2 : ¬ (1 : Int) + (V.length : Int) < 0 := by omega
      go_wp2_with fail
      refine (eqIntS_same A6 A3 c6 c3 V _ G13.sees4 W13.sees4 HVn.out).mono ?_
      rintro e w14 ⟨rfl, hb14⟩
      have hB14 := hB13.trans (hb14.mono hB13.size)
      have Z14 := hid hb14.size
      have W14 := W13.below hb14
      have G14 := G13.below hb14
      have H14_l := (h_l.below hB14).more hB14.size
      have H14_gs := (h_gs.below hB14).more hB14.size
      clear hb14 W13 G13 hB13 H13_l H13_gs
      go_wp2_with fail
      refine (markIntS_any _ A6 c6 V _ G14 HVn.out).mono ?_
      rintro e w15 ⟨rfl, ho15, hg15⟩
      have hB15 := hB14.grown hg15 hB14.size (fun k hk => Nat.le_trans (by have := Z1.out; have := Z2.out; have := Z3.out; have := Z4.out; have := Z5.out; (try simp only [World.size_alloc] at *); omega) (RG.out k hk).1)
      have Z15 := hid hg15.size
      have H15_l := (h_l.below hB15).more hB15.size
      have H15_gs := (h_gs.below hB15).more hB15.size
      have W15 := W14.kept4 hg15 (apart2 RW.out RG.out (Or.inl (by have := Z4.out; have := Z5.out; omega)))
      have G15 := ho15
      clear hg15 ho15 W14 G14 hB14 H14_l H14_gs
      go_wp2_with fail
      refine (heldIntS_any A6 V.length c6 _ (sees_marks G15) HVn.out).mono ?_
      rintro e w16 ⟨rfl, rfl⟩
      go_wp2_with fail
      refine (toHostS_any A_l c_l l _ H15_l HF_l.out).mono ?_
      rintro e w16 ⟨v16, rfl, ho16, hb16⟩
      have hB16 := hB15.trans (hb16.mono hB15.size)
      have Z16 := hid hb16.size
      have W16 := W15.below hb16
      have G16 := G15.below hb16
      have H16_l := (h_l.below hB16).more hB16.size
      have H16_gs := (h_gs.below hB16).more hB16.size
      clear hb16 W15 G15 hB15 H15_l H15_gs
      obtain ⟨A16, c16, rfl, hc16, _, s16⟩ := ho16.form
      have CYl := hid hc16
      have RYl : Hid (∀ k, (Value.slice A16 l.length c16).ownBlock = some k → w15.heap.size ≤ k ∧ k < w16.heap.size) := hid ho16.lt
      clear hc16 s16
      have Yl16 := ho16
      clear ho16
      go_wp2_with fail
      refine (toIntS_any A_gs c_gs gs _ H16_gs HF_gs.out).mono ?_
      rintro e w17 ⟨v17, rfl, ho17, hb17⟩
      have hB17 := hB16.trans (hb17.mono hB16.size)
      have Z17 := hid hb17.size
      have W17 := W16.below hb17
      have G17 := G16.below hb17
      have Yl17 := Yl16.below hb17
      have H17_l := (h_l.below hB17).more hB17.size
      have H17_gs := (h_gs.below hB17).more hB17.size
      clear hb17 W16 G16 Yl16 hB16 H16_l H16_gs
      obtain ⟨A17, c17, rfl, hc17, _, s17⟩ := ho17.form4
      have CYgs := hid hc17
      have RYgs : Hid (∀ k, (Value.slice A17 gs.length c17).ownBlock = some k → w16.heap.size ≤ k ∧ k < w17.heap.size) := hid ho17.lt4
      clear hc17 s17
      have Ygs17 := ho17
      clear ho17
      go_wp2_with fail
      refine (iRouteReads_any A16 A17 c16 c17 l gs _ Yl17.sees Ygs17.sees4 HF_l.out HF_gs.out).mono ?_
      rintro e w18 ⟨v18, rfl, ho18, hb18⟩
      rw [HV.out] at ho18
      have hB18 := hB17.trans (hb18.mono hB17.size)
      have Z18 := hid hb18.size
      have W18 := W17.below hb18
      have G18 := G17.below hb18
      have Yl18 := Yl17.below hb18
      have Ygs18 := Ygs17.below hb18
      have H18_l := (h_l.below hB18).more hB18.size
      have H18_gs := (h_gs.below hB18).more hB18.size
      clear hb18 W17 G17 Yl17 Ygs17 hB17 H17_l H17_gs
      obtain ⟨A18, c18, rfl, hc18, _, s18⟩ := ho18.form4
      have CQ := hid hc18
      have RQ : Hid (∀ k, (Value.slice A18 V.length c18).ownBlock = some k → w17.heap.size ≤ k ∧ k < w18.heap.size) := hid ho18.lt4
      clear hc18 s18
      have Q18 := ho18
      clear ho18
      clear Yl18 RYl CYl
      clear Ygs18 RYgs CYgs
      go_wp2_with fail
      refine (eqIntS_same A18 A3 c18 c3 V _ Q18.sees4 W18.sees4 HVn.out).mono ?_
      rintro e w19 ⟨rfl, hb19⟩
      have hB19 := hB18.trans (hb19.mono hB18.size)
      have Z19 := hid hb19.size
      have W19 := W18.below hb19
      have G19 := G18.below hb19
      have Q19 := Q18.below hb19
      have H19_l := (h_l.below hB19).more hB19.size
      have H19_gs := (h_gs.below hB19).more hB19.size
      clear hb19 W18 G18 Q18 hB18 H18_l H18_gs
      clear Q19 RQ CQ
      go_wp2_with fail
      refine (heldIntS_any A6 V.length c6 _ (sees_marks G19) HVn.out).mono ?_
      rintro e w20 ⟨rfl, rfl⟩
      go_wp2
      go_ret
      exact ⟨rfl, hB19⟩
end Go.Proofs.Ytbgpdpmijlhkkaa

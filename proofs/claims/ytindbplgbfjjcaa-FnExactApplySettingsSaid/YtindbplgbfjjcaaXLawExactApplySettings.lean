/-
  The walk of the exact law FnExactApplySettings: at every argument it returns true and changes nothing that was there. Conditions: none.
-/
import Derived.Test.YtindbplgbfjjcaaXGen
import Derived.Test.YtindbplgbfjjcaaExZ
import Derived.Test.YtindbplgbfjjcaaStE
import Derived.Test.YtindbplgbfjjcaaStD
namespace Go.Proofs.Ytindbplgbfjjcaa
open Go.RowKit Stt

set_option maxHeartbeats 8000000 in
theorem walkExactApplySettings (A_l : Option Addr) (c_l : Nat) (l : List Stg) (A_cs : Option Addr) (c_cs : Nat) (cs : List Stg) (w : World) (_hm_l : l.length ≤ maxLen) (_hc_l : l.length ≤ c_l) (h_l : Sees w w.heap.size A_l (strip stcl l)) (_hm_cs : cs.length ≤ maxLen) (_hc_cs : cs.length ≤ c_cs) (h_cs : Sees w w.heap.size A_cs (strip stcl cs)) :
    Calls Try.prog 4 #[.slice A_l l.length c_l, .slice A_cs cs.length c_cs] w fun e w' => e = .returned (.bool true) ∧ Below w.heap.size w w' := by
  have hB0 := Below.refl w.heap.size w
  have hM_l := hid _hm_l
  have hM_cs := hid _hm_cs
  by_cases hbig_l : 1048576 < l.length
  · skip
    have E_l : Hid ((if 1048576 < l.length then (-1 : Int) else (((1048576 : Nat) : Nat) : Int) - l.length) = -1) := hid (if_pos hbig_l)
    go_enter Try.func4, Try.ntmps4
    go_wp2_with fail
    refine (szSettingS_g A_l l.length c_l 1048576 _ hM_l.out (by decide)).mono ?_
    rintro e w' ⟨he, rfl⟩
    rw [E_l.out] at he
    subst he
    go_wp2
    go_ret
    exact ⟨rfl, hB0⟩
  · skip
    obtain ⟨r1, hr1⟩ : ∃ r1 : Nat, r1 = 1048576 - l.length := ⟨_, rfl⟩
    have HR1 := hid hr1
    have E_l : Hid ((if 1048576 < l.length then (-1 : Int) else (((1048576 : Nat) : Nat) : Int) - l.length) = (r1 : Int)) := hid ((if_neg hbig_l).trans (by omega))
    have hle_l : ¬ (r1 : Int) < 0 := by omega
    have HN_l := hid (show l.length ≤ 1048576 by omega)
    have HF_l := hid (show l.length ≤ 4194304 by have := HN_l.out; omega)
    clear hr1 hbig_l
    by_cases hbig_cs : r1 < cs.length
    · skip
      have E_cs : Hid ((if r1 < cs.length then (-1 : Int) else ((r1 : Nat) : Int) - cs.length) = -1) := hid (if_pos hbig_cs)
      go_enter Try.func4, Try.ntmps4
      go_wp2_with fail
      refine (szSettingS_g A_l l.length c_l 1048576 _ hM_l.out (by decide)).mono ?_
      rintro e w' ⟨he, rfl⟩
      rw [E_l.out] at he
      subst he
      go_wp2_with fail
      refine (szSettingS_g A_cs cs.length c_cs r1 _ hM_cs.out (by have := HR1.out; omega)).mono ?_
      rintro e w' ⟨he, rfl⟩
      rw [E_cs.out] at he
      subst he
      go_wp2
      go_ret
      exact ⟨rfl, hB0⟩
    · skip
      obtain ⟨r2, hr2⟩ : ∃ r2 : Nat, r2 = r1 - cs.length := ⟨_, rfl⟩
      have HR2 := hid hr2
      have E_cs : Hid ((if r1 < cs.length then (-1 : Int) else ((r1 : Nat) : Int) - cs.length) = (r2 : Int)) := hid ((if_neg hbig_cs).trans (by omega))
      have hle_cs : ¬ (r2 : Int) < 0 := by omega
      have HN_cs := hid (show cs.length ≤ 1048576 by have := HR1.out; omega)
      have HF_cs := hid (show cs.length ≤ 4194304 by have := HN_cs.out; omega)
      clear hr2 hbig_cs
      obtain ⟨V, hV⟩ : ∃ y, y = applyL l cs := ⟨_, rfl⟩
      have HV : Hid (applyL l cs = V) := hid hV.symm
      have HVn : Hid (V.length ≤ 4194304) := hid (by rw [hV]; have := applyL_len l cs; omega)
      clear hV
      obtain ⟨VB, hVB⟩ : ∃ y, y = applyB l cs := ⟨_, rfl⟩
      have HVB : Hid (applyB l cs = VB) := hid hVB.symm
      clear hVB
      have H0_l := (h_l.below hB0).more hB0.size
      have H0_cs := (h_cs.below hB0).more hB0.size
      go_enter Try.func4, Try.ntmps4
      go_wp2_with fail
      refine (szSettingS_g A_l l.length c_l 1048576 _ hM_l.out (by decide)).mono ?_
      rintro e w' ⟨he, rfl⟩
      rw [E_l.out] at he
      subst he
      go_wp2_with fail
      refine (szSettingS_g A_cs cs.length c_cs r1 _ hM_cs.out (by have := HR1.out; omega)).mono ?_
      rintro e w' ⟨he, rfl⟩
      rw [E_cs.out] at he
      subst he
      go_wp2_with fail
      refine (toSettingS_any A_l c_l l _ H0_l HF_l.out).mono ?_
      rintro e w1 ⟨v1, rfl, ho1, hb1⟩
      have hB1 := hB0.trans (hb1.mono hB0.size)
      have Z1 := hid hb1.size
      have H1_l := (h_l.below hB1).more hB1.size
      have H1_cs := (h_cs.below hB1).more hB1.size
      clear hb1  hB0 H0_l H0_cs
      obtain ⟨A1, c1, rfl, hc1, _, s1⟩ := ho1.form
      have CTl := hid hc1
      have RTl : Hid (∀ k, (Value.slice A1 l.length c1).ownBlock = some k → w.heap.size ≤ k ∧ k < w1.heap.size) := hid ho1.lt
      clear hc1 s1
      have Tl1 := ho1
      clear ho1
      go_wp2_with fail
      refine (toSettingS_any A_cs c_cs cs _ H1_cs HF_cs.out).mono ?_
      rintro e w2 ⟨v2, rfl, ho2, hb2⟩
      have hB2 := hB1.trans (hb2.mono hB1.size)
      have Z2 := hid hb2.size
      have Tl2 := Tl1.below hb2
      have H2_l := (h_l.below hB2).more hB2.size
      have H2_cs := (h_cs.below hB2).more hB2.size
      clear hb2 Tl1 hB1 H1_l H1_cs
      obtain ⟨A2, c2, rfl, hc2, _, s2⟩ := ho2.form
      have CTcs := hid hc2
      have RTcs : Hid (∀ k, (Value.slice A2 cs.length c2).ownBlock = some k → w1.heap.size ≤ k ∧ k < w2.heap.size) := hid ho2.lt
      clear hc2 s2
      have Tcs2 := ho2
      clear ho2
      go_wp2_with fail
      refine (sApplySettings_any A1 A2 c1 c2 l cs _ Tl2.sees Tcs2.sees HF_l.out HF_cs.out).mono ?_
      rintro e w3 ⟨v3, he, ho3, hb3⟩
      rw [HVB.out] at he
      subst he
      rw [HV.out] at ho3
      have hB3 := hB2.trans (hb3.mono hB2.size)
      have Z3 := hid hb3.size
      have Tl3 := Tl2.below hb3
      have Tcs3 := Tcs2.below hb3
      have H3_l := (h_l.below hB3).more hB3.size
      have H3_cs := (h_cs.below hB3).more hB3.size
      clear hb3 Tl2 Tcs2 hB2 H2_l H2_cs
      obtain ⟨A3, c3, rfl, hc3, _, s3⟩ := ho3.form
      have CW := hid hc3
      have RW : Hid (∀ k, (Value.slice A3 V.length c3).ownBlock = some k → w2.heap.size ≤ k ∧ k < w3.heap.size) := hid ho3.lt
      clear hc3 s3
      have W3 := ho3
      clear ho3
      clear Tl3 RTl CTl
      clear Tcs3 RTcs CTcs
      go_wp2_with fail
      refine (toSettingS_any A_l c_l l _ H3_l HF_l.out).mono ?_
      rintro e w4 ⟨v4, rfl, ho4, hb4⟩
      have hB4 := hB3.trans (hb4.mono hB3.size)
      have Z4 := hid hb4.size
      have W4 := W3.below hb4
      have H4_l := (h_l.below hB4).more hB4.size
      have H4_cs := (h_cs.below hB4).more hB4.size
      clear hb4 W3 hB3 H3_l H3_cs
      obtain ⟨A4, c4, rfl, hc4, _, s4⟩ := ho4.form
      have CXl := hid hc4
      have RXl : Hid (∀ k, (Value.slice A4 l.length c4).ownBlock = some k → w3.heap.size ≤ k ∧ k < w4.heap.size) := hid ho4.lt
      clear hc4 s4
      have Xl4 := ho4
      clear ho4
      go_wp2_with fail
      refine (toSettingS_any A_cs c_cs cs _ H4_cs HF_cs.out).mono ?_
      rintro e w5 ⟨v5, rfl, ho5, hb5⟩
      have hB5 := hB4.trans (hb5.mono hB4.size)
      have Z5 := hid hb5.size
      have W5 := W4.below hb5
      have Xl5 := Xl4.below hb5
      have H5_l := (h_l.below hB5).more hB5.size
      have H5_cs := (h_cs.below hB5).more hB5.size
      clear hb5 W4 Xl4 hB4 H4_l H4_cs
      obtain ⟨A5, c5, rfl, hc5, _, s5⟩ := ho5.form
      have CXcs := hid hc5
      have RXcs : Hid (∀ k, (Value.slice A5 cs.length c5).ownBlock = some k → w4.heap.size ≤ k ∧ k < w5.heap.size) := hid ho5.lt
      clear hc5 s5
      have Xcs5 := ho5
      clear ho5
      go_wp2_with fail
      refine (iApplySettings_any A4 A5 c4 c5 l cs _ Xl5.sees Xcs5.sees HF_l.out HF_cs.out).mono ?_
      rintro e w6 ⟨v6, he, ho6, hb6⟩
      rw [HVB.out] at he
      subst he
      rw [HV.out] at ho6
      have hB6 := hB5.trans (hb6.mono hB5.size)
      have Z6 := hid hb6.size
      have W6 := W5.below hb6
      have Xl6 := Xl5.below hb6
      have Xcs6 := Xcs5.below hb6
      have H6_l := (h_l.below hB6).more hB6.size
      have H6_cs := (h_cs.below hB6).more hB6.size
      clear hb6 W5 Xl5 Xcs5 hB5 H5_l H5_cs
      obtain ⟨A6, c6, rfl, hc6, _, s6⟩ := ho6.form
      have CG := hid hc6
      have RG : Hid (∀ k, (Value.slice A6 V.length c6).ownBlock = some k → w5.heap.size ≤ k ∧ k < w6.heap.size) := hid ho6.lt
      clear hc6 s6
      have G6 := ho6
      clear ho6
      go_wp2_with fail
      refine (eqSettingS_same A6 A3 c6 c3 V _ G6.sees W6.sees HVn.out).mono ?_
      rintro e w7 ⟨rfl, hb7⟩
      have hB7 := hB6.trans (hb7.mono hB6.size)
      have Z7 := hid hb7.size
      have W7 := W6.below hb7
      have Xl7 := Xl6.below hb7
      have Xcs7 := Xcs6.below hb7
      have G7 := G6.below hb7
      have H7_l := (h_l.below hB7).more hB7.size
      have H7_cs := (h_cs.below hB7).more hB7.size
      clear hb7 W6 Xl6 Xcs6 G6 hB6 H6_l H6_cs
      go_wp2_with fail
      refine (toSettingS_any A_l c_l l _ H7_l HF_l.out).mono ?_
      rintro e w8 ⟨v8, rfl, ho8, hb8⟩
      have hB8 := hB7.trans (hb8.mono hB7.size)
      have Z8 := hid hb8.size
      have W8 := W7.below hb8
      have Xl8 := Xl7.below hb8
      have Xcs8 := Xcs7.below hb8
      have G8 := G7.below hb8
      have H8_l := (h_l.below hB8).more hB8.size
      have H8_cs := (h_cs.below hB8).more hB8.size
      clear hb8 W7 Xl7 Xcs7 G7 hB7 H7_l H7_cs
      obtain ⟨A8, c8, rfl, hc8, _, s8⟩ := ho8.form
      have CY := hid hc8
      have RY : Hid (∀ k, (Value.slice A8 l.length c8).ownBlock = some k → w7.heap.size ≤ k ∧ k < w8.heap.size) := hid ho8.lt
      clear hc8 s8
      have Y8 := ho8
      clear ho8
      go_wp2_with fail
      refine (eqSettingS_same A4 A8 c4 c8 l _ Xl8.sees Y8.sees HF_l.out).mono ?_
      rintro e w9 ⟨rfl, hb9⟩
      have hB9 := hB8.trans (hb9.mono hB8.size)
      have Z9 := hid hb9.size
      have W9 := W8.below hb9
      have Xl9 := Xl8.below hb9
      have Xcs9 := Xcs8.below hb9
      have G9 := G8.below hb9
      have Y9 := Y8.below hb9
      have H9_l := (h_l.below hB9).more hB9.size
      have H9_cs := (h_cs.below hB9).more hB9.size
      clear hb9 W8 Xl8 Xcs8 G8 Y8 hB8 H8_l H8_cs
      clear Y9 RY CY
      go_wp2_with fail
      refine (toSettingS_any A_cs c_cs cs _ H9_cs HF_cs.out).mono ?_
      rintro e w10 ⟨v10, rfl, ho10, hb10⟩
      have hB10 := hB9.trans (hb10.mono hB9.size)
      have Z10 := hid hb10.size
      have W10 := W9.below hb10
      have Xl10 := Xl9.below hb10
      have Xcs10 := Xcs9.below hb10
      have G10 := G9.below hb10
      have H10_l := (h_l.below hB10).more hB10.size
      have H10_cs := (h_cs.below hB10).more hB10.size
      clear hb10 W9 Xl9 Xcs9 G9 hB9 H9_l H9_cs
      obtain ⟨A10, c10, rfl, hc10, _, s10⟩ := ho10.form
      have CY := hid hc10
      have RY : Hid (∀ k, (Value.slice A10 cs.length c10).ownBlock = some k → w9.heap.size ≤ k ∧ k < w10.heap.size) := hid ho10.lt
      clear hc10 s10
      have Y10 := ho10
      clear ho10
      go_wp2_with fail
      refine (eqSettingS_same A5 A10 c5 c10 cs _ Xcs10.sees Y10.sees HF_cs.out).mono ?_
      rintro e w11 ⟨rfl, hb11⟩
      have hB11 := hB10.trans (hb11.mono hB10.size)
      have Z11 := hid hb11.size
      have W11 := W10.below hb11
      have Xl11 := Xl10.below hb11
      have Xcs11 := Xcs10.below hb11
      have G11 := G10.below hb11
      have Y11 := Y10.below hb11
      have H11_l := (h_l.below hB11).more hB11.size
      have H11_cs := (h_cs.below hB11).more hB11.size
      clear hb11 W10 Xl10 Xcs10 G10 Y10 hB10 H10_l H10_cs
      clear Y11 RY CY
      go_wp2_with fail
      refine (markSettingS_z (1) _ A4 c4 l _ Xl11 HF_l.out (by omega) (by have := HN_l.out; have := HN_cs.out; omega)).mono ?_
      rintro e w12 ⟨rfl, hg12⟩
      have hB12 := hB11.grown hg12 hB11.size (fun k hk => Nat.le_trans (by have := Z1.out; have := Z2.out; have := Z3.out; omega) (RXl.out k hk).1)
      have Z12 := hid hg12.size
      have H12_l := (h_l.below hB12).more hB12.size
      have H12_cs := (h_cs.below hB12).more hB12.size
      have W12 := W11.kept hg12 (apart2 RW.out RXl.out (Or.inl (by omega)))
      have Xcs12 := Xcs11.kept hg12 (apart2 RXcs.out RXl.out (Or.inr (by omega)))
      have G12 := G11.kept hg12 (apart2 RG.out RXl.out (Or.inr (by have := Z5.out; omega)))
      clear hg12  W11 Xl11 Xcs11 G11 hB11 H11_l H11_cs
      clear RXl CXl
      go_wp2_with fail
      refine (markSettingS_z (1 + 2 * (l.length : Int)) _ A5 c5 cs _ Xcs12 HF_cs.out (by omega) (by have := HN_l.out; have := HN_cs.out; omega)).mono ?_
      rintro e w13 ⟨rfl, hg13⟩
      have hB13 := hB12.grown hg13 hB12.size (fun k hk => Nat.le_trans (by have := Z1.out; have := Z2.out; have := Z3.out; have := Z4.out; omega) (RXcs.out k hk).1)
      have Z13 := hid hg13.size
      have H13_l := (h_l.below hB13).more hB13.size
      have H13_cs := (h_cs.below hB13).more hB13.size
      have W13 := W12.kept hg13 (apart2 RW.out RXcs.out (Or.inl (by have := Z4.out; omega)))
      have G13 := G12.kept hg13 (apart2 RG.out RXcs.out (Or.inr (by omega)))
      clear hg13  W12 Xcs12 G12 hB12 H12_l H12_cs
      clear RXcs CXcs
      have hk1 : ¬ 1 + 2 * (l.length : Int) + 2 * (cs.length : Int) < 0 := by omega
      have hk2 : ¬ (1 : Int) + 2 * (V.length : Int) < 0 := by omega
      go_wp2_with fail
      refine (eqSettingS_same A6 A3 c6 c3 V _ G13.sees W13.sees HVn.out).mono ?_
      rintro e w14 ⟨rfl, hb14⟩
      have hB14 := hB13.trans (hb14.mono hB13.size)
      have Z14 := hid hb14.size
      have W14 := W13.below hb14
      have G14 := G13.below hb14
      have H14_l := (h_l.below hB14).more hB14.size
      have H14_cs := (h_cs.below hB14).more hB14.size
      clear hb14 W13 G13 hB13 H13_l H13_cs
      go_wp2_with fail
      refine (markSettingS_any _ A6 c6 V _ G14 HVn.out).mono ?_
      rintro e w15 ⟨rfl, ho15, hg15⟩
      have hB15 := hB14.grown hg15 hB14.size (fun k hk => Nat.le_trans (by have := Z1.out; have := Z2.out; have := Z3.out; have := Z4.out; have := Z5.out; omega) (RG.out k hk).1)
      have Z15 := hid hg15.size
      have H15_l := (h_l.below hB15).more hB15.size
      have H15_cs := (h_cs.below hB15).more hB15.size
      have W15 := W14.kept hg15 (apart2 RW.out RG.out (Or.inl (by have := Z4.out; have := Z5.out; omega)))
      have G15 := ho15
      clear hg15 ho15 W14 G14 hB14 H14_l H14_cs
      go_wp2_with fail
      refine (heldSettingS_any A6 V.length c6 _ (sees_marksT G15) HVn.out).mono ?_
      rintro e w16 ⟨rfl, rfl⟩
      go_wp2_with fail
      refine (toSettingS_any A_l c_l l _ H15_l HF_l.out).mono ?_
      rintro e w16 ⟨v16, rfl, ho16, hb16⟩
      have hB16 := hB15.trans (hb16.mono hB15.size)
      have Z16 := hid hb16.size
      have W16 := W15.below hb16
      have G16 := G15.below hb16
      have H16_l := (h_l.below hB16).more hB16.size
      have H16_cs := (h_cs.below hB16).more hB16.size
      clear hb16 W15 G15 hB15 H15_l H15_cs
      obtain ⟨A16, c16, rfl, hc16, _, s16⟩ := ho16.form
      have CYl := hid hc16
      have RYl : Hid (∀ k, (Value.slice A16 l.length c16).ownBlock = some k → w15.heap.size ≤ k ∧ k < w16.heap.size) := hid ho16.lt
      clear hc16 s16
      have Yl16 := ho16
      clear ho16
      go_wp2_with fail
      refine (toSettingS_any A_cs c_cs cs _ H16_cs HF_cs.out).mono ?_
      rintro e w17 ⟨v17, rfl, ho17, hb17⟩
      have hB17 := hB16.trans (hb17.mono hB16.size)
      have Z17 := hid hb17.size
      have W17 := W16.below hb17
      have G17 := G16.below hb17
      have Yl17 := Yl16.below hb17
      have H17_l := (h_l.below hB17).more hB17.size
      have H17_cs := (h_cs.below hB17).more hB17.size
      clear hb17 W16 G16 Yl16 hB16 H16_l H16_cs
      obtain ⟨A17, c17, rfl, hc17, _, s17⟩ := ho17.form
      have CYcs := hid hc17
      have RYcs : Hid (∀ k, (Value.slice A17 cs.length c17).ownBlock = some k → w16.heap.size ≤ k ∧ k < w17.heap.size) := hid ho17.lt
      clear hc17 s17
      have Ycs17 := ho17
      clear ho17
      go_wp2_with fail
      refine (iApplySettings_any A16 A17 c16 c17 l cs _ Yl17.sees Ycs17.sees HF_l.out HF_cs.out).mono ?_
      rintro e w18 ⟨v18, he, ho18, hb18⟩
      rw [HVB.out] at he
      subst he
      rw [HV.out] at ho18
      have hB18 := hB17.trans (hb18.mono hB17.size)
      have Z18 := hid hb18.size
      have W18 := W17.below hb18
      have G18 := G17.below hb18
      have Yl18 := Yl17.below hb18
      have Ycs18 := Ycs17.below hb18
      have H18_l := (h_l.below hB18).more hB18.size
      have H18_cs := (h_cs.below hB18).more hB18.size
      clear hb18 W17 G17 Yl17 Ycs17 hB17 H17_l H17_cs
      obtain ⟨A18, c18, rfl, hc18, _, s18⟩ := ho18.form
      have CQ := hid hc18
      have RQ : Hid (∀ k, (Value.slice A18 V.length c18).ownBlock = some k → w17.heap.size ≤ k ∧ k < w18.heap.size) := hid ho18.lt
      clear hc18 s18
      have Q18 := ho18
      clear ho18
      clear Yl18 RYl CYl
      clear Ycs18 RYcs CYcs
      go_wp2_with fail
      refine (eqSettingS_same A18 A3 c18 c3 V _ Q18.sees W18.sees HVn.out).mono ?_
      rintro e w19 ⟨rfl, hb19⟩
      have hB19 := hB18.trans (hb19.mono hB18.size)
      have Z19 := hid hb19.size
      have W19 := W18.below hb19
      have G19 := G18.below hb19
      have Q19 := Q18.below hb19
      have H19_l := (h_l.below hB19).more hB19.size
      have H19_cs := (h_cs.below hB19).more hB19.size
      clear hb19 W18 G18 Q18 hB18 H18_l H18_cs
      clear Q19 RQ CQ
      go_wp2_with fail
      refine (heldSettingS_any A6 V.length c6 _ (sees_marksT G19) HVn.out).mono ?_
      rintro e w20 ⟨rfl, rfl⟩
      go_wp2
      go_ret
      exact ⟨rfl, hB19⟩
end Go.Proofs.Ytindbplgbfjjcaa

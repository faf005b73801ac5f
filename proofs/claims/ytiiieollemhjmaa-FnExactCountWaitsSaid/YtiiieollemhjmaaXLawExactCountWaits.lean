/-
  The walk of the exact law FnExactCountWaits: at every argument it returns true and changes nothing that was there. Conditions: none.
-/
import Derived.Test.YtiiieollemhjmaaXGen
import Derived.Test.YtiiieollemhjmaaExZ
import Derived.Test.YtiiieollemhjmaaWaB
namespace Go.Proofs.Ytiiieollemhjmaa
open Go.RowKit Wt

set_option maxHeartbeats 4000000 in
theorem walkExactCountWaits (A_l : Option Addr) (c_l : Nat) (l : List Int) (w : World) (_hm_l : l.length ≤ maxLen) (hc_l : l.length ≤ c_l) (h_l : Sees w w.heap.size A_l (ints l)) :
    Calls Try.prog 6 #[.slice A_l l.length c_l] w fun e w' => e = .returned (.bool true) ∧ Below w.heap.size w w' := by
  have HC_l := hid hc_l
  clear hc_l
  have hB0 := Below.refl w.heap.size w
  by_cases hbig_l : 1048576 < l.length
  · go_enter Try.func6, Try.ntmps6
    go_wp2
    go_ret
    exact ⟨rfl, hB0⟩
  · skip
    have HN_l := hid (show l.length ≤ 1048576 by omega)
    have HF_l := hid (show l.length ≤ 4194304 by omega)
    obtain ⟨V, hV⟩ : ∃ y, y = cntW l := ⟨_, rfl⟩
    have HV : Hid (cntW l = V) := hid hV.symm
    have HVn : Hid (V.length ≤ 4194304) := hid (by rw [hV]; exact Nat.le_trans (cntW_len l) (by decide))
    clear hV
    have H0_l := (h_l.below hB0).more hB0.size
    go_enter Try.func6, Try.ntmps6
    go_wp2_with fail
    refine (toIntS_any A_l c_l l _ H0_l HF_l.out).mono ?_
    rintro e w1 ⟨v1, rfl, ho1, hb1⟩
    have hB1 := hB0.trans (hb1.mono hB0.size)
    have Z1 := hid hb1.size
    have H1_l := (h_l.below hB1).more hB1.size
    clear hb1  hB0 H0_l
    obtain ⟨A1, c1, rfl, hc1, _, s1⟩ := ho1.form4
    have CTl := hid hc1
    have RTl : Hid (∀ k, (Value.slice A1 l.length c1).ownBlock = some k → w.heap.size ≤ k ∧ k < w1.heap.size) := hid ho1.lt4
    clear hc1 s1
    have Tl1 := ho1
    clear ho1
    go_wp2_with fail
    refine (sCountWaits_any A1 c1 l _ Tl1.sees4 HF_l.out).mono ?_
    rintro e w2 ⟨v2, rfl, ho2, hb2⟩
    rw [HV.out] at ho2
    have hB2 := hB1.trans (hb2.mono hB1.size)
    have Z2 := hid hb2.size
    have Tl2 := Tl1.below hb2
    have H2_l := (h_l.below hB2).more hB2.size
    clear hb2 Tl1 hB1 H1_l
    obtain ⟨A2, c2, rfl, hc2, _, s2⟩ := ho2.form4
    have CW := hid hc2
    have RW : Hid (∀ k, (Value.slice A2 V.length c2).ownBlock = some k → w1.heap.size ≤ k ∧ k < w2.heap.size) := hid ho2.lt4
    clear hc2 s2
    have W2 := ho2
    clear ho2
    clear Tl2 RTl CTl
    go_wp2_with fail
    refine (toIntS_any A_l c_l l _ H2_l HF_l.out).mono ?_
    rintro e w3 ⟨v3, rfl, ho3, hb3⟩
    have hB3 := hB2.trans (hb3.mono hB2.size)
    have Z3 := hid hb3.size
    have W3 := W2.below hb3
    have H3_l := (h_l.below hB3).more hB3.size
    clear hb3 W2 hB2 H2_l
    obtain ⟨A3, c3, rfl, hc3, _, s3⟩ := ho3.form4
    have CXl := hid hc3
    have RXl : Hid (∀ k, (Value.slice A3 l.length c3).ownBlock = some k → w2.heap.size ≤ k ∧ k < w3.heap.size) := hid ho3.lt4
    clear hc3 s3
    have Xl3 := ho3
    clear ho3
    go_wp2_with fail
    refine (iCountWaits_any A3 c3 l _ Xl3.sees4 HF_l.out).mono ?_
    rintro e w4 ⟨v4, rfl, ho4, hb4⟩
    rw [HV.out] at ho4
    have hB4 := hB3.trans (hb4.mono hB3.size)
    have Z4 := hid hb4.size
    have W4 := W3.below hb4
    have Xl4 := Xl3.below hb4
    have H4_l := (h_l.below hB4).more hB4.size
    clear hb4 W3 Xl3 hB3 H3_l
    obtain ⟨A4, c4, rfl, hc4, _, s4⟩ := ho4.form4
    have CG := hid hc4
    have RG : Hid (∀ k, (Value.slice A4 V.length c4).ownBlock = some k → w3.heap.size ≤ k ∧ k < w4.heap.size) := hid ho4.lt4
    clear hc4 s4
    have G4 := ho4
    clear ho4
    go_wp2_with fail
    refine (eqIntS_same A4 A2 c4 c2 V _ G4.sees4 W4.sees4 HVn.out).mono ?_
    rintro e w5 ⟨rfl, hb5⟩
    have hB5 := hB4.trans (hb5.mono hB4.size)
    have Z5 := hid hb5.size
    have W5 := W4.below hb5
    have Xl5 := Xl4.below hb5
    have G5 := G4.below hb5
    have H5_l := (h_l.below hB5).more hB5.size
    clear hb5 W4 Xl4 G4 hB4 H4_l
    go_wp2_with fail
    refine (toIntS_any A_l c_l l _ H5_l HF_l.out).mono ?_
    rintro e w6 ⟨v6, rfl, ho6, hb6⟩
    have hB6 := hB5.trans (hb6.mono hB5.size)
    have Z6 := hid hb6.size
    have W6 := W5.below hb6
    have Xl6 := Xl5.below hb6
    have G6 := G5.below hb6
    have H6_l := (h_l.below hB6).more hB6.size
    clear hb6 W5 Xl5 G5 hB5 H5_l
    obtain ⟨A6, c6, rfl, hc6, _, s6⟩ := ho6.form4
    have CY := hid hc6
    have RY : Hid (∀ k, (Value.slice A6 l.length c6).ownBlock = some k → w5.heap.size ≤ k ∧ k < w6.heap.size) := hid ho6.lt4
    clear hc6 s6
    have Y6 := ho6
    clear ho6
    go_wp2_with fail
    refine (eqIntS_same A3 A6 c3 c6 l _ Xl6.sees4 Y6.sees4 HF_l.out).mono ?_
    rintro e w7 ⟨rfl, hb7⟩
    have hB7 := hB6.trans (hb7.mono hB6.size)
    have Z7 := hid hb7.size
    have W7 := W6.below hb7
    have Xl7 := Xl6.below hb7
    have G7 := G6.below hb7
    have Y7 := Y6.below hb7
    have H7_l := (h_l.below hB7).more hB7.size
    clear hb7 W6 Xl6 G6 Y6 hB6 H6_l
    clear Y7 RY CY
    go_wp2_with fail
    refine (markIntS_z (1) _ A3 c3 l _ Xl7 HF_l.out (by omega) (by have := HN_l.out; omega)).mono ?_
    rintro e w8 ⟨rfl, hg8⟩
    have hB8 := hB7.grown hg8 hB7.size (fun k hk => Nat.le_trans (by have := Z1.out; have := Z2.out; (try simp only [World.size_alloc] at *); omega) (RXl.out k hk).1)
    have Z8 := hid hg8.size
    have H8_l := (h_l.below hB8).more hB8.size
    have W8 := W7.kept4 hg8 (apart2 RW.out RXl.out (Or.inl (by omega)))
    have G8 := G7.kept4 hg8 (apart2 RG.out RXl.out (Or.inr (by omega)))
    clear hg8  W7 Xl7 G7 hB7 H7_l
    clear RXl CXl
    have hk1 : ¬ 1 + (l.length : Int) < 0 := by omega
    have hk2 : ¬ (1 : Int) + (V.length : Int) < 0 := by omega
    go_wp2_with fail
    refine (eqIntS_same A4 A2 c4 c2 V _ G8.sees4 W8.sees4 HVn.out).mono ?_
    rintro e w9 ⟨rfl, hb9⟩
    have hB9 := hB8.trans (hb9.mono hB8.size)
    have Z9 := hid hb9.size
    have W9 := W8.below hb9
    have G9 := G8.below hb9
    have H9_l := (h_l.below hB9).more hB9.size
    clear hb9 W8 G8 hB8 H8_l
    go_wp2_with fail
    refine (markIntS_any _ A4 c4 V _ G9 HVn.out).mono ?_
    rintro e w10 ⟨rfl, ho10, hg10⟩
    have hB10 := hB9.grown hg10 hB9.size (fun k hk => Nat.le_trans (by have := Z1.out; have := Z2.out; have := Z3.out; (try simp only [World.size_alloc] at *); omega) (RG.out k hk).1)
    have Z10 := hid hg10.size
    have H10_l := (h_l.below hB10).more hB10.size
    have W10 := W9.kept4 hg10 (apart2 RW.out RG.out (Or.inl (by have := Z3.out; omega)))
    have G10 := ho10
    clear hg10 ho10 W9 G9 hB9 H9_l
    go_wp2_with fail
    refine (heldIntS_any A4 V.length c4 _ (sees_marks G10) HVn.out).mono ?_
    rintro e w11 ⟨rfl, rfl⟩
    go_wp2_with fail
    refine (toIntS_any A_l c_l l _ H10_l HF_l.out).mono ?_
    rintro e w11 ⟨v11, rfl, ho11, hb11⟩
    have hB11 := hB10.trans (hb11.mono hB10.size)
    have Z11 := hid hb11.size
    have W11 := W10.below hb11
    have G11 := G10.below hb11
    have H11_l := (h_l.below hB11).more hB11.size
    clear hb11 W10 G10 hB10 H10_l
    obtain ⟨A11, c11, rfl, hc11, _, s11⟩ := ho11.form4
    have CYl := hid hc11
    have RYl : Hid (∀ k, (Value.slice A11 l.length c11).ownBlock = some k → w10.heap.size ≤ k ∧ k < w11.heap.size) := hid ho11.lt4
    clear hc11 s11
    have Yl11 := ho11
    clear ho11
    go_wp2_with fail
    refine (iCountWaits_any A11 c11 l _ Yl11.sees4 HF_l.out).mono ?_
    rintro e w12 ⟨v12, rfl, ho12, hb12⟩
    rw [HV.out] at ho12
    have hB12 := hB11.trans (hb12.mono hB11.size)
    have Z12 := hid hb12.size
    have W12 := W11.below hb12
    have G12 := G11.below hb12
    have Yl12 := Yl11.below hb12
    have H12_l := (h_l.below hB12).more hB12.size
    clear hb12 W11 G11 Yl11 hB11 H11_l
    obtain ⟨A12, c12, rfl, hc12, _, s12⟩ := ho12.form4
    have CQ := hid hc12
    have RQ : Hid (∀ k, (Value.slice A12 V.length c12).ownBlock = some k → w11.heap.size ≤ k ∧ k < w12.heap.size) := hid ho12.lt4
    clear hc12 s12
    have Q12 := ho12
    clear ho12
    clear Yl12 RYl CYl
    go_wp2_with fail
    refine (eqIntS_same A12 A2 c12 c2 V _ Q12.sees4 W12.sees4 HVn.out).mono ?_
    rintro e w13 ⟨rfl, hb13⟩
    have hB13 := hB12.trans (hb13.mono hB12.size)
    have Z13 := hid hb13.size
    have W13 := W12.below hb13
    have G13 := G12.below hb13
    have Q13 := Q12.below hb13
    have H13_l := (h_l.below hB13).more hB13.size
    clear hb13 W12 G12 Q12 hB12 H12_l
    clear Q13 RQ CQ
    go_wp2_with fail
    refine (heldIntS_any A4 V.length c4 _ (sees_marks G13) HVn.out).mono ?_
    rintro e w14 ⟨rfl, rfl⟩
    go_wp2
    go_ret
    exact ⟨rfl, hB13⟩
end Go.Proofs.Ytiiieollemhjmaa

/-
  The walk of the exact law FnExactBreakerPath: at every argument it returns true and changes nothing that was there. Conditions: none.
-/
import Derived.Test.YtkailakeiepkgaaXGen
import Derived.Test.YtkailakeiepkgaaExZ
import Derived.Test.YtkailakeiepkgaaSsBrk
import Derived.Test.YtkailakeiepkgaaBrkR
namespace Go.Proofs.Ytkailakeiepkgaa
open Go.RowKit Brk

set_option maxHeartbeats 4000000 in
theorem walkExactBreakerPath (A_gs : Option Addr) (c_gs : Nat) (gs : List Bool) (A_ts : Option Addr) (c_ts : Nat) (ts : List Int) (b : Br) (w : World) (_hm_gs : gs.length ≤ maxLen) (hc_gs : gs.length ≤ c_gs) (h_gs : Sees w w.heap.size A_gs (boos gs)) (_hm_ts : ts.length ≤ maxLen) (hc_ts : ts.length ≤ c_ts) (h_ts : Sees w w.heap.size A_ts (ints ts)) :
    Calls Try.prog 7 #[.agg #[.int .i64 b.li, .int .i64 b.re, .int .i64 b.st, .int .i64 b.fa, .int .i64 b.si], .slice A_gs gs.length c_gs, .slice A_ts ts.length c_ts] w fun e w' => e = .returned (.bool true) ∧ Below w.heap.size w w' := by
  have HC_gs := hid hc_gs
  clear hc_gs
  have HC_ts := hid hc_ts
  clear hc_ts
  have px0 := At.new w 23 #[.int .i64 b.li, .int .i64 b.re, .int .i64 b.st, .int .i64 b.fa, .int .i64 b.si]
  have hB0 := (Below.refl w.heap.size w).alloc (Nat.le_refl _) (.cells #[.int .i64 b.li, .int .i64 b.re, .int .i64 b.st, .int .i64 b.fa, .int .i64 b.si] 23)
  by_cases hbig_gs : 1048576 < gs.length
  · go_enter Try.func7, Try.ntmps7
    go_wp2
    go_ret
    exact ⟨rfl, hB0⟩
  · skip
    by_cases hbig_ts : 1048576 < ts.length
    · go_enter Try.func7, Try.ntmps7
      go_wp2
      go_ret
      exact ⟨rfl, hB0⟩
    · skip
      have HN_gs := hid (show gs.length ≤ 1048576 by omega)
      have HF_gs := hid (show gs.length ≤ 4194304 by omega)
      have HN_ts := hid (show ts.length ≤ 1048576 by omega)
      have HF_ts := hid (show ts.length ≤ 4194304 by omega)
      obtain ⟨V, hV⟩ : ∃ y, y = path b gs ts := ⟨_, rfl⟩
      have HV : Hid (path b gs ts = V) := hid hV.symm
      have HVn : Hid (V.length ≤ 4194304) := hid (by rw [hV]; exact Nat.le_trans (path_len b gs ts) (by decide))
      clear hV
      have H0_gs := (h_gs.below hB0).more hB0.size
      have H0_ts := (h_ts.below hB0).more hB0.size
      go_enter Try.func7, Try.ntmps7
      obtain ⟨p0, p1, p2, p3, p4, pl⟩ := px0.xbrk
      go_wp2_with fail
      refine (toBreaker_any b _).mono ?_
      rintro e w1 ⟨rfl, hb1⟩
      have hB1 := hB0.trans (hb1.mono hB0.size)
      have Z1 := hid hb1.size
      have px1 := px0.below hb1 px0.lt
      have H1_gs := (h_gs.below hB1).more hB1.size
      have H1_ts := (h_ts.below hB1).more hB1.size
      clear hb1  hB0 H0_gs H0_ts px0 p0 p1 p2 p3 p4 pl
      obtain ⟨p0, p1, p2, p3, p4, pl⟩ := px1.xbrk
      go_wp2_with fail
      refine (toBoolS_any A_gs c_gs gs _ H1_gs HF_gs.out).mono ?_
      rintro e w2 ⟨v2, rfl, ho2, hb2⟩
      have hB2 := hB1.trans (hb2.mono hB1.size)
      have Z2 := hid hb2.size
      have px2 := px1.below hb2 px1.lt
      have H2_gs := (h_gs.below hB2).more hB2.size
      have H2_ts := (h_ts.below hB2).more hB2.size
      clear hb2  hB1 H1_gs H1_ts px1 p0 p1 p2 p3 p4 pl
      obtain ⟨A2, c2, rfl, hc2, _, s2⟩ := ho2.form
      have CTgs := hid hc2
      have RTgs : Hid (∀ k, (Value.slice A2 gs.length c2).ownBlock = some k → w1.heap.size ≤ k ∧ k < w2.heap.size) := hid ho2.lt
      clear hc2 s2
      have Tgs2 := ho2
      clear ho2
      obtain ⟨p0, p1, p2, p3, p4, pl⟩ := px2.xbrk
      go_wp2_with fail
      refine (toIntS_any A_ts c_ts ts _ H2_ts HF_ts.out).mono ?_
      rintro e w3 ⟨v3, rfl, ho3, hb3⟩
      have hB3 := hB2.trans (hb3.mono hB2.size)
      have Z3 := hid hb3.size
      have Tgs3 := Tgs2.below hb3
      have px3 := px2.below hb3 px2.lt
      have H3_gs := (h_gs.below hB3).more hB3.size
      have H3_ts := (h_ts.below hB3).more hB3.size
      clear hb3 Tgs2 hB2 H2_gs H2_ts px2 p0 p1 p2 p3 p4 pl
      obtain ⟨A3, c3, rfl, hc3, _, s3⟩ := ho3.form4
      have CTts := hid hc3
      have RTts : Hid (∀ k, (Value.slice A3 ts.length c3).ownBlock = some k → w2.heap.size ≤ k ∧ k < w3.heap.size) := hid ho3.lt4
      clear hc3 s3
      have Tts3 := ho3
      clear ho3
      obtain ⟨p0, p1, p2, p3, p4, pl⟩ := px3.xbrk
      go_wp2_with fail
      refine (sBreakerPath_any A2 A3 c2 c3 gs ts b _ Tgs3.sees Tts3.sees4 HF_gs.out HF_ts.out).mono ?_
      rintro e w4 ⟨v4, rfl, ho4, hb4⟩
      rw [HV.out] at ho4
      have hB4 := hB3.trans (hb4.mono hB3.size)
      have Z4 := hid hb4.size
      have Tgs4 := Tgs3.below hb4
      have Tts4 := Tts3.below hb4
      have px4 := px3.below hb4 px3.lt
      have H4_gs := (h_gs.below hB4).more hB4.size
      have H4_ts := (h_ts.below hB4).more hB4.size
      clear hb4 Tgs3 Tts3 hB3 H3_gs H3_ts px3 p0 p1 p2 p3 p4 pl
      obtain ⟨A4, c4, rfl, hc4, _, s4⟩ := ho4.form4
      have CW := hid hc4
      have RW : Hid (∀ k, (Value.slice A4 V.length c4).ownBlock = some k → w3.heap.size ≤ k ∧ k < w4.heap.size) := hid ho4.lt4
      clear hc4 s4
      have W4 := ho4
      clear ho4
      clear Tgs4 RTgs CTgs
      clear Tts4 RTts CTts
      obtain ⟨p0, p1, p2, p3, p4, pl⟩ := px4.xbrk
      go_wp2_with fail
      refine (toBoolS_any A_gs c_gs gs _ H4_gs HF_gs.out).mono ?_
      rintro e w5 ⟨v5, rfl, ho5, hb5⟩
      have hB5 := hB4.trans (hb5.mono hB4.size)
      have Z5 := hid hb5.size
      have W5 := W4.below hb5
      have px5 := px4.below hb5 px4.lt
      have H5_gs := (h_gs.below hB5).more hB5.size
      have H5_ts := (h_ts.below hB5).more hB5.size
      clear hb5 W4 hB4 H4_gs H4_ts px4 p0 p1 p2 p3 p4 pl
      obtain ⟨A5, c5, rfl, hc5, _, s5⟩ := ho5.form
      have CXgs := hid hc5
      have RXgs : Hid (∀ k, (Value.slice A5 gs.length c5).ownBlock = some k → w4.heap.size ≤ k ∧ k < w5.heap.size) := hid ho5.lt
      clear hc5 s5
      have Xgs5 := ho5
      clear ho5
      obtain ⟨p0, p1, p2, p3, p4, pl⟩ := px5.xbrk
      go_wp2_with fail
      refine (toIntS_any A_ts c_ts ts _ H5_ts HF_ts.out).mono ?_
      rintro e w6 ⟨v6, rfl, ho6, hb6⟩
      have hB6 := hB5.trans (hb6.mono hB5.size)
      have Z6 := hid hb6.size
      have W6 := W5.below hb6
      have Xgs6 := Xgs5.below hb6
      have px6 := px5.below hb6 px5.lt
      have H6_gs := (h_gs.below hB6).more hB6.size
      have H6_ts := (h_ts.below hB6).more hB6.size
      clear hb6 W5 Xgs5 hB5 H5_gs H5_ts px5 p0 p1 p2 p3 p4 pl
      obtain ⟨A6, c6, rfl, hc6, _, s6⟩ := ho6.form4
      have CXts := hid hc6
      have RXts : Hid (∀ k, (Value.slice A6 ts.length c6).ownBlock = some k → w5.heap.size ≤ k ∧ k < w6.heap.size) := hid ho6.lt4
      clear hc6 s6
      have Xts6 := ho6
      clear ho6
      obtain ⟨p0, p1, p2, p3, p4, pl⟩ := px6.xbrk
      go_wp2_with fail
      refine (toBreaker_any b _).mono ?_
      rintro e w7 ⟨rfl, hb7⟩
      have hB7 := hB6.trans (hb7.mono hB6.size)
      have Z7 := hid hb7.size
      have W7 := W6.below hb7
      have Xgs7 := Xgs6.below hb7
      have Xts7 := Xts6.below hb7
      have px7 := px6.below hb7 px6.lt
      have H7_gs := (h_gs.below hB7).more hB7.size
      have H7_ts := (h_ts.below hB7).more hB7.size
      clear hb7 W6 Xgs6 Xts6 hB6 H6_gs H6_ts px6 p0 p1 p2 p3 p4 pl
      obtain ⟨p0, p1, p2, p3, p4, pl⟩ := px7.xbrk
      go_wp2_with fail
      refine (iBreakerPath_any A5 A6 c5 c6 gs ts b _ Xgs7.sees Xts7.sees4 HF_gs.out HF_ts.out).mono ?_
      rintro e w8 ⟨v8, rfl, ho8, hb8⟩
      rw [HV.out] at ho8
      have hB8 := hB7.trans (hb8.mono hB7.size)
      have Z8 := hid hb8.size
      have W8 := W7.below hb8
      have Xgs8 := Xgs7.below hb8
      have Xts8 := Xts7.below hb8
      have px8 := px7.below hb8 px7.lt
      have H8_gs := (h_gs.below hB8).more hB8.size
      have H8_ts := (h_ts.below hB8).more hB8.size
      clear hb8 W7 Xgs7 Xts7 hB7 H7_gs H7_ts px7 p0 p1 p2 p3 p4 pl
      obtain ⟨A8, c8, rfl, hc8, _, s8⟩ := ho8.form4
      have CG := hid hc8
      have RG : Hid (∀ k, (Value.slice A8 V.length c8).ownBlock = some k → w7.heap.size ≤ k ∧ k < w8.heap.size) := hid ho8.lt4
      clear hc8 s8
      have G8 := ho8
      clear ho8
      obtain ⟨p0, p1, p2, p3, p4, pl⟩ := px8.xbrk
      go_wp2_with fail
      refine (eqIntS_same A8 A4 c8 c4 V _ G8.sees4 W8.sees4 HVn.out).mono ?_
      rintro e w9 ⟨rfl, hb9⟩
      have hB9 := hB8.trans (hb9.mono hB8.size)
      have Z9 := hid hb9.size
      have W9 := W8.below hb9
      have Xgs9 := Xgs8.below hb9
      have Xts9 := Xts8.below hb9
      have G9 := G8.below hb9
      have px9 := px8.below hb9 px8.lt
      have H9_gs := (h_gs.below hB9).more hB9.size
      have H9_ts := (h_ts.below hB9).more hB9.size
      clear hb9 W8 Xgs8 Xts8 G8 hB8 H8_gs H8_ts px8 p0 p1 p2 p3 p4 pl
      obtain ⟨p0, p1, p2, p3, p4, pl⟩ := px9.xbrk
      go_wp2_with fail
      refine (toBoolS_any A_gs c_gs gs _ H9_gs HF_gs.out).mono ?_
      rintro e w10 ⟨v10, rfl, ho10, hb10⟩
      have hB10 := hB9.trans (hb10.mono hB9.size)
      have Z10 := hid hb10.size
      have W10 := W9.below hb10
      have Xgs10 := Xgs9.below hb10
      have Xts10 := Xts9.below hb10
      have G10 := G9.below hb10
      have px10 := px9.below hb10 px9.lt
      have H10_gs := (h_gs.below hB10).more hB10.size
      have H10_ts := (h_ts.below hB10).more hB10.size
      clear hb10 W9 Xgs9 Xts9 G9 hB9 H9_gs H9_ts px9 p0 p1 p2 p3 p4 pl
      obtain ⟨A10, c10, rfl, hc10, _, s10⟩ := ho10.form
      have CY := hid hc10
      have RY : Hid (∀ k, (Value.slice A10 gs.length c10).ownBlock = some k → w9.heap.size ≤ k ∧ k < w10.heap.size) := hid ho10.lt
      clear hc10 s10
      have Y10 := ho10
      clear ho10
      obtain ⟨p0, p1, p2, p3, p4, pl⟩ := px10.xbrk
      go_wp2_with fail
      refine (eqBoolS_same A5 A10 c5 c10 gs _ Xgs10.sees Y10.sees HF_gs.out).mono ?_
      rintro e w11 ⟨rfl, hb11⟩
      have hB11 := hB10.trans (hb11.mono hB10.size)
      have Z11 := hid hb11.size
      have W11 := W10.below hb11
      have Xgs11 := Xgs10.below hb11
      have Xts11 := Xts10.below hb11
      have G11 := G10.below hb11
      have Y11 := Y10.below hb11
      have px11 := px10.below hb11 px10.lt
      have H11_gs := (h_gs.below hB11).more hB11.size
      have H11_ts := (h_ts.below hB11).more hB11.size
      clear hb11 W10 Xgs10 Xts10 G10 Y10 hB10 H10_gs H10_ts px10 p0 p1 p2 p3 p4 pl
      clear Y11 RY CY
      obtain ⟨p0, p1, p2, p3, p4, pl⟩ := px11.xbrk
      go_wp2_with fail
      refine (toIntS_any A_ts c_ts ts _ H11_ts HF_ts.out).mono ?_
      rintro e w12 ⟨v12, rfl, ho12, hb12⟩
      have hB12 := hB11.trans (hb12.mono hB11.size)
      have Z12 := hid hb12.size
      have W12 := W11.below hb12
      have Xgs12 := Xgs11.below hb12
      have Xts12 := Xts11.below hb12
      have G12 := G11.below hb12
      have px12 := px11.below hb12 px11.lt
      have H12_gs := (h_gs.below hB12).more hB12.size
      have H12_ts := (h_ts.below hB12).more hB12.size
      clear hb12 W11 Xgs11 Xts11 G11 hB11 H11_gs H11_ts px11 p0 p1 p2 p3 p4 pl
      obtain ⟨A12, c12, rfl, hc12, _, s12⟩ := ho12.form4
      have CY := hid hc12
      have RY : Hid (∀ k, (Value.slice A12 ts.length c12).ownBlock = some k → w11.heap.size ≤ k ∧ k < w12.heap.size) := hid ho12.lt4
      clear hc12 s12
      have Y12 := ho12
      clear ho12
      obtain ⟨p0, p1, p2, p3, p4, pl⟩ := px12.xbrk
      go_wp2_with fail
      refine (eqIntS_same A6 A12 c6 c12 ts _ Xts12.sees4 Y12.sees4 HF_ts.out).mono ?_
      rintro e w13 ⟨rfl, hb13⟩
      have hB13 := hB12.trans (hb13.mono hB12.size)
      have Z13 := hid hb13.size
      have W13 := W12.below hb13
      have Xgs13 := Xgs12.below hb13
      have Xts13 := Xts12.below hb13
      have G13 := G12.below hb13
      have Y13 := Y12.below hb13
      have px13 := px12.below hb13 px12.lt
      have H13_gs := (h_gs.below hB13).more hB13.size
      have H13_ts := (h_ts.below hB13).more hB13.size
      clear hb13 W12 Xgs12 Xts12 G12 Y12 hB12 H12_gs H12_ts px12 p0 p1 p2 p3 p4 pl
      clear Y13 RY CY
      obtain ⟨p0, p1, p2, p3, p4, pl⟩ := px13.xbrk
      go_wp2_with fail
      refine (markBoolS_z (1) _ A5 c5 gs _ Xgs13 HF_gs.out (by omega) (by have := HN_gs.out; have := HN_ts.out; omega)).mono ?_
      rintro e w14 ⟨rfl, hg14⟩
      have hB14 := hB13.grown hg14 hB13.size (fun k hk => Nat.le_trans (by have := Z1.out; have := Z2.out; have := Z3.out; have := Z4.out; (try simp only [World.size_alloc] at *); omega) (RXgs.out k hk).1)
      have Z14 := hid hg14.size
      have H14_gs := (h_gs.below hB14).more hB14.size
      have H14_ts := (h_ts.below hB14).more hB14.size
      have W14 := W13.kept4 hg14 (apart2 RW.out RXgs.out (Or.inl (by omega)))
      have Xts14 := Xts13.kept4 hg14 (apart2 RXts.out RXgs.out (Or.inr (by omega)))
      have G14 := G13.kept4 hg14 (apart2 RG.out RXgs.out (Or.inr (by have := Z6.out; have := Z7.out; omega)))
      have px14 := px13.grown hg14 (fun e => by have := (RXgs.out _ e.symm).1; have := Z1.out; have := Z2.out; have := Z3.out; have := Z4.out; (try simp only [World.size_alloc] at *); omega)
      clear hg14  W13 Xgs13 Xts13 G13 hB13 H13_gs H13_ts px13 p0 p1 p2 p3 p4 pl
      clear RXgs CXgs
      obtain ⟨p0, p1, p2, p3, p4, pl⟩ := px14.xbrk
      go_wp2_with fail
      refine (markIntS_z (1 + (gs.length : Int)) _ A6 c6 ts _ Xts14 HF_ts.out (by omega) (by have := HN_gs.out; have := HN_ts.out; omega)).mono ?_
      rintro e w15 ⟨rfl, hg15⟩
      have hB15 := hB14.grown hg15 hB14.size (fun k hk => Nat.le_trans (by have := Z1.out; have := Z2.out; have := Z3.out; have := Z4.out; have := Z5.out; (try simp only [World.size_alloc] at *); omega) (RXts.out k hk).1)
      have Z15 := hid hg15.size
      have H15_gs := (h_gs.below hB15).more hB15.size
      have H15_ts := (h_ts.below hB15).more hB15.size
      have W15 := W14.kept4 hg15 (apart2 RW.out RXts.out (Or.inl (by have := Z5.out; omega)))
      have G15 := G14.kept4 hg15 (apart2 RG.out RXts.out (Or.inr (by have := Z7.out; omega)))
      have px15 := px14.grown hg15 (fun e => by have := (RXts.out _ e.symm).1; have := Z1.out; have := Z2.out; have := Z3.out; have := Z4.out; have := Z5.out; (try simp only [World.size_alloc] at *); omega)
      clear hg15  W14 Xts14 G14 hB14 H14_gs H14_ts px14 p0 p1 p2 p3 p4 pl
      clear RXts CXts
      have hk1 : ¬ 1 + (gs.length : Int) + (ts.length : Int) < 0 := by omega
      have hk2 : ¬ (1 : Int) + (V.length : Int) < 0 := by omega
      obtain ⟨p0, p1, p2, p3, p4, pl⟩ := px15.xbrk
      go_wp2_with fail
      refine (eqIntS_same A8 A4 c8 c4 V _ G15.sees4 W15.sees4 HVn.out).mono ?_
      rintro e w16 ⟨rfl, hb16⟩
      have hB16 := hB15.trans (hb16.mono hB15.size)
      have Z16 := hid hb16.size
      have W16 := W15.below hb16
      have G16 := G15.below hb16
      have px16 := px15.below hb16 px15.lt
      have H16_gs := (h_gs.below hB16).more hB16.size
      have H16_ts := (h_ts.below hB16).more hB16.size
      clear hb16 W15 G15 hB15 H15_gs H15_ts px15 p0 p1 p2 p3 p4 pl
      obtain ⟨p0, p1, p2, p3, p4, pl⟩ := px16.xbrk
      go_wp2_with fail
      refine (markIntS_any _ A8 c8 V _ G16 HVn.out).mono ?_
      rintro e w17 ⟨rfl, ho17, hg17⟩
      have hB17 := hB16.grown hg17 hB16.size (fun k hk => Nat.le_trans (by have := Z1.out; have := Z2.out; have := Z3.out; have := Z4.out; have := Z5.out; have := Z6.out; have := Z7.out; (try simp only [World.size_alloc] at *); omega) (RG.out k hk).1)
      have Z17 := hid hg17.size
      have H17_gs := (h_gs.below hB17).more hB17.size
      have H17_ts := (h_ts.below hB17).more hB17.size
      have W17 := W16.kept4 hg17 (apart2 RW.out RG.out (Or.inl (by have := Z5.out; have := Z6.out; have := Z7.out; omega)))
      have px17 := px16.grown hg17 (fun e => by have := (RG.out _ e.symm).1; have := Z1.out; have := Z2.out; have := Z3.out; have := Z4.out; have := Z5.out; have := Z6.out; have := Z7.out; (try simp only [World.size_alloc] at *); omega)
      have G17 := ho17
      clear hg17 ho17 W16 G16 hB16 H16_gs H16_ts px16 p0 p1 p2 p3 p4 pl
      obtain ⟨p0, p1, p2, p3, p4, pl⟩ := px17.xbrk
      go_wp2_with fail
      refine (heldIntS_any A8 V.length c8 _ (sees_marks G17) HVn.out).mono ?_
      rintro e w18 ⟨rfl, rfl⟩
      clear p0 p1 p2 p3 p4 pl
      obtain ⟨p0, p1, p2, p3, p4, pl⟩ := px17.xbrk
      go_wp2_with fail
      refine (toBreaker_any b _).mono ?_
      rintro e w18 ⟨rfl, hb18⟩
      have hB18 := hB17.trans (hb18.mono hB17.size)
      have Z18 := hid hb18.size
      have W18 := W17.below hb18
      have G18 := G17.below hb18
      have px18 := px17.below hb18 px17.lt
      have H18_gs := (h_gs.below hB18).more hB18.size
      have H18_ts := (h_ts.below hB18).more hB18.size
      clear hb18 W17 G17 hB17 H17_gs H17_ts px17 p0 p1 p2 p3 p4 pl
      obtain ⟨p0, p1, p2, p3, p4, pl⟩ := px18.xbrk
      go_wp2_with fail
      refine (toBoolS_any A_gs c_gs gs _ H18_gs HF_gs.out).mono ?_
      rintro e w19 ⟨v19, rfl, ho19, hb19⟩
      have hB19 := hB18.trans (hb19.mono hB18.size)
      have Z19 := hid hb19.size
      have W19 := W18.below hb19
      have G19 := G18.below hb19
      have px19 := px18.below hb19 px18.lt
      have H19_gs := (h_gs.below hB19).more hB19.size
      have H19_ts := (h_ts.below hB19).more hB19.size
      clear hb19 W18 G18 hB18 H18_gs H18_ts px18 p0 p1 p2 p3 p4 pl
      obtain ⟨A19, c19, rfl, hc19, _, s19⟩ := ho19.form
      have CYgs := hid hc19
      have RYgs : Hid (∀ k, (Value.slice A19 gs.length c19).ownBlock = some k → w18.heap.size ≤ k ∧ k < w19.heap.size) := hid ho19.lt
      clear hc19 s19
      have Ygs19 := ho19
      clear ho19
      obtain ⟨p0, p1, p2, p3, p4, pl⟩ := px19.xbrk
      go_wp2_with fail
      refine (toIntS_any A_ts c_ts ts _ H19_ts HF_ts.out).mono ?_
      rintro e w20 ⟨v20, rfl, ho20, hb20⟩
      have hB20 := hB19.trans (hb20.mono hB19.size)
      have Z20 := hid hb20.size
      have W20 := W19.below hb20
      have G20 := G19.below hb20
      have Ygs20 := Ygs19.below hb20
      have px20 := px19.below hb20 px19.lt
      have H20_gs := (h_gs.below hB20).more hB20.size
      have H20_ts := (h_ts.below hB20).more hB20.size
      clear hb20 W19 G19 Ygs19 hB19 H19_gs H19_ts px19 p0 p1 p2 p3 p4 pl
      obtain ⟨A20, c20, rfl, hc20, _, s20⟩ := ho20.form4
      have CYts := hid hc20
      have RYts : Hid (∀ k, (Value.slice A20 ts.length c20).ownBlock = some k → w19.heap.size ≤ k ∧ k < w20.heap.size) := hid ho20.lt4
      clear hc20 s20
      have Yts20 := ho20
      clear ho20
      obtain ⟨p0, p1, p2, p3, p4, pl⟩ := px20.xbrk
      go_wp2_with fail
      refine (iBreakerPath_any A19 A20 c19 c20 gs ts b _ Ygs20.sees Yts20.sees4 HF_gs.out HF_ts.out).mono ?_
      rintro e w21 ⟨v21, rfl, ho21, hb21⟩
      rw [HV.out] at ho21
      have hB21 := hB20.trans (hb21.mono hB20.size)
      have Z21 := hid hb21.size
      have W21 := W20.below hb21
      have G21 := G20.below hb21
      have Ygs21 := Ygs20.below hb21
      have Yts21 := Yts20.below hb21
      have px21 := px20.below hb21 px20.lt
      have H21_gs := (h_gs.below hB21).more hB21.size
      have H21_ts := (h_ts.below hB21).more hB21.size
      clear hb21 W20 G20 Ygs20 Yts20 hB20 H20_gs H20_ts px20 p0 p1 p2 p3 p4 pl
      obtain ⟨A21, c21, rfl, hc21, _, s21⟩ := ho21.form4
      have CQ := hid hc21
      have RQ : Hid (∀ k, (Value.slice A21 V.length c21).ownBlock = some k → w20.heap.size ≤ k ∧ k < w21.heap.size) := hid ho21.lt4
      clear hc21 s21
      have Q21 := ho21
      clear ho21
      clear Ygs21 RYgs CYgs
      clear Yts21 RYts CYts
      obtain ⟨p0, p1, p2, p3, p4, pl⟩ := px21.xbrk
      go_wp2_with fail
      refine (eqIntS_same A21 A4 c21 c4 V _ Q21.sees4 W21.sees4 HVn.out).mono ?_
      rintro e w22 ⟨rfl, hb22⟩
      have hB22 := hB21.trans (hb22.mono hB21.size)
      have Z22 := hid hb22.size
      have W22 := W21.below hb22
      have G22 := G21.below hb22
      have Q22 := Q21.below hb22
      have px22 := px21.below hb22 px21.lt
      have H22_gs := (h_gs.below hB22).more hB22.size
      have H22_ts := (h_ts.below hB22).more hB22.size
      clear hb22 W21 G21 Q21 hB21 H21_gs H21_ts px21 p0 p1 p2 p3 p4 pl
      clear Q22 RQ CQ
      obtain ⟨p0, p1, p2, p3, p4, pl⟩ := px22.xbrk
      go_wp2_with fail
      refine (heldIntS_any A8 V.length c8 _ (sees_marks G22) HVn.out).mono ?_
      rintro e w23 ⟨rfl, rfl⟩
      clear p0 p1 p2 p3 p4 pl
      obtain ⟨p0, p1, p2, p3, p4, pl⟩ := px22.xbrk
      go_wp2
      go_ret
      exact ⟨rfl, hB22⟩
end Go.Proofs.Ytkailakeiepkgaa

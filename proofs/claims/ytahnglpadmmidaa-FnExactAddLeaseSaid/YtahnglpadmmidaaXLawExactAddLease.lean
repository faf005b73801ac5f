/-
  The walk of the exact law FnExactAddLease: at every argument it returns true and changes nothing that was there. Conditions: none.
-/
import Derived.Test.YtahnglpadmmidaaXGen
import Derived.Test.YtahnglpadmmidaaLsH
namespace Go.Proofs.Ytahnglpadmmidaa
open Go.RowKit Lse

set_option maxHeartbeats 4000000 in
theorem walkExactAddLease (A : Option Addr) (c : Nat) (l : List L) (x : L) (w : World) (hm : l.length ≤ maxLen) (hc : l.length ≤ c) (h : Sees w w.heap.size A (strip lcells l)) :
    Calls Try.prog 3 #[.slice A l.length c, .agg #[.int .i64 x.c, .int .i64 x.o, .int .i64 x.f, .int .i64 x.u]] w fun e w' => e = .returned (.bool true) ∧ Below w.heap.size w w' := by
  have HM := hid hm
  have HC := hid hc
  clear hm hc
  by_cases hbig : 1048576 < l.length
  · have E : Hid ((if 1048576 < l.length then (-1 : Int) else 1048576 - l.length) = -1) := hid (if_pos hbig)
    go_enter Try.func3, Try.ntmps3
    go_wp2_with fail
    refine (szLeaseS_any A l.length c _ HM.out).mono ?_
    rintro e w1 ⟨he, rfl⟩
    rw [E.out] at he
    subst he
    go_wp2
    go_ret
    exact ⟨rfl, (Below.refl _ _).alloc (Nat.le_refl _) _⟩
  · have E : Hid ((if 1048576 < l.length then (-1 : Int) else 1048576 - l.length) = 1048576 - l.length) := hid (if_neg hbig)
    have HN := hid (show l.length ≤ 1048576 by omega)
    have HN4 := hid (show l.length ≤ 4194304 by omega)
    have hle : ¬ (1048576 : Int) - (l.length : Int) < 0 := by omega
    have hB0 := (Below.refl w.heap.size w).alloc (Nat.le_refl _) (.cells #[.int .i64 x.c, .int .i64 x.o, .int .i64 x.f, .int .i64 x.u] 24)
    have H0 := (h.below hB0).more hB0.size
    have P0 := At.new w 24 #[.int .i64 x.c, .int .i64 x.o, .int .i64 x.f, .int .i64 x.u]
    go_enter Try.func3, Try.ntmps3
    go_wp2_with fail
    refine (szLeaseS_any A l.length c _ HM.out).mono ?_
    rintro e w' ⟨he, rfl⟩
    rw [E.out] at he
    subst he
    obtain ⟨V, hV⟩ : ∃ y, y = addL l x := ⟨_, rfl⟩
    have HV : Hid (addL l x = V) := hid hV.symm
    have HVn : Hid (V.length ≤ 4194304) := hid (by rw [hV]; have := addL_len l x; have := HN.out; omega)
    clear hV
    obtain ⟨K, hK⟩ : ∃ y, y = addB l x := ⟨_, rfl⟩
    have HK : Hid (addB l x = K) := hid hK.symm
    clear hK
    have hBd := hB0.drew
    have Hd := (h.below hBd).more hBd.size
    have Pd := P0.drew
    obtain ⟨p0, p1, p2, p3⟩ := (show _ ∧ _ ∧ _ ∧ _ from ⟨P0.cell 0, P0.cell 1, P0.cell 2, P0.cell 3⟩)
    clear hB0 H0 P0 
    go_wp2_with fail
    go_region_held3 (fun w' => w'.cell? ⟨w.heap.size, 0, none⟩ = some (.int .i64 x.c) ∧ w'.cell? ⟨w.heap.size, 1, none⟩ = some (.int .i64 x.o) ∧ w'.cell? ⟨w.heap.size, 2, none⟩ = some (.int .i64 x.f) ∧ w'.cell? ⟨w.heap.size, 3, none⟩ = some (.int .i64 x.u))
      (first | with_reducible exact ⟨p0, p1, p2, p3⟩ | with_reducible exact ⟨q0, q1, q2, q3⟩ | with_reducible exact ⟨r0, r1, r2, r3⟩ | with_reducible exact ⟨s0, s1, s2, s3⟩ | go_keep)
      (first
        | (go_at_call 13; (with_reducible refine (toLeaseS_any A c l _ Hd HN4.out).mono ?_); rintro e w1 ⟨v1, rfl, ho1, hb1⟩; have hB1 := hBd.trans (hb1.mono hBd.size); have Z1 : Hid (w.heap.size + 1 ≤ w1.heap.size) := hid (by simpa using hb1.size); have P1 := Pd.below hb1 Pd.lt; have H1 := (h.below hB1).more hB1.size; obtain ⟨A1, c1, rfl, hc1, _, s1⟩ := ho1.form; have CT := hid hc1; have RT : Hid (∀ k, (Value.slice A1 l.length c1).ownBlock = some k → ((w.alloc (.cells #[.int .i64 x.c, .int .i64 x.o, .int .i64 x.f, .int .i64 x.u] 24))).drew.heap.size ≤ k ∧ k < w1.heap.size) := hid ho1.lt; clear hc1 s1; have T1 := ho1; clear ho1; obtain ⟨q0, q1, q2, q3⟩ := (show _ ∧ _ ∧ _ ∧ _ from ⟨P1.cell 0, P1.cell 1, P1.cell 2, P1.cell 3⟩))
        | (go_at_call 14; (with_reducible refine (toLease_any x _).mono ?_); rintro e w2 ⟨rfl, hb2⟩; have hB2 := hB1.trans (hb2.mono hB1.size); have Z2 := hid hb2.size; have P2 := P1.below hb2 P1.lt; have H2 := (h.below hB2).more hB2.size; have T2 := T1.below hb2; obtain ⟨r0, r1, r2, r3⟩ := (show _ ∧ _ ∧ _ ∧ _ from ⟨P2.cell 0, P2.cell 1, P2.cell 2, P2.cell 3⟩))
        | (go_at_call 12; (with_reducible refine (sAddLease_any A1 c1 l x _ T2.sees (by have := HN.out; omega)).mono ?_); rintro e w3 ⟨v3, he, ho3, hb3⟩; rw [HK.out] at he; subst he; rw [HV.out] at ho3; have hB3 := hB2.trans (hb3.mono hB2.size); have Z3 := hid hb3.size; have P3 := P2.below hb3 P2.lt; have H3 := (h.below hB3).more hB3.size; obtain ⟨A3, c3, rfl, hc3, _, s3⟩ := ho3.form; have CW := hid hc3; have RW : Hid (∀ k, (Value.slice A3 V.length c3).ownBlock = some k → w2.heap.size ≤ k ∧ k < w3.heap.size) := hid ho3.lt; clear hc3 s3; have W3 := ho3; clear ho3; obtain ⟨s0, s1, s2, s3⟩ := (show _ ∧ _ ∧ _ ∧ _ from ⟨P3.cell 0, P3.cell 1, P3.cell 2, P3.cell 3⟩)))
    all_goals
      try clear p0 q0 r0 s0 p1 q1 r1 s1 p2 q2 r2 s2 p3 q3 r3 s3
      clear T1 T2 RT CT hb1 hb2 hb3 Hd Pd hBd P1 P2 H1 H2 hB1 hB2 
      go_wp2_with fail
      refine (toLeaseS_any A c l _ H3 HN4.out).mono ?_
      rintro e w4 ⟨v4, rfl, ho4, hb4⟩
      have hB4 := hB3.trans (hb4.mono hB3.size)
      have Z4 := hid hb4.size
      have W4 := W3.below hb4
      have P4 := P3.below hb4 P3.lt
      have H4 := (h.below hB4).more hB4.size
      clear hb4 W3 hB3 H3 P3
      obtain ⟨A4, c4, rfl, hc4, _, s4⟩ := ho4.form
      have CX := hid hc4
      have RX : Hid (∀ k, (Value.slice A4 l.length c4).ownBlock = some k → w3.heap.size ≤ k ∧ k < w4.heap.size) := hid ho4.lt
      clear hc4 s4
      have X4 := ho4
      clear ho4
      obtain ⟨p0, p1, p2, p3⟩ := (show _ ∧ _ ∧ _ ∧ _ from ⟨P4.cell 0, P4.cell 1, P4.cell 2, P4.cell 3⟩)
      go_wp2_with fail
      refine (toLease_any x _).mono ?_
      rintro e w5 ⟨rfl, hb5⟩
      have hB5 := hB4.trans (hb5.mono hB4.size)
      have Z5 := hid hb5.size
      have W5 := W4.below hb5
      have X5 := X4.below hb5
      have P5 := P4.below hb5 P4.lt
      have H5 := (h.below hB5).more hB5.size
      clear hb5 W4 X4 hB4 H4 P4
      clear p0 p1 p2 p3
      go_wp2_with fail
      refine (iAddLease_any A4 c4 l  x _ X5.sees CX.out HN4.out).mono ?_
      rintro e w6 ⟨v6, he, ho6, hb6⟩
      rw [HK.out] at he
      subst he
      rw [HV.out] at ho6
      have hB6 := hB5.trans (hb6.mono hB5.size)
      have Z6 := hid hb6.size
      have W6 := W5.below hb6
      have X6 := X5.below hb6
      have P6 := P5.below hb6 P5.lt
      have H6 := (h.below hB6).more hB6.size
      clear hb6 W5 X5 hB5 H5 P5
      obtain ⟨A6, c6, rfl, hc6, _, s6⟩ := ho6.form
      have CG := hid hc6
      have RG : Hid (∀ k, (Value.slice A6 V.length c6).ownBlock = some k → w5.heap.size ≤ k ∧ k < w6.heap.size) := hid ho6.lt
      clear hc6 s6
      have G6 := ho6
      clear ho6
      go_wp2_with fail
      refine (eqLeaseS_same A6 A3 c6 c3 V _ G6.sees W6.sees HVn.out).mono ?_
      rintro e w7 ⟨rfl, hb7⟩
      have hB7 := hB6.trans (hb7.mono hB6.size)
      have Z7 := hid hb7.size
      have W7 := W6.below hb7
      have X7 := X6.below hb7
      have G7 := G6.below hb7
      have P7 := P6.below hb7 P6.lt
      have H7 := (h.below hB7).more hB7.size
      clear hb7 W6 X6 G6 hB6 H6 P6
      go_wp2_with fail
      refine (toLeaseS_any A c l _ H7 HN4.out).mono ?_
      rintro e w8 ⟨v8, rfl, ho8, hb8⟩
      have hB8 := hB7.trans (hb8.mono hB7.size)
      have Z8 := hid hb8.size
      have W8 := W7.below hb8
      have X8 := X7.below hb8
      have G8 := G7.below hb8
      have P8 := P7.below hb8 P7.lt
      have H8 := (h.below hB8).more hB8.size
      clear hb8 W7 X7 G7 hB7 H7 P7
      obtain ⟨A8, c8, rfl, hc8, _, s8⟩ := ho8.form
      have CY := hid hc8
      have RY : Hid (∀ k, (Value.slice A8 l.length c8).ownBlock = some k → w7.heap.size ≤ k ∧ k < w8.heap.size) := hid ho8.lt
      clear hc8 s8
      have Y8 := ho8
      clear ho8
      go_wp2_with fail
      refine (eqLeaseS_same A4 A8 c4 c8 l _ X8.sees Y8.sees HN4.out).mono ?_
      rintro e w9 ⟨rfl, hb9⟩
      have hB9 := hB8.trans (hb9.mono hB8.size)
      have Z9 := hid hb9.size
      have W9 := W8.below hb9
      have X9 := X8.below hb9
      have G9 := G8.below hb9
      have Y9 := Y8.below hb9
      have P9 := P8.below hb9 P8.lt
      have H9 := (h.below hB9).more hB9.size
      clear hb9 W8 X8 G8 Y8 hB8 H8 P8
      clear Y9 RY CY
      have hk1 : ¬ (1 : Int) + 4 * (l.length : Int) < 0 := by omega
      have hk2 : ¬ (1 : Int) + 4 * (V.length : Int) < 0 := by omega
      go_wp2_with fail
      refine (markLeaseS_any _ A4 c4 l _ X9 HN4.out).mono ?_
      rintro e w10 ⟨rfl, ho10, hg10⟩
      have hB10 := hB9.grown hg10 hB9.size (fun k hk => Nat.le_trans (by have := Z1.out; have := Z2.out; have := Z3.out; omega) (RX.out k hk).1)
      have Z10 := hid hg10.size
      have H10 := (h.below hB10).more hB10.size
      have W10 := W9.kept hg10 (apart2 RW.out RX.out (Or.inl (by omega)))
      have G10 := G9.kept hg10 (apart2 RG.out RX.out (Or.inr (by have := Z5.out; omega)))
      have P10 := P9.grown hg10 (fun e => by have := (RX.out _ e.symm).1; have := Z1.out; have := Z2.out; have := Z3.out; (try simp at this); omega)
      have X10 := ho10
      clear hg10 ho10 W9 X9 G9 hB9 H9
      clear X10 RX CX
      go_wp2_with fail
      refine (eqLeaseS_same A6 A3 c6 c3 V _ G10.sees W10.sees HVn.out).mono ?_
      rintro e w11 ⟨rfl, hb11⟩
      have hB11 := hB10.trans (hb11.mono hB10.size)
      have Z11 := hid hb11.size
      have W11 := W10.below hb11
      have G11 := G10.below hb11
      have P11 := P10.below hb11 P10.lt
      have H11 := (h.below hB11).more hB11.size
      clear hb11 W10 G10 hB10 H10 P10
      go_wp2_with fail
      refine (markLeaseS_any _ A6 c6 V _ G11 HVn.out).mono ?_
      rintro e w12 ⟨rfl, ho12, hg12⟩
      have hB12 := hB11.grown hg12 hB11.size (fun k hk => Nat.le_trans (by have := Z1.out; have := Z2.out; have := Z3.out; have := Z4.out; have := Z5.out; omega) (RG.out k hk).1)
      have Z12 := hid hg12.size
      have H12 := (h.below hB12).more hB12.size
      have W12 := W11.kept hg12 (apart2 RW.out RG.out (Or.inl (by have := Z4.out; have := Z5.out; omega)))
      have P12 := P11.grown hg12 (fun e => by have := (RG.out _ e.symm).1; have := Z1.out; have := Z2.out; have := Z3.out; have := Z4.out; have := Z5.out; (try simp at this); omega)
      have G12 := ho12
      clear hg12 ho12 W11 G11 hB11 H11
      go_wp2_with fail
      refine (heldLeaseS_any A6 V.length c6 _ (show Sees _ _ A6 (strip lcells (L.marks V.length)) from G12.sees) HVn.out).mono ?_
      rintro e w13 ⟨rfl, rfl⟩
      have hBd := hB12.drew
      have Hd := (h.below hBd).more hBd.size
      have Pd := P12.drew
      have Wd := W12.drew
      have Gd := G12.drew
      obtain ⟨p0, p1, p2, p3⟩ := (show _ ∧ _ ∧ _ ∧ _ from ⟨P12.cell 0, P12.cell 1, P12.cell 2, P12.cell 3⟩)
      clear hB12 H12 P12 W12 G12
      go_wp2_with fail
      go_region_held3 (fun w' => w'.cell? ⟨w.heap.size, 0, none⟩ = some (.int .i64 x.c) ∧ w'.cell? ⟨w.heap.size, 1, none⟩ = some (.int .i64 x.o) ∧ w'.cell? ⟨w.heap.size, 2, none⟩ = some (.int .i64 x.f) ∧ w'.cell? ⟨w.heap.size, 3, none⟩ = some (.int .i64 x.u))
        (first | with_reducible exact ⟨p0, p1, p2, p3⟩ | with_reducible exact ⟨q0, q1, q2, q3⟩ | with_reducible exact ⟨r0, r1, r2, r3⟩ | with_reducible exact ⟨s0, s1, s2, s3⟩ | go_keep)
        (first
          | (go_at_call 13; (with_reducible refine (toLeaseS_any A c l _ Hd HN4.out).mono ?_); rintro e w13 ⟨v13, rfl, ho13, hb13⟩; have hB13 := hBd.trans (hb13.mono hBd.size); have Z13 := hid (show w12.heap.size ≤ w13.heap.size from hb13.size); have P13 := Pd.below hb13 Pd.lt; have H13 := (h.below hB13).more hB13.size; have W13 := Wd.below hb13; have G13 := Gd.below hb13; obtain ⟨A13, c13, rfl, hc13, _, s13⟩ := ho13.form; have CT := hid hc13; have RT : Hid (∀ k, (Value.slice A13 l.length c13).ownBlock = some k → w12.drew.heap.size ≤ k ∧ k < w13.heap.size) := hid ho13.lt; clear hc13 s13; have T13 := ho13; clear ho13; obtain ⟨q0, q1, q2, q3⟩ := (show _ ∧ _ ∧ _ ∧ _ from ⟨P13.cell 0, P13.cell 1, P13.cell 2, P13.cell 3⟩))
          | (go_at_call 14; (with_reducible refine (toLease_any x _).mono ?_); rintro e w14 ⟨rfl, hb14⟩; have hB14 := hB13.trans (hb14.mono hB13.size); have Z14 := hid hb14.size; have P14 := P13.below hb14 P13.lt; have H14 := (h.below hB14).more hB14.size; have W14 := W13.below hb14; have G14 := G13.below hb14; have T14 := T13.below hb14; obtain ⟨r0, r1, r2, r3⟩ := (show _ ∧ _ ∧ _ ∧ _ from ⟨P14.cell 0, P14.cell 1, P14.cell 2, P14.cell 3⟩))
          | (go_at_call 15; (with_reducible refine (iAddLease_any A13 c13 l x _ T14.sees CT.out HN4.out).mono ?_); rintro e w15 ⟨v15, he, ho15, hb15⟩; rw [HK.out] at he; subst he; rw [HV.out] at ho15; have hB15 := hB14.trans (hb15.mono hB14.size); have Z15 := hid hb15.size; have P15 := P14.below hb15 P14.lt; have H15 := (h.below hB15).more hB15.size; have W15 := W14.below hb15; have G15 := G14.below hb15; obtain ⟨A15, c15, rfl, hc15, _, s15⟩ := ho15.form; have CQ := hid hc15; have RQ : Hid (∀ k, (Value.slice A15 V.length c15).ownBlock = some k → w14.heap.size ≤ k ∧ k < w15.heap.size) := hid ho15.lt; clear hc15 s15; have Q15 := ho15; clear ho15; obtain ⟨s0, s1, s2, s3⟩ := (show _ ∧ _ ∧ _ ∧ _ from ⟨P15.cell 0, P15.cell 1, P15.cell 2, P15.cell 3⟩)))
      all_goals
        try clear p0 q0 r0 s0 p1 q1 r1 s1 p2 q2 r2 s2 p3 q3 r3 s3
        clear T13 T14 RT CT hb13 hb14 hb15 Hd Pd hBd P13 P14 H13 H14 hB13 hB14 Wd W13 W14 Gd G13 G14
        go_wp2_with fail
        refine (eqLeaseS_same A15 A3 c15 c3 V _ Q15.sees W15.sees HVn.out).mono ?_
        rintro e w16 ⟨rfl, hb16⟩
        have hB16 := hB15.trans (hb16.mono hB15.size)
        have Z16 := hid hb16.size
        have W16 := W15.below hb16
        have G16 := G15.below hb16
        have Q16 := Q15.below hb16
        have P16 := P15.below hb16 P15.lt
        have H16 := (h.below hB16).more hB16.size
        clear hb16 W15 G15 Q15 hB15 H15 P15
        clear Q16 RQ CQ
        go_wp2_with fail
        refine (heldLeaseS_any A6 V.length c6 _ (show Sees _ _ A6 (strip lcells (L.marks V.length)) from G16.sees) HVn.out).mono ?_
        rintro e w17 ⟨rfl, rfl⟩
        go_wp2
        go_ret
        exact ⟨rfl, hB16⟩
end Go.Proofs.Ytahnglpadmmidaa

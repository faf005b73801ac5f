/-
  The walk of the law FnCleanUp: at every code it returns true and changes nothing that was there. Conditions: none.
-/
import Derived.Test.YtocaddibdiikpaaLawNsB
import Derived.Test.YtocaddibdiikpaaLawFrame
import Derived.BigQuiet

namespace Go.Proofs.Ytocaddibdiikpaa
open Go.RowKit Nes

set_option maxHeartbeats 8000000 in
theorem walkCleanUp (a : Option Addr) (len cap : Nat) (zs : List Int) (w : World) (hn : zs.length = len) (hc : len ≤ cap) (hcc : cap ≤ maxLen) (h : Sees w w.heap.size a (byts zs)) (hz : ∀ y ∈ zs, 0 ≤ y ∧ y ≤ 255) :
    Calls Try.prog 10 #[.slice a len cap] w fun e w' => e = .returned (.bool true) ∧ Below w.heap.size w w' := by
  have HE := hid hn
  have HC := hid hcc
  have HZ := hid hz
  clear hn hcc hz
  by_cases hbig : 1048576 < len
  · go_enter Try.func10, Try.ntmps10
    go_wp2
    go_ret
    exact ⟨rfl, Below.refl _ _⟩
  · go_enter Try.func10, Try.ntmps10
    go_wp2_with fail
    refine (drawCleanUp_any _ _ _ _ _ h HZ.out HE.out hc (by omega) HC.out).mono ?_
    rintro e w2 ⟨B, d, C, rfl, dl⟩
    have hs := dl.sees
    have HB2 := hid dl.bel
    have hB0 := Below.refl w2.heap.size w2
    obtain ⟨X, hX⟩ : ∃ X, X = cleanL C := ⟨_, rfl⟩
    have EX : Hid (cleanL C = X) := hid hX.symm
    have HX4 := hid (show X.length ≤ 4 by rw [hX]; exact clean_len C)
    have HX3 := hid (Nat.le_trans HX4.out (by decide) : X.length ≤ 4194304)
    have HXA := hid (fun (k : Nat) (h : k < X.length) => (show X[k] = 4 by subst hX; exact clean_at h))
    have HSZ := hid (fun (h : nestB C = true) => (show (X.length : Int) = C.d by rw [hX]; exact clean_size h))
    clear hX
    rcases hv : nestB C with _ | _
    · skip
      have HV := hid hv
      clear hv
      have hB1 := hB0.alloc hB0.size (.cells #[.int .i64 C.d, .int .i64 C.w, .slice B C.m.length d, .bool C.b] 25)
      clear hB0
      have xa2 : At (w2.alloc (.cells #[.int .i64 C.d, .int .i64 C.w, .slice B C.m.length d, .bool C.b] 25)) (w2.heap.size) 25 #[.int .i64 C.d, .int .i64 C.w, .slice B C.m.length d, .bool C.b] := At.newAt _ _ (by first | rfl | (simp; done) | (simp; omega))
      obtain ⟨xa_0, xa_1, xa_2, xa_3, xa_l, xa_f⟩ := (⟨xa2.cell 0, xa2.cell 1, xa2.cell 2, xa2.cell 3, xa2.lt, xa2.frozen⟩ : _ ∧ _ ∧ _ ∧ _ ∧ _ ∧ _)
      go_wp2_with fail
      with_reducible refine (iCleanUp_any C B d _ (hs.on hB1) dl.cap dl.n4).mono ?_
      rintro e w3 ⟨v3, rfl, ho3, hb3⟩
      rw [EX.out] at ho3
      obtain ⟨A3, c3, rfl, _⟩ := ho3.form
      have sz3 : w2.heap.size + 1 ≤ w3.heap.size := Nat.le_trans (by first | exact Nat.le_refl _ | (simp; done) | (simp; omega)) (hb3.size)
      have hB3 := hB1.trans (hb3.mono hB1.size)
      have xa4 := xa2.below hb3 xa2.lt
      clear hB1 xa2
      clear xa_0 xa_1 xa_2 xa_3 xa_l xa_f
      have u5 : Own w3 w2.heap.size (.slice A3 X.length c3) X := ho3.mono (by first | omega | (simp; omega) | (simp; done))
      clear ho3
      obtain ⟨xa_0, xa_1, xa_2, xa_3, xa_l, xa_f⟩ := (⟨xa4.cell 0, xa4.cell 1, xa4.cell 2, xa4.cell 3, xa4.lt, xa4.frozen⟩ : _ ∧ _ ∧ _ ∧ _ ∧ _ ∧ _)
      go_wp2_with fail
      with_reducible refine (sCleanUp_any C B d _ (hs.on hB3) dl.n4).mono ?_
      rintro e w4 ⟨v4, rfl, ho4, hb4⟩
      rw [EX.out] at ho4
      obtain ⟨A4, c4, rfl, _⟩ := ho4.form
      have sz4 : w3.heap.size ≤ w4.heap.size := Nat.le_trans (by first | exact Nat.le_refl _ | (simp; done) | (simp; omega)) (hb4.size)
      have hB6 := hB3.trans (hb4.mono hB3.size)
      have xa7 := xa4.below hb4 xa4.lt
      have u8 := u5.below hb4
      clear hB3 xa4 u5
      clear xa_0 xa_1 xa_2 xa_3 xa_l xa_f
      have v9 : Own w4 w2.heap.size (.slice A4 X.length c4) X := ho4.mono (by first | omega | (simp; omega) | (simp; done))
      clear ho4
      obtain ⟨xa_0, xa_1, xa_2, xa_3, xa_l, xa_f⟩ := (⟨xa7.cell 0, xa7.cell 1, xa7.cell 2, xa7.cell 3, xa7.lt, xa7.frozen⟩ : _ ∧ _ ∧ _ ∧ _ ∧ _ ∧ _)
      go_wp2_with fail
      with_reducible refine (equalIntsN_same A3 A4 c3 c4 X _ u8.seesN' v9.seesN' HX3.out).mono ?_
      rintro e w5 ⟨rfl, hb5⟩
      have sz5 : w4.heap.size ≤ w5.heap.size := Nat.le_trans (by first | exact Nat.le_refl _ | (simp; done) | (simp; omega)) (hb5.size)
      have hB10 := hB6.trans (hb5.mono hB6.size)
      have xa11 := xa7.below hb5 xa7.lt
      have u12 := u8.below hb5
      have v13 := v9.below hb5
      clear hB6 xa7 u8 v9
      clear xa_0 xa_1 xa_2 xa_3 xa_l xa_f
      obtain ⟨xa_0, xa_1, xa_2, xa_3, xa_l, xa_f⟩ := (⟨xa11.cell 0, xa11.cell 1, xa11.cell 2, xa11.cell 3, xa11.lt, xa11.frozen⟩ : _ ∧ _ ∧ _ ∧ _ ∧ _ ∧ _)
      go_wp2_with fail
      with_reducible refine (iValidNest_any C B d _ (hs.on hB10) dl.cap dl.n4).mono ?_
      rintro e w6 ⟨he, hb6⟩
      rw [HV.out] at he
      subst he
      have sz6 : w5.heap.size ≤ w6.heap.size := Nat.le_trans (by first | exact Nat.le_refl _ | (simp; done) | (simp; omega)) (hb6.size)
      have hB14 := hB10.trans (hb6.mono hB10.size)
      have xa15 := xa11.below hb6 xa11.lt
      have u16 := u12.below hb6
      have v17 := v13.below hb6
      clear hB10 xa11 u12 v13
      clear xa_0 xa_1 xa_2 xa_3 xa_l xa_f
      obtain ⟨xa_0, xa_1, xa_2, xa_3, xa_l, xa_f⟩ := (⟨xa15.cell 0, xa15.cell 1, xa15.cell 2, xa15.cell 3, xa15.lt, xa15.frozen⟩ : _ ∧ _ ∧ _ ∧ _ ∧ _ ∧ _)
      go_wp2_with fail
      with_reducible refine (sCleanUp_any C B d _ (hs.on hB14) dl.n4).mono ?_
      rintro e w7 ⟨v7, rfl, ho7, hb7⟩
      rw [EX.out] at ho7
      obtain ⟨A7, c7, rfl, _⟩ := ho7.form
      have sz7 : w6.heap.size ≤ w7.heap.size := Nat.le_trans (by first | exact Nat.le_refl _ | (simp; done) | (simp; omega)) (hb7.size)
      have hB18 := hB14.trans (hb7.mono hB14.size)
      have xa19 := xa15.below hb7 xa15.lt
      have u20 := u16.below hb7
      have v21 := v17.below hb7
      clear hB14 xa15 u16 v17
      clear xa_0 xa_1 xa_2 xa_3 xa_l xa_f
      have z22 : Own w7 w2.heap.size (.slice A7 X.length c7) X := ho7.mono (by first | omega | (simp; omega) | (simp; done))
      clear ho7
      obtain ⟨xa_0, xa_1, xa_2, xa_3, xa_l, xa_f⟩ := (⟨xa19.cell 0, xa19.cell 1, xa19.cell 2, xa19.cell 3, xa19.lt, xa19.frozen⟩ : _ ∧ _ ∧ _ ∧ _ ∧ _ ∧ _)
      go_wp2_with fail
      with_reducible refine (equalIntsN_same A3 A7 c3 c7 X _ u20.seesN' z22.seesN' HX3.out).mono ?_
      rintro e w8 ⟨rfl, hb8⟩
      have sz8 : w7.heap.size ≤ w8.heap.size := Nat.le_trans (by first | exact Nat.le_refl _ | (simp; done) | (simp; omega)) (hb8.size)
      have hB23 := hB18.trans (hb8.mono hB18.size)
      have xa24 := xa19.below hb8 xa19.lt
      have u25 := u20.below hb8
      have v26 := v21.below hb8
      have z27 := z22.below hb8
      clear hB18 xa19 u20 v21 z22
      clear xa_0 xa_1 xa_2 xa_3 xa_l xa_f
      obtain ⟨xa_0, xa_1, xa_2, xa_3, xa_l, xa_f⟩ := (⟨xa24.cell 0, xa24.cell 1, xa24.cell 2, xa24.cell 3, xa24.lt, xa24.frozen⟩ : _ ∧ _ ∧ _ ∧ _ ∧ _ ∧ _)
      go_wp2
      go_ret
      exact ⟨by first | rfl | (simp; done) | (simp; omega), HB2.out.trans (hB23.mono HB2.out.size)⟩
    · skip
      have HOK := hid (nestB_iff.1 hv)
      have HSZ2 := hid (HSZ.out hv)
      have HV := hid hv
      clear hv
      have sf0 : SeesF w2 (fun q => w2.heap.size ≤ q) B (ints C.m) := SeesF.of_sees hs (Nat.le_refl _) (fun b hb e => by omega)
      have SF0 := hid sf0
      clear sf0
      have hB28 := hB0.alloc hB0.size (.cells #[.int .i64 C.d, .int .i64 C.w, .slice B C.m.length d, .bool C.b] 25)
      clear hB0
      have xa29 : At (w2.alloc (.cells #[.int .i64 C.d, .int .i64 C.w, .slice B C.m.length d, .bool C.b] 25)) (w2.heap.size) 25 #[.int .i64 C.d, .int .i64 C.w, .slice B C.m.length d, .bool C.b] := At.newAt _ _ (by first | rfl | (simp; done) | (simp; omega))
      obtain ⟨xa_0, xa_1, xa_2, xa_3, xa_l, xa_f⟩ := (⟨xa29.cell 0, xa29.cell 1, xa29.cell 2, xa29.cell 3, xa29.lt, xa29.frozen⟩ : _ ∧ _ ∧ _ ∧ _ ∧ _ ∧ _)
      go_wp2_with fail
      with_reducible refine (iCleanUp_any C B d _ (hs.on hB28) dl.cap dl.n4).mono ?_
      rintro e w3 ⟨v3, rfl, ho3, hb3⟩
      rw [EX.out] at ho3
      obtain ⟨A3, c3, rfl, _⟩ := ho3.form
      have sz3 : w2.heap.size + 1 ≤ w3.heap.size := Nat.le_trans (by first | exact Nat.le_refl _ | (simp; done) | (simp; omega)) (hb3.size)
      have hB30 := hB28.trans (hb3.mono hB28.size)
      have xa31 := xa29.below hb3 xa29.lt
      clear hB28 xa29
      clear xa_0 xa_1 xa_2 xa_3 xa_l xa_f
      have u32 : Own w3 w2.heap.size (.slice A3 X.length c3) X := ho3.mono (by first | omega | (simp; omega) | (simp; done))
      clear ho3
      obtain ⟨xa_0, xa_1, xa_2, xa_3, xa_l, xa_f⟩ := (⟨xa31.cell 0, xa31.cell 1, xa31.cell 2, xa31.cell 3, xa31.lt, xa31.frozen⟩ : _ ∧ _ ∧ _ ∧ _ ∧ _ ∧ _)
      go_wp2_with fail
      with_reducible refine (sCleanUp_any C B d _ (hs.on hB30) dl.n4).mono ?_
      rintro e w4 ⟨v4, rfl, ho4, hb4⟩
      rw [EX.out] at ho4
      obtain ⟨A4, c4, rfl, _⟩ := ho4.form
      have sz4 : w3.heap.size ≤ w4.heap.size := Nat.le_trans (by first | exact Nat.le_refl _ | (simp; done) | (simp; omega)) (hb4.size)
      have hB33 := hB30.trans (hb4.mono hB30.size)
      have xa34 := xa31.below hb4 xa31.lt
      have u35 := u32.below hb4
      clear hB30 xa31 u32
      clear xa_0 xa_1 xa_2 xa_3 xa_l xa_f
      have v36 : Own w4 w2.heap.size (.slice A4 X.length c4) X := ho4.mono (by first | omega | (simp; omega) | (simp; done))
      clear ho4
      obtain ⟨xa_0, xa_1, xa_2, xa_3, xa_l, xa_f⟩ := (⟨xa34.cell 0, xa34.cell 1, xa34.cell 2, xa34.cell 3, xa34.lt, xa34.frozen⟩ : _ ∧ _ ∧ _ ∧ _ ∧ _ ∧ _)
      go_wp2_with fail
      with_reducible refine (equalIntsN_same A3 A4 c3 c4 X _ u35.seesN' v36.seesN' HX3.out).mono ?_
      rintro e w5 ⟨rfl, hb5⟩
      have sz5 : w4.heap.size ≤ w5.heap.size := Nat.le_trans (by first | exact Nat.le_refl _ | (simp; done) | (simp; omega)) (hb5.size)
      have hB37 := hB33.trans (hb5.mono hB33.size)
      have xa38 := xa34.below hb5 xa34.lt
      have u39 := u35.below hb5
      have v40 := v36.below hb5
      clear hB33 xa34 u35 v36
      clear xa_0 xa_1 xa_2 xa_3 xa_l xa_f
      obtain ⟨xa_0, xa_1, xa_2, xa_3, xa_l, xa_f⟩ := (⟨xa38.cell 0, xa38.cell 1, xa38.cell 2, xa38.cell 3, xa38.lt, xa38.frozen⟩ : _ ∧ _ ∧ _ ∧ _ ∧ _ ∧ _)
      go_wp2_with fail
      with_reducible refine (iValidNest_any C B d _ (hs.on hB37) dl.cap dl.n4).mono ?_
      rintro e w6 ⟨he, hb6⟩
      rw [HV.out] at he
      subst he
      have sz6 : w5.heap.size ≤ w6.heap.size := Nat.le_trans (by first | exact Nat.le_refl _ | (simp; done) | (simp; omega)) (hb6.size)
      have hB41 := hB37.trans (hb6.mono hB37.size)
      have xa42 := xa38.below hb6 xa38.lt
      have u43 := u39.below hb6
      have v44 := v40.below hb6
      clear hB37 xa38 u39 v40
      clear xa_0 xa_1 xa_2 xa_3 xa_l xa_f
      clear v44
      obtain ⟨xa_0, xa_1, xa_2, xa_3, xa_l, xa_f⟩ := (⟨xa42.cell 0, xa42.cell 1, xa42.cell 2, xa42.cell 3, xa42.lt, xa42.frozen⟩ : _ ∧ _ ∧ _ ∧ _ ∧ _ ∧ _)
      have hB45 := hB41.alloc hB41.size (.cells #[.int .i64 C.d, .int .i64 C.w, .slice B C.m.length d, .bool C.b] 25)
      have xa46 := xa42.alloc (.cells #[.int .i64 C.d, .int .i64 C.w, .slice B C.m.length d, .bool C.b] 25)
      have u47 := u43.alloc4 (.cells #[.int .i64 C.d, .int .i64 C.w, .slice B C.m.length d, .bool C.b] 25)
      clear hB41 xa42 u43
      have xw48 : At (w6.alloc (.cells #[.int .i64 C.d, .int .i64 C.w, .slice B C.m.length d, .bool C.b] 25)) (w6.heap.size) 25 #[.int .i64 C.d, .int .i64 C.w, .slice B C.m.length d, .bool C.b] := At.newAt _ _ (by first | rfl | (simp; done) | (simp; omega))
      have sf1 : SeesF (w6.alloc (.cells #[.int .i64 C.d, .int .i64 C.w, .slice B C.m.length d, .bool C.b] 25)) (fun q => q = w6.heap.size) B (ints C.m) := (SF0.out.below hB45).imp (fun b _ e => by subst e; have := hB45.size; first | omega | (simp at this ⊢; omega))
      have Hxa := hid xa46
      have Hxw := hid xw48
      have Hu := hid u47
      have HhB := hid hB45
      have HS1 := hid sf1
      clear xa46 xw48 u47 hB45 sf1
      obtain ⟨gn, hgn⟩ : ∃ gn, gn = w6.heap.size := ⟨_, rfl⟩
      obtain ⟨ga, hga⟩ : ∃ ga, ga = w2.heap.size := ⟨_, rfl⟩
      have hgan : ga < gn := by omega
      have HGN := hid hgn
      have HGA := hid hga
      clear hgn hga
      go_wp2_with fail
      go_loopw [6] (fun i wr => ∃ (k : Nat) (A9 : Option Addr) (c9 : Nat), k ≤ X.length ∧ i = .int .i64 k ∧ At wr (w2.heap.size) 25 #[.int .i64 C.d, .int .i64 C.w, .slice B C.m.length d, .bool C.b] ∧ At wr (w6.heap.size) 25 #[.int .i64 (backs C k).d, .int .i64 (backs C k).w, .slice A9 (backs C k).m.length c9, .bool (backs C k).b] ∧ SeesF wr (fun q => q = w6.heap.size) A9 (ints (backs C k).m) ∧ (backs C k).m.length ≤ c9 ∧ Own wr w2.heap.size (.slice A3 X.length c3) X ∧ Below w2.heap.size w2 wr) (fun i _ => X.length - (intOf i).toNat)
      case atStart => exact ⟨0, B, d, Nat.zero_le _, rfl, Hxa.out, Hxw.out, HS1.out, dl.cap, Hu.out, HhB.out⟩
      case round =>
        clear xa_0 xa_1 xa_2 xa_3 xa_l xa_f
        obtain ⟨k, A9, c9, hk, rfl, ra, rn, rs, rc, ru, rb⟩ := hrel
        by_cases hkl : k < X.length
        · skip
          have hki : (k : Int) < (X.length : Int) := by omega
          obtain ⟨b, o, rfl, hbn, hcx⟩ := ru.seesN'.int hkl
          rw [HXA.out k hkl] at hcx
          have HKL := hid hkl
          obtain ⟨e4, e5⟩ := backs_step HOK.out (k := k) (by rw [← HSZ2.out]; exact hki)
          obtain ⟨e6, e7⟩ := backs_ok HOK.out k (by rw [← HSZ2.out]; omega)
          have e8 := ok_len e6
          clear e6 e7
          obtain ⟨S, hS⟩ : ∃ S, S = backs C k := ⟨_, rfl⟩
          obtain ⟨R, hR⟩ : ∃ R, R = backs C (k + 1) := ⟨_, rfl⟩
          rw [← hS] at e4 e5 e8 rn rs rc
          rw [← hR] at e5
          have E4 := hid e4
          have ER := hid e5
          have HR := hid hR
          have HSl := hid (Nat.le_trans e8 (by decide) : S.m.length ≤ 4194304)
          have RC := hid rc
          clear hS hR e4 e5 e8 rc hkl
          have xa49 := ra
          clear ra
          have xw50 := rn
          clear rn
          have u51 := ru
          clear ru
          have hB52 := rb
          clear rb
          obtain ⟨wq, hwq⟩ : ∃ wq, wq = wr := ⟨_, rfl⟩
          rw [← hwq] at xa49 xw50 u51 hB52 hcx hbn rs
          have q_xa : w2.heap.size < wq.heap.size := xa49.lt
          have q_xw : w6.heap.size < wq.heap.size := xw50.lt
          have xa_d := xa49.drew
          have xw_d := xw50.drew
          have u_d := u51.drew4
          have hB_d := hB52.drew
          obtain ⟨xa_0, xa_1, xa_2, xa_3, xa_l, xa_f⟩ := (⟨xa49.cell 0, xa49.cell 1, xa49.cell 2, xa49.cell 3, xa49.lt, xa49.frozen⟩ : _ ∧ _ ∧ _ ∧ _ ∧ _ ∧ _)
          obtain ⟨xw_0, xw_1, xw_2, xw_3, xw_l, xw_f⟩ := (⟨xw50.cell 0, xw50.cell 1, xw50.cell 2, xw50.cell 3, xw50.lt, xw50.frozen⟩ : _ ∧ _ ∧ _ ∧ _ ∧ _ ∧ _)
          have ne_xa_xw_ : ¬ w2.heap.size = w6.heap.size := by omega
          have ne_xw_xa_ : ¬ w6.heap.size = w2.heap.size := by omega
          go_upto_region 11 with fail
          rw [← hwq]
          have HWQ := hid hwq
          clear hwq
          go_cut [7, 8] from 38 to 45 (fun v7 v8 wx => ∃ (g8 : Nat) (Aa : Option Addr) (ca : Nat), v7 = .pointer (some ⟨g8, 0, none⟩) ∧ v8 = .bool true ∧ At wx g8 25 #[.int .i64 R.d, .int .i64 R.w, .slice Aa R.m.length ca, .bool R.b] ∧ wq.heap.size ≤ g8 ∧ OwnM wx (wq.heap.size) Aa ca R ∧ At wx (w2.heap.size) 25 #[.int .i64 C.d, .int .i64 C.w, .slice B C.m.length d, .bool C.b] ∧ At wx (w6.heap.size) 25 #[.int .i64 S.d, .int .i64 S.w, .slice A9 S.m.length c9, .bool S.b] ∧ Own wx w2.heap.size (.slice (some ⟨b, o, none⟩) X.length c3) X ∧ Below w2.heap.size w2 wx)
          case first =>
            have nz1 : ¬ w6.heap.size = wq.heap.size := by have := xw50.lt; omega
            have nz2 : ¬ wq.heap.size = w6.heap.size := by omega
            have nz3 : ¬ b = wq.heap.size := by omega
            have nz4 : ¬ wq.heap.size = b := by omega
            go_region_held3 (fun w' => w'.cell? ⟨w6.heap.size, 0, none⟩ = some (.int .i64 S.d) ∧ w'.cell? ⟨w6.heap.size, 1, none⟩ = some (.int .i64 S.w) ∧ w'.cell? ⟨w6.heap.size, 2, none⟩ = some (.slice A9 S.m.length c9) ∧ w'.cell? ⟨w6.heap.size, 3, none⟩ = some (.bool S.b) ∧ w'.cell? ⟨b, o + k, none⟩ = some (.int .i64 4))
              (first | with_reducible exact ⟨xw_0, xw_1, xw_2, xw_3, hcx⟩ | with_reducible exact ⟨a0, a1, a2, a3, hca⟩ | go_keep)
              (first
                | (go_at_call 13; (with_reducible refine (iStepNest_any S _ A9 c9 _ (by first | exact rs.drew.seesM | exact (rs.alloc _).drew.seesM) RC.out HSl.out).mono ?_); rintro e wa hq9; obtain ⟨Aa, ca, he, hoa, hba⟩ := hq9; rw [ER.out, E4.out] at he; rw [ER.out] at hoa; subst he; have xa_a := (by first | exact xa_d.below hba xa_d.lt | exact ((xa49.alloc _).drew).below hba ((xa49.alloc _).drew).lt : At wa (w2.heap.size) 25 #[.int .i64 C.d, .int .i64 C.w, .slice B C.m.length d, .bool C.b]); have xw_a := (by first | exact xw_d.below hba xw_d.lt | exact ((xw50.alloc _).drew).below hba ((xw50.alloc _).drew).lt : At wa (w6.heap.size) 25 #[.int .i64 S.d, .int .i64 S.w, .slice A9 S.m.length c9, .bool S.b]); have u_a := (by first | exact u_d.below hba | exact ((u51.alloc4 _).drew4).below hba : Own wa w2.heap.size (.slice (some ⟨b, o, none⟩) X.length c3) X); have hB_a := (by first | exact hB_d.trans (hba.mono hB_d.size) | exact ((hB52.alloc hB52.size _).drew).trans (hba.mono ((hB52.alloc hB52.size _).drew).size) : Below w2.heap.size w2 wa); have hoam := (by first | exact OwnM.mono hoa (Nat.le_refl _) | exact OwnM.mono hoa (Nat.le_of_lt (by simp)) : OwnM wa (wq.heap.size) Aa ca R); have hza := (by first | exact hba.size | exact Nat.le_trans (Nat.le_of_lt (by simp)) hba.size : wq.heap.size ≤ wa.heap.size); have hca := ((by have hh := Sees.cellAt u_a.seesN' HKL.out; rw [HXA.out k HKL.out] at hh; exact hh) : wa.cell? ⟨b, o + k, none⟩ = some (.int .i64 4)); obtain ⟨a0, a1, a2, a3, al, af⟩ := xw_a.four; have na1 : ¬ w6.heap.size = wa.heap.size := Nat.ne_of_lt al; have na2 : ¬ wa.heap.size = w6.heap.size := fun e => Nat.ne_of_lt al e.symm; have nb1 : ¬ b = wa.heap.size := Nat.ne_of_lt (Nat.lt_of_lt_of_le hbn hza); have nb2 : ¬ wa.heap.size = b := fun e => nb1 e.symm; (try have pza := ((At.newAt 25 #[.int .i64 0, .int .i64 0, .slice none 0 0, .bool false] rfl).drew : At ((wq.alloc (.cells #[.int .i64 0, .int .i64 0, .slice none 0 0, .bool false] 25)).drew) wq.heap.size 25 #[.int .i64 0, .int .i64 0, .slice none 0 0, .bool false]).below hba (by simp)); (try have pzc := pza.cell); (try have pzf := pza.frozen))
                | fail)
            all_goals
              go_wp2_with fail
              clear a0 a1 a2 a3 af
              go_meet
              first
                | (obtain ⟨hp8, hg8⟩ := four_put (.int .i64 R.d) (.int .i64 R.w) (.slice Aa R.m.length ca) (.bool R.b) pza rfl
                   exact ⟨_, _, _, rfl, rfl, hp8, Nat.le_refl _, hoam.past4 pza hg8, xa_a.past hg8 (by have := xa49.lt; omega), xw_a.past hg8 (by have := xw50.lt; omega), row_past u_a.out pza (by decide) hg8, below_put hB_a hg8 (by have := hB52.size; omega) hB_a.size⟩)
                | exact ⟨_, _, _, rfl, rfl, At.newAt _ _ rfl, hza, hoam.alloc _, xa_a.alloc _, xw_a.alloc _, u_a.alloc4 _, hB_a.alloc hB_a.size _⟩
          case rest =>
            obtain ⟨g8, Aa, ca, rfl, rfl, pn8, hge8, po8, xa_c, xw_c, u_c, hB_c⟩ := hcut
            clear xa_d xw_d u_d hB_d xa49 xw50 u51 hB52 xa_0 xa_1 xa_2 xa_3 xa_l xa_f xw_0 xw_1 xw_2 xw_3 xw_l xw_f ne_xa_xw_ ne_xw_xa_
            have xa53 := xa_c
            clear xa_c
            have xw54 := xw_c
            clear xw_c
            have u55 := u_c
            clear u_c
            have hB56 := hB_c
            clear hB_c
            have xn57 := pn8
            clear pn8
            have szc : g8 < wc.heap.size := xn57.lt
            obtain ⟨hp9, hg9⟩ := four_put (.int .i64 R.d) (.int .i64 R.w) (.slice Aa R.m.length ca) (.bool R.b) xw54 rfl
            have fa := xa53.past hg9 (by omega)
            have fu : Own _ w2.heap.size (.slice (some ⟨b, o, none⟩) X.length c3) X := row_past u55.out xw54 (by decide) hg9
            have fb := below_put hB56 hg9 (by first | omega | (have := HhB.out.size; simp at this; omega)) hB56.size
            have fo := po8.past4 xw54 hg9
            have hge9 := hge8
            have fs := SeesF.of_row (F := fun q => q = w6.heap.size) fo.out (fun b hb _ e => by subst e; omega)
            have fc := fo.cap
            have FA := hid fa
            have FU := hid fu
            have FB := hid fb
            have FS := hid fs
            have FC := hid fc
            have FP := hid hp9
            clear fa fu fb fo fs fc hp9 hg9 po8
            obtain ⟨xa_0, xa_1, xa_2, xa_3, xa_l, xa_f⟩ := (⟨xa53.cell 0, xa53.cell 1, xa53.cell 2, xa53.cell 3, xa53.lt, xa53.frozen⟩ : _ ∧ _ ∧ _ ∧ _ ∧ _ ∧ _)
            obtain ⟨xw_0, xw_1, xw_2, xw_3, xw_l, xw_f⟩ := (⟨xw54.cell 0, xw54.cell 1, xw54.cell 2, xw54.cell 3, xw54.lt, xw54.frozen⟩ : _ ∧ _ ∧ _ ∧ _ ∧ _ ∧ _)
            obtain ⟨xn_0, xn_1, xn_2, xn_3, xn_l, xn_f⟩ := (⟨xn57.cell 0, xn57.cell 1, xn57.cell 2, xn57.cell 3, xn57.lt, xn57.frozen⟩ : _ ∧ _ ∧ _ ∧ _ ∧ _ ∧ _)
            have ne_xa_xw_ : ¬ w2.heap.size = w6.heap.size := by omega
            have ne_xw_xa_ : ¬ w6.heap.size = w2.heap.size := by omega
            have ne_xa_xn_ : ¬ w2.heap.size = g8 := by omega
            have ne_xn_xa_ : ¬ g8 = w2.heap.size := by omega
            have ne_xw_xn_ : ¬ w6.heap.size = g8 := by omega
            have ne_xn_xw_ : ¬ g8 = w6.heap.size := by omega
            have hk9 := HKL.out
            have hx9 := HX4.out
            have hkw : IntKind.i64.wrap ((k : Int) + 1) = (k : Int) + 1 := by rw [IntKind.wrap_i64]; omega
            go_wp2
            go_roundw
            case rel => exact ⟨k + 1, Aa, ca, HKL.out, by go_num, FA.out, by rw [← HR.out]; exact FP.out, by rw [← HR.out]; exact FS.out, by rw [← HR.out]; exact FC.out, FU.out, FB.out⟩
            case measure => have := HKL.out; have := HX4.out; simp [intOf]; omega
        · skip
          have hki : ¬ (k : Int) < (X.length : Int) := by omega
          have hke : k = X.length := by omega
          have ez := backs_end HOK.out (k := k) (by rw [hke]; exact HSZ2.out)
          rw [ez] at rn
          have rm : At wr (w6.heap.size) 25 #[.int .i64 0, .int .i64 0, .slice A9 0 c9, .bool false] := rn
          clear rn rs rc ez hke
          have rn := rm
          clear rm
          have hlb : ((X.length : Int) == C.d) = true := by rw [HSZ2.out]; simp
          have xa58 := ra
          clear ra
          have xw59 := rn
          clear rn
          have u60 := ru
          clear ru
          have hB61 := rb
          clear rb
          obtain ⟨xa_0, xa_1, xa_2, xa_3, xa_l, xa_f⟩ := (⟨xa58.cell 0, xa58.cell 1, xa58.cell 2, xa58.cell 3, xa58.lt, xa58.frozen⟩ : _ ∧ _ ∧ _ ∧ _ ∧ _ ∧ _)
          obtain ⟨xw_0, xw_1, xw_2, xw_3, xw_l, xw_f⟩ := (⟨xw59.cell 0, xw59.cell 1, xw59.cell 2, xw59.cell 3, xw59.lt, xw59.frozen⟩ : _ ∧ _ ∧ _ ∧ _ ∧ _ ∧ _)
          have ne_xa_xw_ : ¬ w2.heap.size = w6.heap.size := by omega
          have ne_xw_xa_ : ¬ w6.heap.size = w2.heap.size := by omega
          go_wp2
          go_ret
          exact ⟨by first | rfl | (simp; done) | (simp; omega), HB2.out.trans (hB61.mono HB2.out.size)⟩
end Go.Proofs.Ytocaddibdiikpaa

/-
  The walk of the exact law FnExactParsePool: at every argument it returns true and changes nothing that was there. Conditions: none.
-/
import Derived.Test.YtehdbllpiokbnaaPlU
import Derived.Test.YtehdbllpiokbnaaTxtO
import Derived.Test.YtehdbllpiokbnaaTxtT
import Derived.Deep.RegionHeld3
namespace Go.Proofs.Ytehdbllpiokbnaa
open Go.RowKit Txt Pol

theorem prsP_small (S : List UInt8) : (prsP S).idle.length ≤ 6 ∧ (prsP S).held.length ≤ 6 ∧ (prsP S).wait.length ≤ 12 := by
  rcases h : prsB S with _ | _
  · rw [prsP_no h]; exact ⟨Nat.zero_le _, Nat.zero_le _, Nat.zero_le _⟩
  · exact (poT_prsP h).2.small
set_option maxHeartbeats 16000000 in
theorem walkExactParsePool (S : List UInt8) (w : World) :
    Calls Try.prog 4 #[.string (ByteArray.mk S.toArray)] w fun e w' => e = .returned (.bool true) ∧ Below w.heap.size w w' := by
  by_cases hbig : 1048576 < S.length
  · skip
    have h1 : (S.length : Int) > 1048576 := by omega
    clear hbig
    have hB1 := Below.refl w.heap.size w
    go_enter Try.func4, Try.ntmps4
    go_wp2
    go_ret
    exact ⟨rfl, hB1⟩
  · skip
    have h1 : ¬ (S.length : Int) > 1048576 := by omega
    have c1 := fun w => sParsePool_any S w (by omega)
    have c2 := fun w => iParsePool_any S w (by omega)
    unfold tx at c1 c2
    obtain ⟨r1, r2, r3⟩ := prsP_small S
    obtain ⟨R, hR⟩ : ∃ R, R = prsP S := ⟨_, rfl⟩
    obtain ⟨K, hK⟩ : ∃ K, K = prsB S := ⟨_, rfl⟩
    rw [← hR] at r1 r2 r3
    rw [← hR, ← hK] at c1 c2
    have R1 : Hid (R.idle.length ≤ 4194304) := hid (by omega)
    have R2 : Hid (R.held.length ≤ 4194304) := hid (by omega)
    have R3 : Hid (R.wait.length ≤ 4194304) := hid (by omega)
    have C1 := hid c1
    have C2 := hid c2
    clear c1 c2 r1 r2 r3 hR hK hbig
    obtain ⟨CR, hCR⟩ : ∃ CR : Int, CR = R.count := ⟨_, rfl⟩
    have HCR : Hid (R.count = CR) := hid hCR.symm
    have nCR : ¬ CR < 0 := by rw [hCR]; unfold Pl.count; omega
    clear hCR
    have hB2 := Below.refl w.heap.size w
    go_enter Try.func4, Try.ntmps4
    go_wp2_with fail
    with_reducible refine (C1.out _).mono ?_
    rintro e w1 ⟨Bw1, Bw2, Bw3, dw1, dw2, dw3, rfl, how, hb1⟩
    have sz1 : w.heap.size ≤ w1.heap.size := Nat.le_trans (by first | exact Nat.le_refl _ | (simp; done) | (simp; omega)) (hb1.size)
    have hB3 := hB2.trans (hb1.mono hB2.size)
    clear hB2
    have w4 := how.mono (show w.heap.size ≤ _ by first | exact Nat.le_refl _ | (simp; done))
    clear how
    have bw1 := w4.lt1
    have bw2 := w4.lt2
    have bw3 := w4.lt3
    have hB5 := hB3.alloc hB3.size (.cells #[.int .i64 R.mx, .slice Bw1 R.idle.length dw1, .slice Bw2 R.held.length dw2, .slice Bw3 R.wait.length dw3] 30)
    have w6 := w4.alloc (.cells #[.int .i64 R.mx, .slice Bw1 R.idle.length dw1, .slice Bw2 R.held.length dw2, .slice Bw3 R.wait.length dw3] 30)
    clear hB3 w4
    have pw7 : At (w1.alloc (.cells #[.int .i64 R.mx, .slice Bw1 R.idle.length dw1, .slice Bw2 R.held.length dw2, .slice Bw3 R.wait.length dw3] 30)) (w1.heap.size) 30 #[.int .i64 R.mx, .slice Bw1 R.idle.length dw1, .slice Bw2 R.held.length dw2, .slice Bw3 R.wait.length dw3] := At.newAt _ _ (by first | rfl | (simp; done) | (simp; omega))
    go_wp2_with fail
    with_reducible refine (C2.out _).mono ?_
    rintro e w2 ⟨Bgg1, Bgg2, Bgg3, dgg1, dgg2, dgg3, rfl, hogg, hb2⟩
    have sz2 : w1.heap.size + 1 ≤ w2.heap.size := Nat.le_trans (by first | exact Nat.le_refl _ | (simp; done) | (simp; omega)) (hb2.size)
    have hB8 := hB5.trans (hb2.mono hB5.size)
    have w9 := w6.below hb2
    have pw10 := pw7.below hb2 pw7.lt
    clear hB5 w6 pw7
    have gg11 := hogg.mono (show w1.heap.size + 1 ≤ _ by first | exact Nat.le_refl _ | (simp; done))
    clear hogg
    have bgg1 := gg11.lt1
    have bgg2 := gg11.lt2
    have bgg3 := gg11.lt3
    obtain ⟨q0, q1, q2, q3, ql, qf⟩ := (⟨pw10.cell 0, pw10.cell 1, pw10.cell 2, pw10.cell 3, pw10.lt, pw10.frozen⟩ : _ ∧ _ ∧ _ ∧ _ ∧ _ ∧ _)
    have hB12 := hB8.alloc hB8.size (.cells #[.int .i64 R.mx, .slice Bgg1 R.idle.length dgg1, .slice Bgg2 R.held.length dgg2, .slice Bgg3 R.wait.length dgg3] 30)
    have w13 := w9.alloc (.cells #[.int .i64 R.mx, .slice Bgg1 R.idle.length dgg1, .slice Bgg2 R.held.length dgg2, .slice Bgg3 R.wait.length dgg3] 30)
    have pw14 := pw10.alloc (.cells #[.int .i64 R.mx, .slice Bgg1 R.idle.length dgg1, .slice Bgg2 R.held.length dgg2, .slice Bgg3 R.wait.length dgg3] 30)
    have gg15 := gg11.alloc (.cells #[.int .i64 R.mx, .slice Bgg1 R.idle.length dgg1, .slice Bgg2 R.held.length dgg2, .slice Bgg3 R.wait.length dgg3] 30)
    clear hB8 w9 pw10 gg11
    have pg16 : At (w2.alloc (.cells #[.int .i64 R.mx, .slice Bgg1 R.idle.length dgg1, .slice Bgg2 R.held.length dgg2, .slice Bgg3 R.wait.length dgg3] 30)) (w2.heap.size) 30 #[.int .i64 R.mx, .slice Bgg1 R.idle.length dgg1, .slice Bgg2 R.held.length dgg2, .slice Bgg3 R.wait.length dgg3] := At.newAt _ _ (by first | rfl | (simp; done) | (simp; omega))
    go_wp2_with fail
    with_reducible refine (eqPool_same Bgg1 Bgg2 Bgg3 Bw1 Bw2 Bw3 dgg1 dgg2 dgg3 dw1 dw2 dw3 R _ gg15.sees w13.sees R1.out R2.out R3.out).mono ?_
    rintro e w3 ⟨rfl, hb3⟩
    have sz3 : w2.heap.size + 1 ≤ w3.heap.size := Nat.le_trans (by first | exact Nat.le_refl _ | (simp; done) | (simp; omega)) (hb3.size)
    have hB17 := hB12.trans (hb3.mono hB12.size)
    have w18 := w13.below hb3
    have pw19 := pw14.below hb3 pw14.lt
    have gg20 := gg15.below hb3
    have pg21 := pg16.below hb3 pg16.lt
    clear hB12 w13 pw14 gg15 pg16
    clear q0 q1 q2 q3 ql qf
    obtain ⟨q0, q1, q2, q3, ql, qf⟩ := (⟨pw19.cell 0, pw19.cell 1, pw19.cell 2, pw19.cell 3, pw19.lt, pw19.frozen⟩ : _ ∧ _ ∧ _ ∧ _ ∧ _ ∧ _)
    obtain ⟨s0, s1, s2, s3, sl, sf⟩ := (⟨pg21.cell 0, pg21.cell 1, pg21.cell 2, pg21.cell 3, pg21.lt, pg21.frozen⟩ : _ ∧ _ ∧ _ ∧ _ ∧ _ ∧ _)
    go_wp2_with fail
    with_reducible refine (markPool_any _ Bgg1 Bgg2 Bgg3 dgg1 dgg2 dgg3 R _ gg20 R1.out R2.out R3.out (hi := w2.heap.size) (fun q hq => (bgg1 q hq).2) (fun q hq => (bgg2 q hq).2) (fun q hq => (bgg3 q hq).2)).mono ?_
    rintro e w4 ⟨he, _, hm4, hmo⟩
    rw [HCR.out] at he
    subst he
    have hB22 := below_mid hB17 hm4 (by omega) hB17.size
    clear hB17
    have w23 := w18.mid hm4 (fun q hq => by have := bw1 q hq; omega) (fun q hq => by have := bw2 q hq; omega) (fun q hq => by have := bw3 q hq; omega)
    clear w18
    have pw24 := pw19.mid hm4 (by omega)
    clear pw19
    have gg25 := hmo
    clear gg20
    have pg26 := pg21.mid hm4 (by omega)
    clear pg21
    have sz4 := hm4.size
    clear hmo hm4
    clear q0 q1 q2 q3 ql qf s0 s1 s2 s3 sl sf
    obtain ⟨q0, q1, q2, q3, ql, qf⟩ := (⟨pw24.cell 0, pw24.cell 1, pw24.cell 2, pw24.cell 3, pw24.lt, pw24.frozen⟩ : _ ∧ _ ∧ _ ∧ _ ∧ _ ∧ _)
    obtain ⟨s0, s1, s2, s3, sl, sf⟩ := (⟨pg26.cell 0, pg26.cell 1, pg26.cell 2, pg26.cell 3, pg26.lt, pg26.frozen⟩ : _ ∧ _ ∧ _ ∧ _ ∧ _ ∧ _)
    go_wp2_with fail
    with_reducible refine (heldPool_any Bgg1 Bgg2 Bgg3 dgg1 dgg2 dgg3 R _ gg25.sees R1.out R2.out R3.out).mono ?_
    rintro e w5 ⟨he, hb5⟩
    rw [HCR.out] at he
    subst he
    have sz5 : w4.heap.size ≤ w5.heap.size := Nat.le_trans (by first | exact Nat.le_refl _ | (simp; done) | (simp; omega)) (hb5.size)
    have hB27 := hB22.trans (hb5.mono hB22.size)
    have w28 := w23.below hb5
    have pw29 := pw24.below hb5 pw24.lt
    have gg30 := gg25.below hb5
    have pg31 := pg26.below hb5 pg26.lt
    clear hB22 w23 pw24 gg25 pg26
    clear q0 q1 q2 q3 ql qf s0 s1 s2 s3 sl sf
    obtain ⟨q0, q1, q2, q3, ql, qf⟩ := (⟨pw29.cell 0, pw29.cell 1, pw29.cell 2, pw29.cell 3, pw29.lt, pw29.frozen⟩ : _ ∧ _ ∧ _ ∧ _ ∧ _ ∧ _)
    obtain ⟨s0, s1, s2, s3, sl, sf⟩ := (⟨pg31.cell 0, pg31.cell 1, pg31.cell 2, pg31.cell 3, pg31.lt, pg31.frozen⟩ : _ ∧ _ ∧ _ ∧ _ ∧ _ ∧ _)
    go_wp2_with fail
    with_reducible refine (C2.out _).mono ?_
    rintro e w6 ⟨Bhh1, Bhh2, Bhh3, dhh1, dhh2, dhh3, rfl, hohh, hb6⟩
    have sz6 : w5.heap.size ≤ w6.heap.size := Nat.le_trans (by first | exact Nat.le_refl _ | (simp; done) | (simp; omega)) (hb6.size)
    have hB32 := hB27.trans (hb6.mono hB27.size)
    have w33 := w28.below hb6
    have pw34 := pw29.below hb6 pw29.lt
    have gg35 := gg30.below hb6
    have pg36 := pg31.below hb6 pg31.lt
    clear hB27 w28 pw29 gg30 pg31
    clear q0 q1 q2 q3 ql qf s0 s1 s2 s3 sl sf
    have hh37 := hohh.mono (show w5.heap.size ≤ _ by first | exact Nat.le_refl _ | (simp; done))
    clear hohh
    obtain ⟨q0, q1, q2, q3, ql, qf⟩ := (⟨pw34.cell 0, pw34.cell 1, pw34.cell 2, pw34.cell 3, pw34.lt, pw34.frozen⟩ : _ ∧ _ ∧ _ ∧ _ ∧ _ ∧ _)
    obtain ⟨s0, s1, s2, s3, sl, sf⟩ := (⟨pg36.cell 0, pg36.cell 1, pg36.cell 2, pg36.cell 3, pg36.lt, pg36.frozen⟩ : _ ∧ _ ∧ _ ∧ _ ∧ _ ∧ _)
    have hB38 := hB32.alloc hB32.size (.cells #[.int .i64 R.mx, .slice Bhh1 R.idle.length dhh1, .slice Bhh2 R.held.length dhh2, .slice Bhh3 R.wait.length dhh3] 30)
    have w39 := w33.alloc (.cells #[.int .i64 R.mx, .slice Bhh1 R.idle.length dhh1, .slice Bhh2 R.held.length dhh2, .slice Bhh3 R.wait.length dhh3] 30)
    have pw40 := pw34.alloc (.cells #[.int .i64 R.mx, .slice Bhh1 R.idle.length dhh1, .slice Bhh2 R.held.length dhh2, .slice Bhh3 R.wait.length dhh3] 30)
    have gg41 := gg35.alloc (.cells #[.int .i64 R.mx, .slice Bhh1 R.idle.length dhh1, .slice Bhh2 R.held.length dhh2, .slice Bhh3 R.wait.length dhh3] 30)
    have pg42 := pg36.alloc (.cells #[.int .i64 R.mx, .slice Bhh1 R.idle.length dhh1, .slice Bhh2 R.held.length dhh2, .slice Bhh3 R.wait.length dhh3] 30)
    have hh43 := hh37.alloc (.cells #[.int .i64 R.mx, .slice Bhh1 R.idle.length dhh1, .slice Bhh2 R.held.length dhh2, .slice Bhh3 R.wait.length dhh3] 30)
    clear hB32 w33 pw34 gg35 pg36 hh37
    have ph44 : At (w6.alloc (.cells #[.int .i64 R.mx, .slice Bhh1 R.idle.length dhh1, .slice Bhh2 R.held.length dhh2, .slice Bhh3 R.wait.length dhh3] 30)) (w6.heap.size) 30 #[.int .i64 R.mx, .slice Bhh1 R.idle.length dhh1, .slice Bhh2 R.held.length dhh2, .slice Bhh3 R.wait.length dhh3] := At.newAt _ _ (by first | rfl | (simp; done) | (simp; omega))
    go_wp2_with fail
    with_reducible refine (eqPool_same Bhh1 Bhh2 Bhh3 Bw1 Bw2 Bw3 dhh1 dhh2 dhh3 dw1 dw2 dw3 R _ hh43.sees w39.sees R1.out R2.out R3.out).mono ?_
    rintro e w7 ⟨rfl, hb7⟩
    have sz7 : w6.heap.size + 1 ≤ w7.heap.size := Nat.le_trans (by first | exact Nat.le_refl _ | (simp; done) | (simp; omega)) (hb7.size)
    have hB45 := hB38.trans (hb7.mono hB38.size)
    have w46 := w39.below hb7
    have pw47 := pw40.below hb7 pw40.lt
    have gg48 := gg41.below hb7
    have pg49 := pg42.below hb7 pg42.lt
    have hh50 := hh43.below hb7
    have ph51 := ph44.below hb7 ph44.lt
    clear hB38 w39 pw40 gg41 pg42 hh43 ph44
    clear q0 q1 q2 q3 ql qf s0 s1 s2 s3 sl sf
    obtain ⟨q0, q1, q2, q3, ql, qf⟩ := (⟨pw47.cell 0, pw47.cell 1, pw47.cell 2, pw47.cell 3, pw47.lt, pw47.frozen⟩ : _ ∧ _ ∧ _ ∧ _ ∧ _ ∧ _)
    obtain ⟨s0, s1, s2, s3, sl, sf⟩ := (⟨pg49.cell 0, pg49.cell 1, pg49.cell 2, pg49.cell 3, pg49.lt, pg49.frozen⟩ : _ ∧ _ ∧ _ ∧ _ ∧ _ ∧ _)
    obtain ⟨u0, u1, u2, u3, ul, uf⟩ := (⟨ph51.cell 0, ph51.cell 1, ph51.cell 2, ph51.cell 3, ph51.lt, ph51.frozen⟩ : _ ∧ _ ∧ _ ∧ _ ∧ _ ∧ _)
    go_wp2_with fail
    with_reducible refine (heldPool_any Bgg1 Bgg2 Bgg3 dgg1 dgg2 dgg3 R _ gg48.sees R1.out R2.out R3.out).mono ?_
    rintro e w8 ⟨he, hb8⟩
    rw [HCR.out] at he
    subst he
    have sz8 : w7.heap.size ≤ w8.heap.size := Nat.le_trans (by first | exact Nat.le_refl _ | (simp; done) | (simp; omega)) (hb8.size)
    have hB52 := hB45.trans (hb8.mono hB45.size)
    have w53 := w46.below hb8
    have pw54 := pw47.below hb8 pw47.lt
    have gg55 := gg48.below hb8
    have pg56 := pg49.below hb8 pg49.lt
    have hh57 := hh50.below hb8
    have ph58 := ph51.below hb8 ph51.lt
    clear hB45 w46 pw47 gg48 pg49 hh50 ph51
    clear q0 q1 q2 q3 ql qf s0 s1 s2 s3 sl sf u0 u1 u2 u3 ul uf
    obtain ⟨q0, q1, q2, q3, ql, qf⟩ := (⟨pw54.cell 0, pw54.cell 1, pw54.cell 2, pw54.cell 3, pw54.lt, pw54.frozen⟩ : _ ∧ _ ∧ _ ∧ _ ∧ _ ∧ _)
    obtain ⟨s0, s1, s2, s3, sl, sf⟩ := (⟨pg56.cell 0, pg56.cell 1, pg56.cell 2, pg56.cell 3, pg56.lt, pg56.frozen⟩ : _ ∧ _ ∧ _ ∧ _ ∧ _ ∧ _)
    obtain ⟨u0, u1, u2, u3, ul, uf⟩ := (⟨ph58.cell 0, ph58.cell 1, ph58.cell 2, ph58.cell 3, ph58.lt, ph58.frozen⟩ : _ ∧ _ ∧ _ ∧ _ ∧ _ ∧ _)
    go_wp2
    go_ret
    exact ⟨rfl, hB52⟩
end Go.Proofs.Ytehdbllpiokbnaa

/-
  The walk of the law FnAcquireConn: at every code it returns true and changes nothing that was there. Conditions: none.
-/
import Derived.Test.YtnfpnpdiglaebaaLawPl
import Derived.Test.YtnfpnpdiglaebaaLawFrame
import Derived.BigQuiet
import Derived.Deep.RegionHeld3
import Derived.Test.YtnfpnpdiglaebaaLawPlB
namespace Go.Proofs.Ytnfpnpdiglaebaa
open Go.RowKit Pol

set_option maxHeartbeats 8000000 in
set_option maxRecDepth 16384 in
theorem walkAcquireConn (a : Option Addr) (len cap : Nat) (zs : List Int) (w : World) (hn : zs.length = len) (hc : len ≤ cap) (hcc : cap ≤ maxLen) (h : Sees w w.heap.size a (byts zs)) (hz : ∀ y ∈ zs, 0 ≤ y ∧ y ≤ 255) :
    Calls Try.prog 4 #[.slice a len cap] w fun e w' => e = .returned (.bool true) ∧ Below w.heap.size w w' := by
  have HE := hid hn
  have HC := hid hcc
  have HZ := hid hz
  clear hn hcc hz
  by_cases hbig : 1048576 < len
  · go_enter Try.func4, Try.ntmps4
    go_wp2
    go_ret
    exact ⟨rfl, Below.refl _ _⟩
  · go_enter Try.func4, Try.ntmps4
    go_wp2_with fail
    refine (drawAcquireConn_any _ _ _ _ _ h HZ.out HE.out hc (by omega) HC.out).mono ?_
    rintro e w2 ⟨A1, A2, A3, c1, c2, c3, p, i, rfl, dq, hi1, hi2⟩
    have dp := dq.ownk
    have hB : DB w w2 := dq.belw
    have hl7 := dq.2.2
    clear dq
    replace dp := dp.alloc (.cells #[.int .i64 p.mx, .slice A1 p.idle.length c1, .slice A2 p.held.length c2, .slice A3 p.wait.length c3] 26)
    replace hB := hB.alloc (.cells #[.int .i64 p.mx, .slice A1 p.idle.length c1, .slice A2 p.held.length c2, .slice A3 p.wait.length c3] 26)
    have ps := At.new w2 26 #[.int .i64 p.mx, .slice A1 p.idle.length c1, .slice A2 p.held.length c2, .slice A3 p.wait.length c3]
    obtain ⟨R, hR⟩ : ∃ R, R = acqR p i := ⟨_, rfl⟩
    have ER : Hid (acqR p i = R) := hid hR.symm
    obtain ⟨N, hN⟩ : ∃ N, N = acqN p i := ⟨_, rfl⟩
    have EN : Hid (acqN p i = N) := hid hN.symm
    have HRl := hid (show R.idle.length ≤ 13 ∧ R.held.length ≤ 13 ∧ R.wait.length ≤ 13 by rw [hR]; have := acqR_small p i; omega)
    rcases hb : acqB p i with _ | _
    · skip
      have EB := hid hb
      clear hb hR hN
      obtain ⟨ps0, ps1, ps2, ps3, psl, psf⟩ := ps.fourP
      go_wp2_with fail
      with_reducible refine (iAcquireConn_any p A1 A2 A3 c1 c2 c3 i _ dp.sees dp.k1 dp.i2 dp.h2 dp.w2).mono ?_
      rintro e w3 ⟨B3, D3, E3, b3, d3, f3, he, ho, hb⟩
      rw [ER.out, EN.out, EB.out] at he
      rw [ER.out] at ho
      subst he
      have o1 : OwnK w3 _ B3 D3 E3 b3 d3 f3 R := ⟨ho, HRl.out⟩
      clear ho
      replace dp := dp.below hb
      replace hB := hB.below hb
      replace ps := ps.below hb ps.lt
      clear hb
      clear ps0 ps1 ps2 ps3 psl psf
      replace dp := dp.alloc (.cells #[.int .i64 R.mx, .slice B3 R.idle.length b3, .slice D3 R.held.length d3, .slice E3 R.wait.length f3] 26)
      replace hB := hB.alloc (.cells #[.int .i64 R.mx, .slice B3 R.idle.length b3, .slice D3 R.held.length d3, .slice E3 R.wait.length f3] 26)
      replace o1 := o1.alloc (.cells #[.int .i64 R.mx, .slice B3 R.idle.length b3, .slice D3 R.held.length d3, .slice E3 R.wait.length f3] 26)
      replace ps := ps.alloc (.cells #[.int .i64 R.mx, .slice B3 R.idle.length b3, .slice D3 R.held.length d3, .slice E3 R.wait.length f3] 26)
      have xo1 := At.new w3 26 #[.int .i64 R.mx, .slice B3 R.idle.length b3, .slice D3 R.held.length d3, .slice E3 R.wait.length f3]
      obtain ⟨ps0, ps1, ps2, ps3, psl, psf⟩ := ps.fourP
      obtain ⟨xo10, xo11, xo12, xo13, xo1l, xo1f⟩ := xo1.fourP
      go_wp2_with fail
      with_reducible refine (sAcquireConn_any p A1 A2 A3 c1 c2 c3 i _ dp.sees dp.k1 dp.i2 dp.h2 dp.w2).mono ?_
      rintro e w4 ⟨B4, D4, E4, b4, d4, f4, he, ho, hb⟩
      rw [ER.out, EN.out, EB.out] at he
      rw [ER.out] at ho
      subst he
      have o2 : OwnK w4 _ B4 D4 E4 b4 d4 f4 R := ⟨ho, HRl.out⟩
      clear ho
      replace dp := dp.below hb
      replace hB := hB.below hb
      replace o1 := o1.below hb
      replace ps := ps.below hb ps.lt
      replace xo1 := xo1.below hb xo1.lt
      clear hb
      clear ps0 ps1 ps2 ps3 psl psf
      clear xo10 xo11 xo12 xo13 xo1l xo1f
      replace dp := dp.alloc (.cells #[.int .i64 R.mx, .slice B4 R.idle.length b4, .slice D4 R.held.length d4, .slice E4 R.wait.length f4] 26)
      replace hB := hB.alloc (.cells #[.int .i64 R.mx, .slice B4 R.idle.length b4, .slice D4 R.held.length d4, .slice E4 R.wait.length f4] 26)
      replace o1 := o1.alloc (.cells #[.int .i64 R.mx, .slice B4 R.idle.length b4, .slice D4 R.held.length d4, .slice E4 R.wait.length f4] 26)
      replace o2 := o2.alloc (.cells #[.int .i64 R.mx, .slice B4 R.idle.length b4, .slice D4 R.held.length d4, .slice E4 R.wait.length f4] 26)
      replace ps := ps.alloc (.cells #[.int .i64 R.mx, .slice B4 R.idle.length b4, .slice D4 R.held.length d4, .slice E4 R.wait.length f4] 26)
      replace xo1 := xo1.alloc (.cells #[.int .i64 R.mx, .slice B4 R.idle.length b4, .slice D4 R.held.length d4, .slice E4 R.wait.length f4] 26)
      have xo2 := At.new w4 26 #[.int .i64 R.mx, .slice B4 R.idle.length b4, .slice D4 R.held.length d4, .slice E4 R.wait.length f4]
      obtain ⟨ps0, ps1, ps2, ps3, psl, psf⟩ := ps.fourP
      obtain ⟨xo10, xo11, xo12, xo13, xo1l, xo1f⟩ := xo1.fourP
      obtain ⟨xo20, xo21, xo22, xo23, xo2l, xo2f⟩ := xo2.fourP
      go_wp2_with fail
      with_reducible refine (equalPool_same B3 D3 E3 B4 D4 E4 b3 d3 f3 b4 d4 f4 R _ o1.sees o2.sees (Nat.le_trans o1.i2 (by decide)) (Nat.le_trans o1.h2 (by decide)) (Nat.le_trans o1.w2 (by decide))).mono ?_
      rintro e w5 ⟨rfl, hb⟩
      replace dp := dp.below hb
      replace hB := hB.below hb
      replace o1 := o1.below hb
      replace o2 := o2.below hb
      replace ps := ps.below hb ps.lt
      replace xo1 := xo1.below hb xo1.lt
      replace xo2 := xo2.below hb xo2.lt
      clear hb
      clear ps0 ps1 ps2 ps3 psl psf
      clear xo10 xo11 xo12 xo13 xo1l xo1f
      clear xo20 xo21 xo22 xo23 xo2l xo2f
      obtain ⟨ps0, ps1, ps2, ps3, psl, psf⟩ := ps.fourP
      obtain ⟨xo10, xo11, xo12, xo13, xo1l, xo1f⟩ := xo1.fourP
      obtain ⟨xo20, xo21, xo22, xo23, xo2l, xo2f⟩ := xo2.fourP
      go_wp2_with fail
      with_reducible refine (equalPool_same B3 D3 E3 B4 D4 E4 b3 d3 f3 b4 d4 f4 R _ o1.sees o2.sees (Nat.le_trans o1.i2 (by decide)) (Nat.le_trans o1.h2 (by decide)) (Nat.le_trans o1.w2 (by decide))).mono ?_
      rintro e w6 ⟨rfl, hb⟩
      replace dp := dp.below hb
      replace hB := hB.below hb
      replace o1 := o1.below hb
      replace o2 := o2.below hb
      replace ps := ps.below hb ps.lt
      replace xo1 := xo1.below hb xo1.lt
      replace xo2 := xo2.below hb xo2.lt
      clear hb
      clear ps0 ps1 ps2 ps3 psl psf
      clear xo10 xo11 xo12 xo13 xo1l xo1f
      clear xo20 xo21 xo22 xo23 xo2l xo2f
      obtain ⟨ps0, ps1, ps2, ps3, psl, psf⟩ := ps.fourP
      obtain ⟨xo10, xo11, xo12, xo13, xo1l, xo1f⟩ := xo1.fourP
      obtain ⟨xo20, xo21, xo22, xo23, xo2l, xo2f⟩ := xo2.fourP
      go_wp2
      go_ret
      exact ⟨by first | rfl | (simp; done) | (simp; omega), hB.bel⟩
    · skip
      have EB := hid hb
      have HOK := hid (show okB R = true from by rw [hR]; exact acqR_ok hb)
      rcases hf : fullB p with _ | _
      · skip
        have hcN : 0 ≤ N := by rw [hN, (acq_one hb hf).1]; exact (acq_one hb hf).2.2.1
        have HNEW := hid (fun (o' : Int) => (show memB (heldBy p o') N = false from by rw [hN]; exact decide_eq_false (acq_new hb hf)))
        have HIN := hid (show memB (heldBy R i) N = true from by rw [hN, hR, acq_held hb hf]; exact memB_iff.2 (by simp))
        have hfl : ((p.held.length : Int) == p.mx) = false := beq_eq_false_iff_ne.2 (fullB_no.1 hf)
        have hN1 : (N == -1) = false := beq_eq_false_iff_ne.2 (by omega)
        have hcN2 : N ≥ 0 := hcN
        clear hb hf hR hN
        obtain ⟨ps0, ps1, ps2, ps3, psl, psf⟩ := ps.fourP
        go_wp2_with fail
        with_reducible refine (iAcquireConn_any p A1 A2 A3 c1 c2 c3 i _ dp.sees dp.k1 dp.i2 dp.h2 dp.w2).mono ?_
        rintro e w3 ⟨B3, D3, E3, b3, d3, f3, he, ho, hb⟩
        rw [ER.out, EN.out, EB.out] at he
        rw [ER.out] at ho
        subst he
        have o1 : OwnK w3 _ B3 D3 E3 b3 d3 f3 R := ⟨ho, HRl.out⟩
        clear ho
        replace dp := dp.below hb
        replace hB := hB.below hb
        replace ps := ps.below hb ps.lt
        clear hb
        clear ps0 ps1 ps2 ps3 psl psf
        replace dp := dp.alloc (.cells #[.int .i64 R.mx, .slice B3 R.idle.length b3, .slice D3 R.held.length d3, .slice E3 R.wait.length f3] 26)
        replace hB := hB.alloc (.cells #[.int .i64 R.mx, .slice B3 R.idle.length b3, .slice D3 R.held.length d3, .slice E3 R.wait.length f3] 26)
        replace o1 := o1.alloc (.cells #[.int .i64 R.mx, .slice B3 R.idle.length b3, .slice D3 R.held.length d3, .slice E3 R.wait.length f3] 26)
        replace ps := ps.alloc (.cells #[.int .i64 R.mx, .slice B3 R.idle.length b3, .slice D3 R.held.length d3, .slice E3 R.wait.length f3] 26)
        have xo1 := At.new w3 26 #[.int .i64 R.mx, .slice B3 R.idle.length b3, .slice D3 R.held.length d3, .slice E3 R.wait.length f3]
        obtain ⟨ps0, ps1, ps2, ps3, psl, psf⟩ := ps.fourP
        obtain ⟨xo10, xo11, xo12, xo13, xo1l, xo1f⟩ := xo1.fourP
        go_wp2_with fail
        with_reducible refine (sAcquireConn_any p A1 A2 A3 c1 c2 c3 i _ dp.sees dp.k1 dp.i2 dp.h2 dp.w2).mono ?_
        rintro e w4 ⟨B4, D4, E4, b4, d4, f4, he, ho, hb⟩
        rw [ER.out, EN.out, EB.out] at he
        rw [ER.out] at ho
        subst he
        have o2 : OwnK w4 _ B4 D4 E4 b4 d4 f4 R := ⟨ho, HRl.out⟩
        clear ho
        replace dp := dp.below hb
        replace hB := hB.below hb
        replace o1 := o1.below hb
        replace ps := ps.below hb ps.lt
        replace xo1 := xo1.below hb xo1.lt
        clear hb
        clear ps0 ps1 ps2 ps3 psl psf
        clear xo10 xo11 xo12 xo13 xo1l xo1f
        replace dp := dp.alloc (.cells #[.int .i64 R.mx, .slice B4 R.idle.length b4, .slice D4 R.held.length d4, .slice E4 R.wait.length f4] 26)
        replace hB := hB.alloc (.cells #[.int .i64 R.mx, .slice B4 R.idle.length b4, .slice D4 R.held.length d4, .slice E4 R.wait.length f4] 26)
        replace o1 := o1.alloc (.cells #[.int .i64 R.mx, .slice B4 R.idle.length b4, .slice D4 R.held.length d4, .slice E4 R.wait.length f4] 26)
        replace o2 := o2.alloc (.cells #[.int .i64 R.mx, .slice B4 R.idle.length b4, .slice D4 R.held.length d4, .slice E4 R.wait.length f4] 26)
        replace ps := ps.alloc (.cells #[.int .i64 R.mx, .slice B4 R.idle.length b4, .slice D4 R.held.length d4, .slice E4 R.wait.length f4] 26)
        replace xo1 := xo1.alloc (.cells #[.int .i64 R.mx, .slice B4 R.idle.length b4, .slice D4 R.held.length d4, .slice E4 R.wait.length f4] 26)
        have xo2 := At.new w4 26 #[.int .i64 R.mx, .slice B4 R.idle.length b4, .slice D4 R.held.length d4, .slice E4 R.wait.length f4]
        obtain ⟨ps0, ps1, ps2, ps3, psl, psf⟩ := ps.fourP
        obtain ⟨xo10, xo11, xo12, xo13, xo1l, xo1f⟩ := xo1.fourP
        obtain ⟨xo20, xo21, xo22, xo23, xo2l, xo2f⟩ := xo2.fourP
        go_wp2_with fail
        with_reducible refine (equalPool_same B3 D3 E3 B4 D4 E4 b3 d3 f3 b4 d4 f4 R _ o1.sees o2.sees (Nat.le_trans o1.i2 (by decide)) (Nat.le_trans o1.h2 (by decide)) (Nat.le_trans o1.w2 (by decide))).mono ?_
        rintro e w5 ⟨rfl, hb⟩
        replace dp := dp.below hb
        replace hB := hB.below hb
        replace o1 := o1.below hb
        replace o2 := o2.below hb
        replace ps := ps.below hb ps.lt
        replace xo1 := xo1.below hb xo1.lt
        replace xo2 := xo2.below hb xo2.lt
        clear hb
        clear ps0 ps1 ps2 ps3 psl psf
        clear xo10 xo11 xo12 xo13 xo1l xo1f
        clear xo20 xo21 xo22 xo23 xo2l xo2f
        clear o2
        clear xo2
        go_wp2
        go_loopw [11] (fun i wr => ∃ k : Nat, k ≤ 5 ∧ i = .int .i64 k ∧ (∃ bs : Nat, OwnK wr bs A1 A2 A3 c1 c2 c3 p) ∧ DB w wr ∧ (∃ bs : Nat, OwnK wr bs B3 D3 E3 b3 d3 f3 R) ∧ At wr w2.heap.size 26 #[.int .i64 p.mx, .slice A1 p.idle.length c1, .slice A2 p.held.length c2, .slice A3 p.wait.length c3] ∧ At wr w3.heap.size 26 #[.int .i64 R.mx, .slice B3 R.idle.length b3, .slice D3 R.held.length d3, .slice E3 R.wait.length f3]) (fun i _ => 5 - (intOf i).toNat)
        case atStart => exact ⟨0, by decide, rfl, ⟨_, dp⟩, hB, ⟨_, o1⟩, ps, xo1⟩
        case round =>
          clear dp
          clear hB
          clear o1
          clear ps
          clear xo1
          obtain ⟨k, hk, rfl, ⟨_, dp⟩, hB, ⟨_, o1⟩, ps, xo1⟩ := hrel
          by_cases hk5 : k < 5
          · skip
            have hki : (k : Int) < 5 := by omega
            obtain ⟨H, hH⟩ : ∃ H, H = heldBy p (k : Int) := ⟨_, rfl⟩
            have EH : Hid (heldBy p (k : Int) = H) := hid hH.symm
            have HM := hid (show memB H N = false by rw [hH]; exact HNEW.out _)
            have HHL := hid (show H.length ≤ 4611686018427387904 by rw [hH]; have := heldBy_len p (k : Int); omega)
            clear hH
            obtain ⟨ps0, ps1, ps2, ps3, psl, psf⟩ := ps.fourP
            obtain ⟨xo10, xo11, xo12, xo13, xo1l, xo1f⟩ := xo1.fourP
            go_wp2_with fail
            with_reducible refine (iHeldBy_any p A1 A2 A3 c1 c2 c3 (k : Int) _ dp.sees dp.i2 dp.h2 dp.w2).mono ?_
            rintro e w6 ⟨v6, rfl, ho, hb⟩
            rw [EH.out] at ho
            replace dp := dp.below hb
            replace hB := hB.below hb
            replace o1 := o1.below hb
            replace ps := ps.below hb ps.lt
            replace xo1 := xo1.below hb xo1.lt
            clear hb
            clear ps0 ps1 ps2 ps3 psl psf
            clear xo10 xo11 xo12 xo13 xo1l xo1f
            obtain ⟨A6, c6, rfl, k6, _⟩ := own_form ho.out
            have l1 : Own w6 _ (.slice A6 H.length c6) H := ho
            clear ho
            obtain ⟨ps0, ps1, ps2, ps3, psl, psf⟩ := ps.fourP
            obtain ⟨xo10, xo11, xo12, xo13, xo1l, xo1f⟩ := xo1.fourP
            go_wp2_with fail
            with_reducible refine (lisIn_any A6 c6 H N _ (Sees.of_own l1.out) HHL.out).mono ?_
            rintro e w' ⟨he, rfl⟩
            rw [HM.out] at he
            subst he
            clear ps0 ps1 ps2 ps3 psl psf
            clear xo10 xo11 xo12 xo13 xo1l xo1f
            clear l1
            obtain ⟨ps0, ps1, ps2, ps3, psl, psf⟩ := ps.fourP
            obtain ⟨xo10, xo11, xo12, xo13, xo1l, xo1f⟩ := xo1.fourP
            go_wp2
            go_roundw
            case rel => exact ⟨k + 1, by omega, by go_num, ⟨_, dp⟩, hB, ⟨_, o1⟩, ps, xo1⟩
            case measure => simp [intOf]; omega
          · skip
            have hki : ¬ (k : Int) < 5 := by omega
            obtain ⟨H, hH⟩ : ∃ H, H = heldBy R i := ⟨_, rfl⟩
            have EH : Hid (heldBy R i = H) := hid hH.symm
            have HM := hid (show memB H N = true by rw [hH]; exact HIN.out)
            have HHL := hid (show H.length ≤ 4611686018427387904 by rw [hH]; have := heldBy_len R i; omega)
            clear hH
            obtain ⟨ps0, ps1, ps2, ps3, psl, psf⟩ := ps.fourP
            obtain ⟨xo10, xo11, xo12, xo13, xo1l, xo1f⟩ := xo1.fourP
            go_wp2_with fail
            with_reducible refine (iValidPool_any R B3 D3 E3 b3 d3 f3 _ o1.sees o1.i2 o1.h2 (Nat.le_trans o1.w2 (by decide))).mono ?_
            rintro e w6 ⟨he, hb⟩
            rw [HOK.out] at he
            subst he
            replace dp := dp.below hb
            replace hB := hB.below hb
            replace o1 := o1.below hb
            replace ps := ps.below hb ps.lt
            replace xo1 := xo1.below hb xo1.lt
            clear hb
            clear ps0 ps1 ps2 ps3 psl psf
            clear xo10 xo11 xo12 xo13 xo1l xo1f
            obtain ⟨ps0, ps1, ps2, ps3, psl, psf⟩ := ps.fourP
            obtain ⟨xo10, xo11, xo12, xo13, xo1l, xo1f⟩ := xo1.fourP
            go_wp2_with fail
            with_reducible refine (iHeldBy_any R B3 D3 E3 b3 d3 f3 i _ o1.sees o1.i2 o1.h2 o1.w2).mono ?_
            rintro e w7 ⟨v7, rfl, ho, hb⟩
            rw [EH.out] at ho
            replace dp := dp.below hb
            replace hB := hB.below hb
            replace o1 := o1.below hb
            replace ps := ps.below hb ps.lt
            replace xo1 := xo1.below hb xo1.lt
            clear hb
            clear ps0 ps1 ps2 ps3 psl psf
            clear xo10 xo11 xo12 xo13 xo1l xo1f
            obtain ⟨A7, c7, rfl, k7, _⟩ := own_form ho.out
            have l1 : Own w7 _ (.slice A7 H.length c7) H := ho
            clear ho
            obtain ⟨ps0, ps1, ps2, ps3, psl, psf⟩ := ps.fourP
            obtain ⟨xo10, xo11, xo12, xo13, xo1l, xo1f⟩ := xo1.fourP
            go_wp2_with fail
            with_reducible refine (lisIn_any A7 c7 H N _ (Sees.of_own l1.out) HHL.out).mono ?_
            rintro e w' ⟨he, rfl⟩
            rw [HM.out] at he
            subst he
            clear ps0 ps1 ps2 ps3 psl psf
            clear xo10 xo11 xo12 xo13 xo1l xo1f
            clear l1
            obtain ⟨ps0, ps1, ps2, ps3, psl, psf⟩ := ps.fourP
            obtain ⟨xo10, xo11, xo12, xo13, xo1l, xo1f⟩ := xo1.fourP
            go_wp2
            go_ret
            exact ⟨by first | rfl | (simp; done) | (simp; omega), hB.bel⟩
      · skip
        have hN1 : N = -1 := by rw [hN]; exact (acq_full hb hf).1
        have hfl : ((p.held.length : Int) == p.mx) = true := beq_iff_eq.2 (fullB_iff.1 hf)
        clear hb hf hR hN
        subst hN1
        obtain ⟨ps0, ps1, ps2, ps3, psl, psf⟩ := ps.fourP
        go_wp2_with fail
        with_reducible refine (iAcquireConn_any p A1 A2 A3 c1 c2 c3 i _ dp.sees dp.k1 dp.i2 dp.h2 dp.w2).mono ?_
        rintro e w3 ⟨B3, D3, E3, b3, d3, f3, he, ho, hb⟩
        rw [ER.out, EN.out, EB.out] at he
        rw [ER.out] at ho
        subst he
        have o1 : OwnK w3 _ B3 D3 E3 b3 d3 f3 R := ⟨ho, HRl.out⟩
        clear ho
        replace dp := dp.below hb
        replace hB := hB.below hb
        replace ps := ps.below hb ps.lt
        clear hb
        clear ps0 ps1 ps2 ps3 psl psf
        replace dp := dp.alloc (.cells #[.int .i64 R.mx, .slice B3 R.idle.length b3, .slice D3 R.held.length d3, .slice E3 R.wait.length f3] 26)
        replace hB := hB.alloc (.cells #[.int .i64 R.mx, .slice B3 R.idle.length b3, .slice D3 R.held.length d3, .slice E3 R.wait.length f3] 26)
        replace o1 := o1.alloc (.cells #[.int .i64 R.mx, .slice B3 R.idle.length b3, .slice D3 R.held.length d3, .slice E3 R.wait.length f3] 26)
        replace ps := ps.alloc (.cells #[.int .i64 R.mx, .slice B3 R.idle.length b3, .slice D3 R.held.length d3, .slice E3 R.wait.length f3] 26)
        have xo1 := At.new w3 26 #[.int .i64 R.mx, .slice B3 R.idle.length b3, .slice D3 R.held.length d3, .slice E3 R.wait.length f3]
        obtain ⟨ps0, ps1, ps2, ps3, psl, psf⟩ := ps.fourP
        obtain ⟨xo10, xo11, xo12, xo13, xo1l, xo1f⟩ := xo1.fourP
        go_wp2_with fail
        with_reducible refine (sAcquireConn_any p A1 A2 A3 c1 c2 c3 i _ dp.sees dp.k1 dp.i2 dp.h2 dp.w2).mono ?_
        rintro e w4 ⟨B4, D4, E4, b4, d4, f4, he, ho, hb⟩
        rw [ER.out, EN.out, EB.out] at he
        rw [ER.out] at ho
        subst he
        have o2 : OwnK w4 _ B4 D4 E4 b4 d4 f4 R := ⟨ho, HRl.out⟩
        clear ho
        replace dp := dp.below hb
        replace hB := hB.below hb
        replace o1 := o1.below hb
        replace ps := ps.below hb ps.lt
        replace xo1 := xo1.below hb xo1.lt
        clear hb
        clear ps0 ps1 ps2 ps3 psl psf
        clear xo10 xo11 xo12 xo13 xo1l xo1f
        replace dp := dp.alloc (.cells #[.int .i64 R.mx, .slice B4 R.idle.length b4, .slice D4 R.held.length d4, .slice E4 R.wait.length f4] 26)
        replace hB := hB.alloc (.cells #[.int .i64 R.mx, .slice B4 R.idle.length b4, .slice D4 R.held.length d4, .slice E4 R.wait.length f4] 26)
        replace o1 := o1.alloc (.cells #[.int .i64 R.mx, .slice B4 R.idle.length b4, .slice D4 R.held.length d4, .slice E4 R.wait.length f4] 26)
        replace o2 := o2.alloc (.cells #[.int .i64 R.mx, .slice B4 R.idle.length b4, .slice D4 R.held.length d4, .slice E4 R.wait.length f4] 26)
        replace ps := ps.alloc (.cells #[.int .i64 R.mx, .slice B4 R.idle.length b4, .slice D4 R.held.length d4, .slice E4 R.wait.length f4] 26)
        replace xo1 := xo1.alloc (.cells #[.int .i64 R.mx, .slice B4 R.idle.length b4, .slice D4 R.held.length d4, .slice E4 R.wait.length f4] 26)
        have xo2 := At.new w4 26 #[.int .i64 R.mx, .slice B4 R.idle.length b4, .slice D4 R.held.length d4, .slice E4 R.wait.length f4]
        obtain ⟨ps0, ps1, ps2, ps3, psl, psf⟩ := ps.fourP
        obtain ⟨xo10, xo11, xo12, xo13, xo1l, xo1f⟩ := xo1.fourP
        obtain ⟨xo20, xo21, xo22, xo23, xo2l, xo2f⟩ := xo2.fourP
        go_wp2_with fail
        with_reducible refine (equalPool_same B3 D3 E3 B4 D4 E4 b3 d3 f3 b4 d4 f4 R _ o1.sees o2.sees (Nat.le_trans o1.i2 (by decide)) (Nat.le_trans o1.h2 (by decide)) (Nat.le_trans o1.w2 (by decide))).mono ?_
        rintro e w5 ⟨rfl, hb⟩
        replace dp := dp.below hb
        replace hB := hB.below hb
        replace o1 := o1.below hb
        replace o2 := o2.below hb
        replace ps := ps.below hb ps.lt
        replace xo1 := xo1.below hb xo1.lt
        replace xo2 := xo2.below hb xo2.lt
        clear hb
        clear ps0 ps1 ps2 ps3 psl psf
        clear xo10 xo11 xo12 xo13 xo1l xo1f
        clear xo20 xo21 xo22 xo23 xo2l xo2f
        clear o2
        clear xo2
        go_wp2
        go_loopw [11] (fun i wr => ∃ k : Nat, k ≤ 5 ∧ i = .int .i64 k ∧ (∃ bs : Nat, OwnK wr bs A1 A2 A3 c1 c2 c3 p) ∧ DB w wr ∧ (∃ bs : Nat, OwnK wr bs B3 D3 E3 b3 d3 f3 R) ∧ At wr w2.heap.size 26 #[.int .i64 p.mx, .slice A1 p.idle.length c1, .slice A2 p.held.length c2, .slice A3 p.wait.length c3] ∧ At wr w3.heap.size 26 #[.int .i64 R.mx, .slice B3 R.idle.length b3, .slice D3 R.held.length d3, .slice E3 R.wait.length f3]) (fun i _ => 5 - (intOf i).toNat)
        case atStart => exact ⟨0, by decide, rfl, ⟨_, dp⟩, hB, ⟨_, o1⟩, ps, xo1⟩
        case round =>
          clear dp
          clear hB
          clear o1
          clear ps
          clear xo1
          obtain ⟨k, hk, rfl, ⟨_, dp⟩, hB, ⟨_, o1⟩, ps, xo1⟩ := hrel
          by_cases hk5 : k < 5
          · skip
            have hki : (k : Int) < 5 := by omega
            obtain ⟨ps0, ps1, ps2, ps3, psl, psf⟩ := ps.fourP
            obtain ⟨xo10, xo11, xo12, xo13, xo1l, xo1f⟩ := xo1.fourP
            go_wp2
            go_roundw
            case rel => exact ⟨k + 1, by omega, by go_num, ⟨_, dp⟩, hB, ⟨_, o1⟩, ps, xo1⟩
            case measure => simp [intOf]; omega
          · skip
            have hki : ¬ (k : Int) < 5 := by omega
            obtain ⟨ps0, ps1, ps2, ps3, psl, psf⟩ := ps.fourP
            obtain ⟨xo10, xo11, xo12, xo13, xo1l, xo1f⟩ := xo1.fourP
            go_wp2_with fail
            with_reducible refine (iValidPool_any R B3 D3 E3 b3 d3 f3 _ o1.sees o1.i2 o1.h2 (Nat.le_trans o1.w2 (by decide))).mono ?_
            rintro e w6 ⟨he, hb⟩
            rw [HOK.out] at he
            subst he
            replace dp := dp.below hb
            replace hB := hB.below hb
            replace o1 := o1.below hb
            replace ps := ps.below hb ps.lt
            replace xo1 := xo1.below hb xo1.lt
            clear hb
            clear ps0 ps1 ps2 ps3 psl psf
            clear xo10 xo11 xo12 xo13 xo1l xo1f
            obtain ⟨ps0, ps1, ps2, ps3, psl, psf⟩ := ps.fourP
            obtain ⟨xo10, xo11, xo12, xo13, xo1l, xo1f⟩ := xo1.fourP
            go_wp2
            go_ret
            exact ⟨by first | rfl | (simp; done) | (simp; omega), hB.bel⟩
end Go.Proofs.Ytnfpnpdiglaebaa

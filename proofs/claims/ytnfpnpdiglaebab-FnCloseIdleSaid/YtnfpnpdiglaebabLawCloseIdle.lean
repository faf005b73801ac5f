/-
  The walk of the law FnCloseIdle: at every code it returns true and changes nothing that was there. Conditions: none.
-/
import Derived.Test.YtnfpnpdiglaebabLawPl
import Derived.Test.YtnfpnpdiglaebabLawFrame
import Derived.BigQuiet
import Derived.Deep.RegionHeld3
import Derived.Test.YtnfpnpdiglaebabLawPlB
import Derived.Lib.MinMax
namespace Go.Proofs.Ytnfpnpdiglaebab
open Go.RowKit Pol

set_option maxHeartbeats 8000000 in
set_option maxRecDepth 16384 in
theorem walkCloseIdle (a : Option Addr) (len cap : Nat) (zs : List Int) (w : World) (hn : zs.length = len) (hc : len ≤ cap) (hcc : cap ≤ maxLen) (h : Sees w w.heap.size a (byts zs)) (hz : ∀ y ∈ zs, 0 ≤ y ∧ y ≤ 255) :
    Calls Try.prog 4 #[.slice a len cap] w fun e w' => e = .returned (.bool true) ∧ Below w.heap.size w w' := by
  have HE := hid hn
  have HC := hid hcc
  have HZ := hid hz
  clear hn hcc hz
  by_cases hbig : 1048576 < len
  · go_enter Try.func4, Try.ntmps4
    go_wp2
    go_ret
    exact ⟨rfl, Below.refl _ _⟩
  · go_enter Try.func4, Try.ntmps4
    go_wp2_with fail
    refine (drawCloseIdle_any _ _ _ _ _ h HZ.out HE.out hc (by omega) HC.out).mono ?_
    rintro e w2 ⟨A1, A2, A3, c1, c2, c3, p, i, rfl, dq, hi1, hi2⟩
    have dp := dq.ownk
    have hB : DB w w2 := dq.belw
    have hl7 := dq.2.2
    clear dq
    replace dp := dp.alloc (.cells #[.int .i64 p.mx, .slice A1 p.idle.length c1, .slice A2 p.held.length c2, .slice A3 p.wait.length c3] 26)
    replace hB := hB.alloc (.cells #[.int .i64 p.mx, .slice A1 p.idle.length c1, .slice A2 p.held.length c2, .slice A3 p.wait.length c3] 26)
    have ps := At.new w2 26 #[.int .i64 p.mx, .slice A1 p.idle.length c1, .slice A2 p.held.length c2, .slice A3 p.wait.length c3]
    have HNO := hid (fun (h : clsB p i = false) => (cls_no h).1)
    have HYES := hid (fun (h : clsB p i = true) => (clsB_iff.1 h))
    obtain ⟨R, hR⟩ : ∃ R, R = clsR p i := ⟨_, rfl⟩
    have ER : Hid (clsR p i = R) := hid hR.symm
    obtain ⟨N, hN⟩ : ∃ N, N = clsN p i := ⟨_, rfl⟩
    have EN : Hid (clsN p i = N) := hid hN.symm
    have HRl := hid (show R.idle.length ≤ 13 ∧ R.held.length ≤ 13 ∧ R.wait.length ≤ 13 by rw [hR]; have := cls_len (p := p) (m := i); omega)
    have HBN := hid (show N < 0 ↔ clsB p i = false by
      rw [hN]
      rcases hc : clsB p i with _ | _
      · have := (cls_no hc).1; rw [this]; simp
      · obtain ⟨k, _, e, _⟩ := cls_nat hc; rw [e]; simp; try omega)
    clear hR hN
    obtain ⟨ps0, ps1, ps2, ps3, psl, psf⟩ := ps.fourP
    go_wp2_with fail
    with_reducible refine (iCloseIdle_any p A1 A2 A3 c1 c2 c3 i _ dp.sees dp.k1 dp.i2 dp.h2 dp.w2).mono ?_
    rintro e w3 ⟨B3, D3, E3, b3, d3, f3, he, ho, hb⟩
    rw [ER.out, EN.out] at he
    rw [ER.out] at ho
    subst he
    have o1 : OwnK w3 _ B3 D3 E3 b3 d3 f3 R := ⟨ho, HRl.out⟩
    clear ho
    replace dp := dp.below hb
    replace hB := hB.below hb
    replace ps := ps.below hb ps.lt
    clear hb
    clear ps0 ps1 ps2 ps3 psl psf
    replace dp := dp.alloc (.cells #[.int .i64 R.mx, .slice B3 R.idle.length b3, .slice D3 R.held.length d3, .slice E3 R.wait.length f3] 26)
    replace hB := hB.alloc (.cells #[.int .i64 R.mx, .slice B3 R.idle.length b3, .slice D3 R.held.length d3, .slice E3 R.wait.length f3] 26)
    replace o1 := o1.alloc (.cells #[.int .i64 R.mx, .slice B3 R.idle.length b3, .slice D3 R.held.length d3, .slice E3 R.wait.length f3] 26)
    replace ps := ps.alloc (.cells #[.int .i64 R.mx, .slice B3 R.idle.length b3, .slice D3 R.held.length d3, .slice E3 R.wait.length f3] 26)
    have xo1 := At.new w3 26 #[.int .i64 R.mx, .slice B3 R.idle.length b3, .slice D3 R.held.length d3, .slice E3 R.wait.length f3]
    obtain ⟨ps0, ps1, ps2, ps3, psl, psf⟩ := ps.fourP
    obtain ⟨xo10, xo11, xo12, xo13, xo1l, xo1f⟩ := xo1.fourP
    go_wp2_with fail
    with_reducible refine (sCloseIdle_any p A1 A2 A3 c1 c2 c3 i _ dp.sees dp.k1 dp.i2 dp.h2 dp.w2).mono ?_
    rintro e w4 ⟨B4, D4, E4, b4, d4, f4, he, ho, hb⟩
    rw [ER.out, EN.out] at he
    rw [ER.out] at ho
    subst he
    have o2 : OwnK w4 _ B4 D4 E4 b4 d4 f4 R := ⟨ho, HRl.out⟩
    clear ho
    replace dp := dp.below hb
    replace hB := hB.below hb
    replace o1 := o1.below hb
    replace ps := ps.below hb ps.lt
    replace xo1 := xo1.below hb xo1.lt
    clear hb
    clear ps0 ps1 ps2 ps3 psl psf
    clear xo10 xo11 xo12 xo13 xo1l xo1f
    replace dp := dp.alloc (.cells #[.int .i64 R.mx, .slice B4 R.idle.length b4, .slice D4 R.held.length d4, .slice E4 R.wait.length f4] 26)
    replace hB := hB.alloc (.cells #[.int .i64 R.mx, .slice B4 R.idle.length b4, .slice D4 R.held.length d4, .slice E4 R.wait.length f4] 26)
    replace o1 := o1.alloc (.cells #[.int .i64 R.mx, .slice B4 R.idle.length b4, .slice D4 R.held.length d4, .slice E4 R.wait.length f4] 26)
    replace o2 := o2.alloc (.cells #[.int .i64 R.mx, .slice B4 R.idle.length b4, .slice D4 R.held.length d4, .slice E4 R.wait.length f4] 26)
    replace ps := ps.alloc (.cells #[.int .i64 R.mx, .slice B4 R.idle.length b4, .slice D4 R.held.length d4, .slice E4 R.wait.length f4] 26)
    replace xo1 := xo1.alloc (.cells #[.int .i64 R.mx, .slice B4 R.idle.length b4, .slice D4 R.held.length d4, .slice E4 R.wait.length f4] 26)
    have xo2 := At.new w4 26 #[.int .i64 R.mx, .slice B4 R.idle.length b4, .slice D4 R.held.length d4, .slice E4 R.wait.length f4]
    obtain ⟨ps0, ps1, ps2, ps3, psl, psf⟩ := ps.fourP
    obtain ⟨xo10, xo11, xo12, xo13, xo1l, xo1f⟩ := xo1.fourP
    obtain ⟨xo20, xo21, xo22, xo23, xo2l, xo2f⟩ := xo2.fourP
    go_wp2_with fail
    with_reducible refine (equalPool_same B3 D3 E3 B4 D4 E4 b3 d3 f3 b4 d4 f4 R _ o1.sees o2.sees (Nat.le_trans o1.i2 (by decide)) (Nat.le_trans o1.h2 (by decide)) (Nat.le_trans o1.w2 (by decide))).mono ?_
    rintro e w5 ⟨rfl, hb⟩
    replace dp := dp.below hb
    replace hB := hB.below hb
    replace o1 := o1.below hb
    replace o2 := o2.below hb
    replace ps := ps.below hb ps.lt
    replace xo1 := xo1.below hb xo1.lt
    replace xo2 := xo2.below hb xo2.lt
    clear hb
    clear ps0 ps1 ps2 ps3 psl psf
    clear xo10 xo11 xo12 xo13 xo1l xo1f
    clear xo20 xo21 xo22 xo23 xo2l xo2f
    by_cases hn0 : N < 0
    · skip
      obtain ⟨ps0, ps1, ps2, ps3, psl, psf⟩ := ps.fourP
      obtain ⟨xo10, xo11, xo12, xo13, xo1l, xo1f⟩ := xo1.fourP
      obtain ⟨xo20, xo21, xo22, xo23, xo2l, xo2f⟩ := xo2.fourP
      go_wp2_with fail
      with_reducible refine (equalPool_same B3 D3 E3 B4 D4 E4 b3 d3 f3 b4 d4 f4 R _ o1.sees o2.sees (Nat.le_trans o1.i2 (by decide)) (Nat.le_trans o1.h2 (by decide)) (Nat.le_trans o1.w2 (by decide))).mono ?_
      rintro e w6 ⟨rfl, hb⟩
      replace dp := dp.below hb
      replace hB := hB.below hb
      replace o1 := o1.below hb
      replace o2 := o2.below hb
      replace ps := ps.below hb ps.lt
      replace xo1 := xo1.below hb xo1.lt
      replace xo2 := xo2.below hb xo2.lt
      clear hb
      clear ps0 ps1 ps2 ps3 psl psf
      clear xo10 xo11 xo12 xo13 xo1l xo1f
      clear xo20 xo21 xo22 xo23 xo2l xo2f
      obtain ⟨ps0, ps1, ps2, ps3, psl, psf⟩ := ps.fourP
      obtain ⟨xo10, xo11, xo12, xo13, xo1l, xo1f⟩ := xo1.fourP
      obtain ⟨xo20, xo21, xo22, xo23, xo2l, xo2f⟩ := xo2.fourP
      go_wp2
      go_ret
      exact ⟨by first | rfl | (simp; done) | (simp; omega), hB.bel⟩
    · skip
      have hcb : clsB p i = true := by
        rcases hc : clsB p i with _ | _
        · exact absurd (HBN.out.2 hc) hn0
        · rfl
      have hi0 := (HYES.out hcb).2
      obtain ⟨k, hk, e1, e2, e3⟩ := cls_nat hcb
      have hok := clsR_ok hcb
      rw [EN.out] at e1
      rw [ER.out] at e3 hok
      have HOK := hid hok
      have HI := hid (show R.idle = p.idle.drop k by rw [e3])
      have HH := hid (show R.held = p.held by rw [e3])
      have HW := hid (show R.wait = p.wait by rw [e3])
      have HDL := hid (show (p.idle.drop k).length = p.idle.length - k from List.length_drop)
      have HMIN := hid e2
      clear e2 e3 hok hcb
      subst e1
      have k0 : (0 : Int) ≤ (k : Int) := by omega
      have k1 : (k : Int) ≤ (p.idle.length : Int) := by omega
      have hcap := dp.k1
      have k2 : (k : Int) ≤ (c1 : Int) := by omega
      have k3 : (p.idle.length : Int) ≤ (c1 : Int) := by omega
      have hq := dp.n4
      clear o2
      clear xo2
      have hmb : ((k : Int) == min i (p.idle.length : Int)) = true := beq_iff_eq.2 HMIN.out
      by_cases hck : c1 = k
      · skip
        obtain rfl : k = c1 := hck.symm
        have HD0 := hid (show p.idle.drop k = [] from List.drop_eq_nil_of_le (by omega))
        have HI2 := hid (HI.out.trans HD0.out)
        have hlz : p.idle.length - k = 0 := by omega
        have hcz : k - k = 0 := by omega
        have ddp := dp.drew
        have dhB := hB.drew
        have do1 := o1.drew
        have dps := ps.drew
        have dxo1 := xo1.drew
        obtain ⟨ps0, ps1, ps2, ps3, psl, psf⟩ := ps.fourP
        obtain ⟨xo10, xo11, xo12, xo13, xo1l, xo1f⟩ := xo1.fourP
        go_wp2_with fail
        go_region_held3 (fun w' => w'.cell? ⟨w2.heap.size, 0, none⟩ = some (.int .i64 p.mx) ∧ w'.cell? ⟨w2.heap.size, 1, none⟩ = some (.slice A1 p.idle.length k) ∧ w'.cell? ⟨w2.heap.size, 2, none⟩ = some (.slice A2 p.held.length c2) ∧ w'.cell? ⟨w2.heap.size, 3, none⟩ = some (.slice A3 p.wait.length c3) ∧ w'.cell? ⟨w3.heap.size, 0, none⟩ = some (.int .i64 R.mx) ∧ w'.cell? ⟨w3.heap.size, 1, none⟩ = some (.slice B3 R.idle.length b3) ∧ w'.cell? ⟨w3.heap.size, 2, none⟩ = some (.slice D3 R.held.length d3) ∧ w'.cell? ⟨w3.heap.size, 3, none⟩ = some (.slice E3 R.wait.length f3))
          (first | with_reducible exact ⟨ps0, ps1, ps2, ps3, xo10, xo11, xo12, xo13⟩ | with_reducible exact ⟨aps0, aps1, aps2, aps3, axo10, axo11, axo12, axo13⟩ | with_reducible exact ⟨bps0, bps1, bps2, bps3, bxo10, bxo11, bxo12, bxo13⟩ | with_reducible exact ⟨cps0, cps1, cps2, cps3, cxo10, cxo11, cxo12, cxo13⟩ | with_reducible exact ⟨fps0, fps1, fps2, fps3, fxo10, fxo11, fxo12, fxo13⟩ | go_keep)
          (first
            | (go_at_call 16; (with_reducible refine (kEq_of HI2.out rfl (by first | rfl | (simp; done) | (simp; omega)) do1.sees.idle Sees.nil (by simp)).mono ?_); rintro e wa ⟨rfl, hb⟩; have adp := ddp.below hb; have ahB := dhB.below hb; have ao1 := do1.below hb; have aps := dps.below hb dps.lt; have axo1 := dxo1.below hb dxo1.lt; obtain ⟨aps0, aps1, aps2, aps3, apsl, apsf⟩ := aps.fourP; obtain ⟨axo10, axo11, axo12, axo13, axo1l, axo1f⟩ := axo1.fourP)
            | (go_at_call 21; (with_reducible refine (kHolds_of HH.out rfl rfl ao1.sees.held adp.sees.held hq.2.1).mono ?_); rintro e wb ⟨rfl, hb⟩; have bdp := adp.below hb; have bhB := ahB.below hb; have bo1 := ao1.below hb; have bps := aps.below hb aps.lt; have bxo1 := axo1.below hb axo1.lt; obtain ⟨bps0, bps1, bps2, bps3, bpsl, bpsf⟩ := bps.fourP; obtain ⟨bxo10, bxo11, bxo12, bxo13, bxo1l, bxo1f⟩ := bxo1.fourP)
            | (go_at_call 16; (with_reducible refine (kEq_of HW.out rfl rfl bo1.sees.wait bdp.sees.wait hq.2.2).mono ?_); rintro e wc ⟨rfl, hb⟩; have cdp := bdp.below hb; have chB := bhB.below hb; have co1 := bo1.below hb; have cps := bps.below hb bps.lt; have cxo1 := bxo1.below hb bxo1.lt; obtain ⟨cps0, cps1, cps2, cps3, cpsl, cpsf⟩ := cps.fourP; obtain ⟨cxo10, cxo11, cxo12, cxo13, cxo1l, cxo1f⟩ := cxo1.fourP)
            | (go_at_call 15; (with_reducible refine (iValidPool_any R B3 D3 E3 b3 d3 f3 _ co1.sees co1.i2 co1.h2 (Nat.le_trans co1.w2 (by decide))).mono ?_); rintro e wf ⟨he, hb⟩; rw [HOK.out] at he; subst he; have fdp := cdp.below hb; have fhB := chB.below hb; have fo1 := co1.below hb; have fps := cps.below hb cps.lt; have fxo1 := cxo1.below hb cxo1.lt; obtain ⟨fps0, fps1, fps2, fps3, fpsl, fpsf⟩ := fps.fourP; obtain ⟨fxo10, fxo11, fxo12, fxo13, fxo1l, fxo1f⟩ := fxo1.fourP)
            | fail)
        all_goals
          go_wp2
          go_ret
          exact ⟨by first | rfl | (simp; done) | (simp; omega), fhB.bel⟩
      · skip
        obtain ⟨gi, rfl⟩ := dp.1.idle_at (by omega)
        have hck2 : ¬ k = c1 := fun e => hck e.symm
        have ddp := dp.drew
        have dhB := hB.drew
        have do1 := o1.drew
        have dps := ps.drew
        have dxo1 := xo1.drew
        obtain ⟨ps0, ps1, ps2, ps3, psl, psf⟩ := ps.fourP
        obtain ⟨xo10, xo11, xo12, xo13, xo1l, xo1f⟩ := xo1.fourP
        go_wp2_with fail
        go_region_held3 (fun w' => w'.cell? ⟨w2.heap.size, 0, none⟩ = some (.int .i64 p.mx) ∧ w'.cell? ⟨w2.heap.size, 1, none⟩ = some (.slice (some ⟨gi, 0, none⟩) p.idle.length c1) ∧ w'.cell? ⟨w2.heap.size, 2, none⟩ = some (.slice A2 p.held.length c2) ∧ w'.cell? ⟨w2.heap.size, 3, none⟩ = some (.slice A3 p.wait.length c3) ∧ w'.cell? ⟨w3.heap.size, 0, none⟩ = some (.int .i64 R.mx) ∧ w'.cell? ⟨w3.heap.size, 1, none⟩ = some (.slice B3 R.idle.length b3) ∧ w'.cell? ⟨w3.heap.size, 2, none⟩ = some (.slice D3 R.held.length d3) ∧ w'.cell? ⟨w3.heap.size, 3, none⟩ = some (.slice E3 R.wait.length f3))
          (first | with_reducible exact ⟨ps0, ps1, ps2, ps3, xo10, xo11, xo12, xo13⟩ | with_reducible exact ⟨aps0, aps1, aps2, aps3, axo10, axo11, axo12, axo13⟩ | with_reducible exact ⟨bps0, bps1, bps2, bps3, bxo10, bxo11, bxo12, bxo13⟩ | with_reducible exact ⟨cps0, cps1, cps2, cps3, cxo10, cxo11, cxo12, cxo13⟩ | with_reducible exact ⟨fps0, fps1, fps2, fps3, fxo10, fxo11, fxo12, fxo13⟩ | go_keep)
          (first
            | (go_at_call 16; (with_reducible refine (kEq_of HI.out rfl HDL.out do1.sees.idle (by simpa using ints_dropK ddp.sees.idle k) (by rw [HDL.out]; omega)).mono ?_); rintro e wa ⟨rfl, hb⟩; have adp := ddp.below hb; have ahB := dhB.below hb; have ao1 := do1.below hb; have aps := dps.below hb dps.lt; have axo1 := dxo1.below hb dxo1.lt; obtain ⟨aps0, aps1, aps2, aps3, apsl, apsf⟩ := aps.fourP; obtain ⟨axo10, axo11, axo12, axo13, axo1l, axo1f⟩ := axo1.fourP)
            | (go_at_call 21; (with_reducible refine (kHolds_of HH.out rfl rfl ao1.sees.held adp.sees.held hq.2.1).mono ?_); rintro e wb ⟨rfl, hb⟩; have bdp := adp.below hb; have bhB := ahB.below hb; have bo1 := ao1.below hb; have bps := aps.below hb aps.lt; have bxo1 := axo1.below hb axo1.lt; obtain ⟨bps0, bps1, bps2, bps3, bpsl, bpsf⟩ := bps.fourP; obtain ⟨bxo10, bxo11, bxo12, bxo13, bxo1l, bxo1f⟩ := bxo1.fourP)
            | (go_at_call 16; (with_reducible refine (kEq_of HW.out rfl rfl bo1.sees.wait bdp.sees.wait hq.2.2).mono ?_); rintro e wc ⟨rfl, hb⟩; have cdp := bdp.below hb; have chB := bhB.below hb; have co1 := bo1.below hb; have cps := bps.below hb bps.lt; have cxo1 := bxo1.below hb bxo1.lt; obtain ⟨cps0, cps1, cps2, cps3, cpsl, cpsf⟩ := cps.fourP; obtain ⟨cxo10, cxo11, cxo12, cxo13, cxo1l, cxo1f⟩ := cxo1.fourP)
            | (go_at_call 15; (with_reducible refine (iValidPool_any R B3 D3 E3 b3 d3 f3 _ co1.sees co1.i2 co1.h2 (Nat.le_trans co1.w2 (by decide))).mono ?_); rintro e wf ⟨he, hb⟩; rw [HOK.out] at he; subst he; have fdp := cdp.below hb; have fhB := chB.below hb; have fo1 := co1.below hb; have fps := cps.below hb cps.lt; have fxo1 := cxo1.below hb cxo1.lt; obtain ⟨fps0, fps1, fps2, fps3, fpsl, fpsf⟩ := fps.fourP; obtain ⟨fxo10, fxo11, fxo12, fxo13, fxo1l, fxo1f⟩ := fxo1.fourP)
            | fail)
        all_goals
          go_wp2
          go_ret
          exact ⟨by first | rfl | (simp; done) | (simp; omega), fhB.bel⟩
end Go.Proofs.Ytnfpnpdiglaebab

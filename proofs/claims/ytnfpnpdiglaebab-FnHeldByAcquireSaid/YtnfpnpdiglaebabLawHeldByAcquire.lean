/-
  The walk of the law FnHeldByAcquire: at every code it returns true and changes nothing that was there. Conditions: none.
-/
import Derived.Test.YtnfpnpdiglaebabLawPl
import Derived.Test.YtnfpnpdiglaebabLawFrame
import Derived.BigQuiet
import Derived.Deep.RegionHeld3
import Derived.Test.YtnfpnpdiglaebabLawPlB
namespace Go.Proofs.Ytnfpnpdiglaebab
open Go.RowKit Pol

set_option maxHeartbeats 8000000 in
set_option maxRecDepth 16384 in
theorem walkHeldByAcquire (a : Option Addr) (len cap : Nat) (zs : List Int) (w : World) (hn : zs.length = len) (hc : len ≤ cap) (hcc : cap ≤ maxLen) (h : Sees w w.heap.size a (byts zs)) (hz : ∀ y ∈ zs, 0 ≤ y ∧ y ≤ 255) :
    Calls Try.prog 9 #[.slice a len cap] w fun e w' => e = .returned (.bool true) ∧ Below w.heap.size w w' := by
  have HE := hid hn
  have HC := hid hcc
  have HZ := hid hz
  clear hn hcc hz
  by_cases hbig : 1048576 < len
  · go_enter Try.func9, Try.ntmps9
    go_wp2
    go_ret
    exact ⟨rfl, Below.refl _ _⟩
  · go_enter Try.func9, Try.ntmps9
    go_wp2_with fail
    refine (drawAcquireConn_any _ _ _ _ _ h HZ.out HE.out hc (by omega) HC.out).mono ?_
    rintro e w2 ⟨A1, A2, A3, c1, c2, c3, p, i, rfl, dq, hi1, hi2⟩
    have dp := dq.ownk
    have hB : DB w w2 := dq.belw
    have hl7 := dq.2.2
    clear dq
    replace dp := dp.alloc (.cells #[.int .i64 p.mx, .slice A1 p.idle.length c1, .slice A2 p.held.length c2, .slice A3 p.wait.length c3] 26)
    replace hB := hB.alloc (.cells #[.int .i64 p.mx, .slice A1 p.idle.length c1, .slice A2 p.held.length c2, .slice A3 p.wait.length c3] 26)
    have ps := At.new w2 26 #[.int .i64 p.mx, .slice A1 p.idle.length c1, .slice A2 p.held.length c2, .slice A3 p.wait.length c3]
    obtain ⟨R, hR⟩ : ∃ R, R = acqR p i := ⟨_, rfl⟩
    have ER : Hid (acqR p i = R) := hid hR.symm
    obtain ⟨N, hN⟩ : ∃ N, N = acqN p i := ⟨_, rfl⟩
    have EN : Hid (acqN p i = N) := hid hN.symm
    have HRl := hid (show R.idle.length ≤ 13 ∧ R.held.length ≤ 13 ∧ R.wait.length ≤ 13 by rw [hR]; have := acqR_small p i; omega)
    rcases hb : acqB p i with _ | _
    · skip
      have EB := hid hb
      clear hb hR hN
      obtain ⟨ps0, ps1, ps2, ps3, psl, psf⟩ := ps.fourP
      go_wp2_with fail
      with_reducible refine (iAcquireConn_any p A1 A2 A3 c1 c2 c3 i _ dp.sees dp.k1 dp.i2 dp.h2 dp.w2).mono ?_
      rintro e w3 ⟨B3, D3, E3, b3, d3, f3, he, ho, hb⟩
      rw [ER.out, EN.out, EB.out] at he
      rw [ER.out] at ho
      subst he
      have o1 : OwnK w3 _ B3 D3 E3 b3 d3 f3 R := ⟨ho, HRl.out⟩
      clear ho
      replace dp := dp.below hb
      replace hB := hB.below hb
      replace ps := ps.below hb ps.lt
      clear hb
      clear ps0 ps1 ps2 ps3 psl psf
      replace dp := dp.alloc (.cells #[.int .i64 R.mx, .slice B3 R.idle.length b3, .slice D3 R.held.length d3, .slice E3 R.wait.length f3] 26)
      replace hB := hB.alloc (.cells #[.int .i64 R.mx, .slice B3 R.idle.length b3, .slice D3 R.held.length d3, .slice E3 R.wait.length f3] 26)
      replace o1 := o1.alloc (.cells #[.int .i64 R.mx, .slice B3 R.idle.length b3, .slice D3 R.held.length d3, .slice E3 R.wait.length f3] 26)
      replace ps := ps.alloc (.cells #[.int .i64 R.mx, .slice B3 R.idle.length b3, .slice D3 R.held.length d3, .slice E3 R.wait.length f3] 26)
      have xo1 := At.new w3 26 #[.int .i64 R.mx, .slice B3 R.idle.length b3, .slice D3 R.held.length d3, .slice E3 R.wait.length f3]
      obtain ⟨ps0, ps1, ps2, ps3, psl, psf⟩ := ps.fourP
      obtain ⟨xo10, xo11, xo12, xo13, xo1l, xo1f⟩ := xo1.fourP
      go_wp2_with fail
      with_reducible refine (sAcquireConn_any p A1 A2 A3 c1 c2 c3 i _ dp.sees dp.k1 dp.i2 dp.h2 dp.w2).mono ?_
      rintro e w4 ⟨B4, D4, E4, b4, d4, f4, he, ho, hb⟩
      rw [ER.out, EN.out, EB.out] at he
      rw [ER.out] at ho
      subst he
      have o2 : OwnK w4 _ B4 D4 E4 b4 d4 f4 R := ⟨ho, HRl.out⟩
      clear ho
      replace dp := dp.below hb
      replace hB := hB.below hb
      replace o1 := o1.below hb
      replace ps := ps.below hb ps.lt
      replace xo1 := xo1.below hb xo1.lt
      clear hb
      clear ps0 ps1 ps2 ps3 psl psf
      clear xo10 xo11 xo12 xo13 xo1l xo1f
      replace dp := dp.alloc (.cells #[.int .i64 R.mx, .slice B4 R.idle.length b4, .slice D4 R.held.length d4, .slice E4 R.wait.length f4] 26)
      replace hB := hB.alloc (.cells #[.int .i64 R.mx, .slice B4 R.idle.length b4, .slice D4 R.held.length d4, .slice E4 R.wait.length f4] 26)
      replace o1 := o1.alloc (.cells #[.int .i64 R.mx, .slice B4 R.idle.length b4, .slice D4 R.held.length d4, .slice E4 R.wait.length f4] 26)
      replace o2 := o2.alloc (.cells #[.int .i64 R.mx, .slice B4 R.idle.length b4, .slice D4 R.held.length d4, .slice E4 R.wait.length f4] 26)
      replace ps := ps.alloc (.cells #[.int .i64 R.mx, .slice B4 R.idle.length b4, .slice D4 R.held.length d4, .slice E4 R.wait.length f4] 26)
      replace xo1 := xo1.alloc (.cells #[.int .i64 R.mx, .slice B4 R.idle.length b4, .slice D4 R.held.length d4, .slice E4 R.wait.length f4] 26)
      have xo2 := At.new w4 26 #[.int .i64 R.mx, .slice B4 R.idle.length b4, .slice D4 R.held.length d4, .slice E4 R.wait.length f4]
      obtain ⟨ps0, ps1, ps2, ps3, psl, psf⟩ := ps.fourP
      obtain ⟨xo10, xo11, xo12, xo13, xo1l, xo1f⟩ := xo1.fourP
      obtain ⟨xo20, xo21, xo22, xo23, xo2l, xo2f⟩ := xo2.fourP
      go_wp2_with fail
      with_reducible refine (equalPool_same B3 D3 E3 B4 D4 E4 b3 d3 f3 b4 d4 f4 R _ o1.sees o2.sees (Nat.le_trans o1.i2 (by decide)) (Nat.le_trans o1.h2 (by decide)) (Nat.le_trans o1.w2 (by decide))).mono ?_
      rintro e w5 ⟨rfl, hb⟩
      replace dp := dp.below hb
      replace hB := hB.below hb
      replace o1 := o1.below hb
      replace o2 := o2.below hb
      replace ps := ps.below hb ps.lt
      replace xo1 := xo1.below hb xo1.lt
      replace xo2 := xo2.below hb xo2.lt
      clear hb
      clear ps0 ps1 ps2 ps3 psl psf
      clear xo10 xo11 xo12 xo13 xo1l xo1f
      clear xo20 xo21 xo22 xo23 xo2l xo2f
      obtain ⟨ps0, ps1, ps2, ps3, psl, psf⟩ := ps.fourP
      obtain ⟨xo10, xo11, xo12, xo13, xo1l, xo1f⟩ := xo1.fourP
      obtain ⟨xo20, xo21, xo22, xo23, xo2l, xo2f⟩ := xo2.fourP
      go_wp2_with fail
      with_reducible refine (equalPool_same B3 D3 E3 B4 D4 E4 b3 d3 f3 b4 d4 f4 R _ o1.sees o2.sees (Nat.le_trans o1.i2 (by decide)) (Nat.le_trans o1.h2 (by decide)) (Nat.le_trans o1.w2 (by decide))).mono ?_
      rintro e w6 ⟨rfl, hb⟩
      replace dp := dp.below hb
      replace hB := hB.below hb
      replace o1 := o1.below hb
      replace o2 := o2.below hb
      replace ps := ps.below hb ps.lt
      replace xo1 := xo1.below hb xo1.lt
      replace xo2 := xo2.below hb xo2.lt
      clear hb
      clear ps0 ps1 ps2 ps3 psl psf
      clear xo10 xo11 xo12 xo13 xo1l xo1f
      clear xo20 xo21 xo22 xo23 xo2l xo2f
      obtain ⟨ps0, ps1, ps2, ps3, psl, psf⟩ := ps.fourP
      obtain ⟨xo10, xo11, xo12, xo13, xo1l, xo1f⟩ := xo1.fourP
      obtain ⟨xo20, xo21, xo22, xo23, xo2l, xo2f⟩ := xo2.fourP
      go_wp2
      go_ret
      exact ⟨by first | rfl | (simp; done) | (simp; omega), hB.bel⟩
    · skip
      have EB := hid hb
      rcases hf : fullB p with _ | _
      · skip
        have hcN : ¬ N < 0 := by rw [hN, (acq_one hb hf).1]; have := (acq_one hb hf).2.2.1; omega
        have hah := acq_held hb hf
        rw [← hR, ← hN] at hah
        obtain ⟨H, hH⟩ : ∃ H, H = heldBy p i := ⟨_, rfl⟩
        have EH : Hid (heldBy p i = H) := hid hH.symm
        have HHL := hid (show H.length ≤ 6 by rw [hH]; exact heldBy_len p i)
        obtain ⟨G, hG⟩ : ∃ G, G = heldBy R i := ⟨_, rfl⟩
        have EG : Hid (heldBy R i = G) := hid hG.symm
        rw [← hG, ← hH] at hah
        have HGT := hid (show G.take H.length = H by rw [hah]; simp)
        have HGL := hid (show G.length = H.length + 1 by rw [hah]; simp)
        have HGX := hid (last_at hah)
        clear hb hf hR hN hah hH hG
        obtain ⟨ps0, ps1, ps2, ps3, psl, psf⟩ := ps.fourP
        go_wp2_with fail
        with_reducible refine (iAcquireConn_any p A1 A2 A3 c1 c2 c3 i _ dp.sees dp.k1 dp.i2 dp.h2 dp.w2).mono ?_
        rintro e w3 ⟨B3, D3, E3, b3, d3, f3, he, ho, hb⟩
        rw [ER.out, EN.out, EB.out] at he
        rw [ER.out] at ho
        subst he
        have o1 : OwnK w3 _ B3 D3 E3 b3 d3 f3 R := ⟨ho, HRl.out⟩
        clear ho
        replace dp := dp.below hb
        replace hB := hB.below hb
        replace ps := ps.below hb ps.lt
        clear hb
        clear ps0 ps1 ps2 ps3 psl psf
        replace dp := dp.alloc (.cells #[.int .i64 R.mx, .slice B3 R.idle.length b3, .slice D3 R.held.length d3, .slice E3 R.wait.length f3] 26)
        replace hB := hB.alloc (.cells #[.int .i64 R.mx, .slice B3 R.idle.length b3, .slice D3 R.held.length d3, .slice E3 R.wait.length f3] 26)
        replace o1 := o1.alloc (.cells #[.int .i64 R.mx, .slice B3 R.idle.length b3, .slice D3 R.held.length d3, .slice E3 R.wait.length f3] 26)
        replace ps := ps.alloc (.cells #[.int .i64 R.mx, .slice B3 R.idle.length b3, .slice D3 R.held.length d3, .slice E3 R.wait.length f3] 26)
        have xo1 := At.new w3 26 #[.int .i64 R.mx, .slice B3 R.idle.length b3, .slice D3 R.held.length d3, .slice E3 R.wait.length f3]
        obtain ⟨ps0, ps1, ps2, ps3, psl, psf⟩ := ps.fourP
        obtain ⟨xo10, xo11, xo12, xo13, xo1l, xo1f⟩ := xo1.fourP
        go_wp2_with fail
        with_reducible refine (sAcquireConn_any p A1 A2 A3 c1 c2 c3 i _ dp.sees dp.k1 dp.i2 dp.h2 dp.w2).mono ?_
        rintro e w4 ⟨B4, D4, E4, b4, d4, f4, he, ho, hb⟩
        rw [ER.out, EN.out, EB.out] at he
        rw [ER.out] at ho
        subst he
        have o2 : OwnK w4 _ B4 D4 E4 b4 d4 f4 R := ⟨ho, HRl.out⟩
        clear ho
        replace dp := dp.below hb
        replace hB := hB.below hb
        replace o1 := o1.below hb
        replace ps := ps.below hb ps.lt
        replace xo1 := xo1.below hb xo1.lt
        clear hb
        clear ps0 ps1 ps2 ps3 psl psf
        clear xo10 xo11 xo12 xo13 xo1l xo1f
        replace dp := dp.alloc (.cells #[.int .i64 R.mx, .slice B4 R.idle.length b4, .slice D4 R.held.length d4, .slice E4 R.wait.length f4] 26)
        replace hB := hB.alloc (.cells #[.int .i64 R.mx, .slice B4 R.idle.length b4, .slice D4 R.held.length d4, .slice E4 R.wait.length f4] 26)
        replace o1 := o1.alloc (.cells #[.int .i64 R.mx, .slice B4 R.idle.length b4, .slice D4 R.held.length d4, .slice E4 R.wait.length f4] 26)
        replace o2 := o2.alloc (.cells #[.int .i64 R.mx, .slice B4 R.idle.length b4, .slice D4 R.held.length d4, .slice E4 R.wait.length f4] 26)
        replace ps := ps.alloc (.cells #[.int .i64 R.mx, .slice B4 R.idle.length b4, .slice D4 R.held.length d4, .slice E4 R.wait.length f4] 26)
        replace xo1 := xo1.alloc (.cells #[.int .i64 R.mx, .slice B4 R.idle.length b4, .slice D4 R.held.length d4, .slice E4 R.wait.length f4] 26)
        have xo2 := At.new w4 26 #[.int .i64 R.mx, .slice B4 R.idle.length b4, .slice D4 R.held.length d4, .slice E4 R.wait.length f4]
        obtain ⟨ps0, ps1, ps2, ps3, psl, psf⟩ := ps.fourP
        obtain ⟨xo10, xo11, xo12, xo13, xo1l, xo1f⟩ := xo1.fourP
        obtain ⟨xo20, xo21, xo22, xo23, xo2l, xo2f⟩ := xo2.fourP
        go_wp2_with fail
        with_reducible refine (equalPool_same B3 D3 E3 B4 D4 E4 b3 d3 f3 b4 d4 f4 R _ o1.sees o2.sees (Nat.le_trans o1.i2 (by decide)) (Nat.le_trans o1.h2 (by decide)) (Nat.le_trans o1.w2 (by decide))).mono ?_
        rintro e w5 ⟨rfl, hb⟩
        replace dp := dp.below hb
        replace hB := hB.below hb
        replace o1 := o1.below hb
        replace o2 := o2.below hb
        replace ps := ps.below hb ps.lt
        replace xo1 := xo1.below hb xo1.lt
        replace xo2 := xo2.below hb xo2.lt
        clear hb
        clear ps0 ps1 ps2 ps3 psl psf
        clear xo10 xo11 xo12 xo13 xo1l xo1f
        clear xo20 xo21 xo22 xo23 xo2l xo2f
        clear o2
        clear xo2
        obtain ⟨ps0, ps1, ps2, ps3, psl, psf⟩ := ps.fourP
        obtain ⟨xo10, xo11, xo12, xo13, xo1l, xo1f⟩ := xo1.fourP
        go_wp2_with fail
        with_reducible refine (iHeldBy_any R B3 D3 E3 b3 d3 f3 i _ o1.sees o1.i2 o1.h2 o1.w2).mono ?_
        rintro e w6 ⟨v6, rfl, ho, hb⟩
        rw [EG.out] at ho
        replace dp := dp.below hb
        replace hB := hB.below hb
        replace o1 := o1.below hb
        replace ps := ps.below hb ps.lt
        replace xo1 := xo1.below hb xo1.lt
        clear hb
        clear ps0 ps1 ps2 ps3 psl psf
        clear xo10 xo11 xo12 xo13 xo1l xo1f
        obtain ⟨Al6, cl6, rfl, k6, _⟩ := own_form ho.out
        have l1 : Own w6 _ (.slice Al6 G.length cl6) G := ho
        clear ho
        have hgl := HGL.out
        have hhl := HHL.out
        obtain ⟨bw, ow, hE, hbl, e0⟩ := (Sees.of_own l1.out).int (show H.length < G.length by omega)
        rw [HGX.out H.length (by omega) hgl.symm] at e0
        subst hE
        have hwr : IntKind.i64.wrap ((G.length : Int) - 1) = (H.length : Int) := by rw [IntKind.wrap_i64]; omega
        have m0 : (0 : Int) ≤ (H.length : Int) := by omega
        have m1 : (H.length : Int) < (G.length : Int) := by omega
        have m2 : (H.length : Int) ≤ (cl6 : Int) := by omega
        have m3 : (H.length : Int) ≤ (G.length : Int) := by omega
        have m4 : (G.length : Int) ≤ (cl6 : Int) := by omega
        have m5 : (G.length : Int) > 0 := by omega
        have m6 : 0 < G.length := by omega
        have HTL := hid (show (G.take H.length).length = H.length by rw [HGT.out])
        clear hgl hhl
        obtain ⟨ps0, ps1, ps2, ps3, psl, psf⟩ := ps.fourP
        obtain ⟨xo10, xo11, xo12, xo13, xo1l, xo1f⟩ := xo1.fourP
        go_wp2_with fail
        clear ps0 ps1 ps2 ps3 psl psf
        clear xo10 xo11 xo12 xo13 xo1l xo1f
        have ddp := dp.drew
        have dhB := hB.drew
        have do1 := o1.drew
        have dl1 := l1.below (Below.refl _ _).drew
        have dps := ps.drew
        have dxo1 := xo1.drew
        obtain ⟨ps0, ps1, ps2, ps3, psl, psf⟩ := ps.fourP
        obtain ⟨xo10, xo11, xo12, xo13, xo1l, xo1f⟩ := xo1.fourP
        have de0 := e0
        have dhbl := hbl
        go_wp2_with fail
        go_region_held3 (fun w' => w'.cell? ⟨w2.heap.size, 0, none⟩ = some (.int .i64 p.mx) ∧ w'.cell? ⟨w2.heap.size, 1, none⟩ = some (.slice A1 p.idle.length c1) ∧ w'.cell? ⟨w2.heap.size, 2, none⟩ = some (.slice A2 p.held.length c2) ∧ w'.cell? ⟨w2.heap.size, 3, none⟩ = some (.slice A3 p.wait.length c3) ∧ w'.cell? ⟨w3.heap.size, 0, none⟩ = some (.int .i64 R.mx) ∧ w'.cell? ⟨w3.heap.size, 1, none⟩ = some (.slice B3 R.idle.length b3) ∧ w'.cell? ⟨w3.heap.size, 2, none⟩ = some (.slice D3 R.held.length d3) ∧ w'.cell? ⟨w3.heap.size, 3, none⟩ = some (.slice E3 R.wait.length f3) ∧ w'.cell? ⟨bw, ow + H.length, none⟩ = some (.int .i64 N))
          (first | with_reducible exact ⟨ps0, ps1, ps2, ps3, xo10, xo11, xo12, xo13, e0⟩ | with_reducible exact ⟨aps0, aps1, aps2, aps3, axo10, axo11, axo12, axo13, ae0⟩ | with_reducible exact ⟨bps0, bps1, bps2, bps3, bxo10, bxo11, bxo12, bxo13, be0⟩ | go_keep)
          (first
            | (go_at_call 17; (with_reducible refine (iHeldBy_any p A1 A2 A3 c1 c2 c3 i _ ddp.sees ddp.i2 ddp.h2 ddp.w2).mono ?_); rintro e wa ⟨v9, rfl, ho9, hb⟩; rw [EH.out] at ho9; obtain ⟨A9, c9, rfl, k9, _⟩ := own_form ho9.out; have adp := ddp.below hb; have ahB := dhB.below hb; have ao1 := do1.below hb; have al1 := dl1.below hb; have aps := dps.below hb dps.lt; have axo1 := dxo1.below hb dxo1.lt; have ae0 := (hb.cell (p := ⟨bw, ow + H.length, none⟩) dhbl).trans de0; have ahbl := Nat.lt_of_lt_of_le dhbl hb.size; obtain ⟨aps0, aps1, aps2, aps3, apsl, apsf⟩ := aps.fourP; obtain ⟨axo10, axo11, axo12, axo13, axo1l, axo1f⟩ := axo1.fourP)
            | (go_at_call 16; (with_reducible refine (kEq_of (xs := G.take H.length) (ys := H) HGT.out HTL.out rfl ((Sees.of_own al1.out).itake H.length) (Sees.of_own ho9.out) (Nat.le_trans HHL.out (by decide))).mono ?_); rintro e wb ⟨rfl, hb⟩; have bdp := adp.below hb; have bhB := ahB.below hb; have bo1 := ao1.below hb; have bl1 := al1.below hb; have bps := aps.below hb aps.lt; have bxo1 := axo1.below hb axo1.lt; have be0 := (hb.cell (p := ⟨bw, ow + H.length, none⟩) ahbl).trans ae0; have bhbl := Nat.lt_of_lt_of_le ahbl hb.size; obtain ⟨bps0, bps1, bps2, bps3, bpsl, bpsf⟩ := bps.fourP; obtain ⟨bxo10, bxo11, bxo12, bxo13, bxo1l, bxo1f⟩ := bxo1.fourP)
            | fail)
        all_goals
          go_wp2
          go_ret
          exact ⟨by first | rfl | (simp; done) | (simp; omega), bhB.bel⟩
      · skip
        have hN1 : N = -1 := by rw [hN]; exact (acq_full hb hf).1
        clear hb hf hR hN
        subst hN1
        obtain ⟨ps0, ps1, ps2, ps3, psl, psf⟩ := ps.fourP
        go_wp2_with fail
        with_reducible refine (iAcquireConn_any p A1 A2 A3 c1 c2 c3 i _ dp.sees dp.k1 dp.i2 dp.h2 dp.w2).mono ?_
        rintro e w3 ⟨B3, D3, E3, b3, d3, f3, he, ho, hb⟩
        rw [ER.out, EN.out, EB.out] at he
        rw [ER.out] at ho
        subst he
        have o1 : OwnK w3 _ B3 D3 E3 b3 d3 f3 R := ⟨ho, HRl.out⟩
        clear ho
        replace dp := dp.below hb
        replace hB := hB.below hb
        replace ps := ps.below hb ps.lt
        clear hb
        clear ps0 ps1 ps2 ps3 psl psf
        replace dp := dp.alloc (.cells #[.int .i64 R.mx, .slice B3 R.idle.length b3, .slice D3 R.held.length d3, .slice E3 R.wait.length f3] 26)
        replace hB := hB.alloc (.cells #[.int .i64 R.mx, .slice B3 R.idle.length b3, .slice D3 R.held.length d3, .slice E3 R.wait.length f3] 26)
        replace o1 := o1.alloc (.cells #[.int .i64 R.mx, .slice B3 R.idle.length b3, .slice D3 R.held.length d3, .slice E3 R.wait.length f3] 26)
        replace ps := ps.alloc (.cells #[.int .i64 R.mx, .slice B3 R.idle.length b3, .slice D3 R.held.length d3, .slice E3 R.wait.length f3] 26)
        have xo1 := At.new w3 26 #[.int .i64 R.mx, .slice B3 R.idle.length b3, .slice D3 R.held.length d3, .slice E3 R.wait.length f3]
        obtain ⟨ps0, ps1, ps2, ps3, psl, psf⟩ := ps.fourP
        obtain ⟨xo10, xo11, xo12, xo13, xo1l, xo1f⟩ := xo1.fourP
        go_wp2_with fail
        with_reducible refine (sAcquireConn_any p A1 A2 A3 c1 c2 c3 i _ dp.sees dp.k1 dp.i2 dp.h2 dp.w2).mono ?_
        rintro e w4 ⟨B4, D4, E4, b4, d4, f4, he, ho, hb⟩
        rw [ER.out, EN.out, EB.out] at he
        rw [ER.out] at ho
        subst he
        have o2 : OwnK w4 _ B4 D4 E4 b4 d4 f4 R := ⟨ho, HRl.out⟩
        clear ho
        replace dp := dp.below hb
        replace hB := hB.below hb
        replace o1 := o1.below hb
        replace ps := ps.below hb ps.lt
        replace xo1 := xo1.below hb xo1.lt
        clear hb
        clear ps0 ps1 ps2 ps3 psl psf
        clear xo10 xo11 xo12 xo13 xo1l xo1f
        replace dp := dp.alloc (.cells #[.int .i64 R.mx, .slice B4 R.idle.length b4, .slice D4 R.held.length d4, .slice E4 R.wait.length f4] 26)
        replace hB := hB.alloc (.cells #[.int .i64 R.mx, .slice B4 R.idle.length b4, .slice D4 R.held.length d4, .slice E4 R.wait.length f4] 26)
        replace o1 := o1.alloc (.cells #[.int .i64 R.mx, .slice B4 R.idle.length b4, .slice D4 R.held.length d4, .slice E4 R.wait.length f4] 26)
        replace o2 := o2.alloc (.cells #[.int .i64 R.mx, .slice B4 R.idle.length b4, .slice D4 R.held.length d4, .slice E4 R.wait.length f4] 26)
        replace ps := ps.alloc (.cells #[.int .i64 R.mx, .slice B4 R.idle.length b4, .slice D4 R.held.length d4, .slice E4 R.wait.length f4] 26)
        replace xo1 := xo1.alloc (.cells #[.int .i64 R.mx, .slice B4 R.idle.length b4, .slice D4 R.held.length d4, .slice E4 R.wait.length f4] 26)
        have xo2 := At.new w4 26 #[.int .i64 R.mx, .slice B4 R.idle.length b4, .slice D4 R.held.length d4, .slice E4 R.wait.length f4]
        obtain ⟨ps0, ps1, ps2, ps3, psl, psf⟩ := ps.fourP
        obtain ⟨xo10, xo11, xo12, xo13, xo1l, xo1f⟩ := xo1.fourP
        obtain ⟨xo20, xo21, xo22, xo23, xo2l, xo2f⟩ := xo2.fourP
        go_wp2_with fail
        with_reducible refine (equalPool_same B3 D3 E3 B4 D4 E4 b3 d3 f3 b4 d4 f4 R _ o1.sees o2.sees (Nat.le_trans o1.i2 (by decide)) (Nat.le_trans o1.h2 (by decide)) (Nat.le_trans o1.w2 (by decide))).mono ?_
        rintro e w5 ⟨rfl, hb⟩
        replace dp := dp.below hb
        replace hB := hB.below hb
        replace o1 := o1.below hb
        replace o2 := o2.below hb
        replace ps := ps.below hb ps.lt
        replace xo1 := xo1.below hb xo1.lt
        replace xo2 := xo2.below hb xo2.lt
        clear hb
        clear ps0 ps1 ps2 ps3 psl psf
        clear xo10 xo11 xo12 xo13 xo1l xo1f
        clear xo20 xo21 xo22 xo23 xo2l xo2f
        obtain ⟨ps0, ps1, ps2, ps3, psl, psf⟩ := ps.fourP
        obtain ⟨xo10, xo11, xo12, xo13, xo1l, xo1f⟩ := xo1.fourP
        obtain ⟨xo20, xo21, xo22, xo23, xo2l, xo2f⟩ := xo2.fourP
        go_wp2_with fail
        with_reducible refine (equalPool_same B3 D3 E3 B4 D4 E4 b3 d3 f3 b4 d4 f4 R _ o1.sees o2.sees (Nat.le_trans o1.i2 (by decide)) (Nat.le_trans o1.h2 (by decide)) (Nat.le_trans o1.w2 (by decide))).mono ?_
        rintro e w6 ⟨rfl, hb⟩
        replace dp := dp.below hb
        replace hB := hB.below hb
        replace o1 := o1.below hb
        replace o2 := o2.below hb
        replace ps := ps.below hb ps.lt
        replace xo1 := xo1.below hb xo1.lt
        replace xo2 := xo2.below hb xo2.lt
        clear hb
        clear ps0 ps1 ps2 ps3 psl psf
        clear xo10 xo11 xo12 xo13 xo1l xo1f
        clear xo20 xo21 xo22 xo23 xo2l xo2f
        obtain ⟨ps0, ps1, ps2, ps3, psl, psf⟩ := ps.fourP
        obtain ⟨xo10, xo11, xo12, xo13, xo1l, xo1f⟩ := xo1.fourP
        obtain ⟨xo20, xo21, xo22, xo23, xo2l, xo2f⟩ := xo2.fourP
        go_wp2
        go_ret
        exact ⟨by first | rfl | (simp; done) | (simp; omega), hB.bel⟩
end Go.Proofs.Ytnfpnpdiglaebab

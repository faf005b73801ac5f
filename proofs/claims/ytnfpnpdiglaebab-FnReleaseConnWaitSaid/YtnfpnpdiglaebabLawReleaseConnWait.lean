/-
  The walk of the law FnReleaseConnWait: at every code it returns true and changes nothing that was there. Conditions: none.
-/
import Derived.Test.YtnfpnpdiglaebabLawPl
import Derived.Test.YtnfpnpdiglaebabLawFrame
import Derived.BigQuiet
import Derived.Deep.RegionHeld3
import Derived.Test.YtnfpnpdiglaebabLawPlC
import Derived.Test.YtnfpnpdiglaebabPlGenE
namespace Go.Proofs.Ytnfpnpdiglaebab
open Go.RowKit Pol

set_option maxHeartbeats 8000000 in
set_option maxRecDepth 16384 in
theorem walkReleaseConnWait (a : Option Addr) (len cap : Nat) (zs : List Int) (w : World) (hn : zs.length = len) (hc : len ≤ cap) (hcc : cap ≤ maxLen) (h : Sees w w.heap.size a (byts zs)) (hz : ∀ y ∈ zs, 0 ≤ y ∧ y ≤ 255) :
    Calls Try.prog 8 #[.slice a len cap] w fun e w' => e = .returned (.bool true) ∧ Below w.heap.size w w' := by
  have HE := hid hn
  have HC := hid hcc
  have HZ := hid hz
  clear hn hcc hz
  by_cases hbig : 1048576 < len
  · go_enter Try.func8, Try.ntmps8
    go_wp2
    go_ret
    exact ⟨rfl, Below.refl _ _⟩
  · go_enter Try.func8, Try.ntmps8
    go_wp2_with fail
    refine (drawReleaseConn_any _ _ _ _ _ h HZ.out HE.out hc (by omega) HC.out).mono ?_
    rintro e w2 ⟨A1, A2, A3, c1, c2, c3, p, i, rfl, dq⟩
    have dp := dq.ownk
    have hB : DB w w2 := dq.belw
    have hl7 := dq.2.2
    clear dq
    replace dp := dp.alloc (.cells #[.int .i64 p.mx, .slice A1 p.idle.length c1, .slice A2 p.held.length c2, .slice A3 p.wait.length c3] 26)
    replace hB := hB.alloc (.cells #[.int .i64 p.mx, .slice A1 p.idle.length c1, .slice A2 p.held.length c2, .slice A3 p.wait.length c3] 26)
    have ps := At.new w2 26 #[.int .i64 p.mx, .slice A1 p.idle.length c1, .slice A2 p.held.length c2, .slice A3 p.wait.length c3]
    obtain ⟨R, hR⟩ : ∃ R, R = relR p i := ⟨_, rfl⟩
    have ER : Hid (relR p i = R) := hid hR.symm
    obtain ⟨N, hN⟩ : ∃ N, N = relN p i := ⟨_, rfl⟩
    have EN : Hid (relN p i = N) := hid hN.symm
    have HRl := hid (show R.idle.length ≤ 13 ∧ R.held.length ≤ 13 ∧ R.wait.length ≤ 13 by rw [hR]; have := relR_small p i; omega)
    rcases hb : relB p i with _ | _
    · skip
      have EB := hid hb
      clear hb hR hN
      obtain ⟨ps0, ps1, ps2, ps3, psl, psf⟩ := ps.fourP
      go_wp2_with fail
      with_reducible refine (iReleaseConn_any p A1 A2 A3 c1 c2 c3 i _ dp.sees dp.k3 dp.i2 dp.h2 dp.w2).mono ?_
      rintro e w3 ⟨B3, D3, E3, b3, d3, f3, he, ho, hb⟩
      rw [ER.out, EN.out, EB.out] at he
      rw [ER.out] at ho
      subst he
      have o1 : OwnK w3 _ B3 D3 E3 b3 d3 f3 R := ⟨ho, HRl.out⟩
      clear ho
      replace dp := dp.below hb
      replace hB := hB.below hb
      replace ps := ps.below hb ps.lt
      clear hb
      clear ps0 ps1 ps2 ps3 psl psf
      replace dp := dp.alloc (.cells #[.int .i64 R.mx, .slice B3 R.idle.length b3, .slice D3 R.held.length d3, .slice E3 R.wait.length f3] 26)
      replace hB := hB.alloc (.cells #[.int .i64 R.mx, .slice B3 R.idle.length b3, .slice D3 R.held.length d3, .slice E3 R.wait.length f3] 26)
      replace o1 := o1.alloc (.cells #[.int .i64 R.mx, .slice B3 R.idle.length b3, .slice D3 R.held.length d3, .slice E3 R.wait.length f3] 26)
      replace ps := ps.alloc (.cells #[.int .i64 R.mx, .slice B3 R.idle.length b3, .slice D3 R.held.length d3, .slice E3 R.wait.length f3] 26)
      have xo1 := At.new w3 26 #[.int .i64 R.mx, .slice B3 R.idle.length b3, .slice D3 R.held.length d3, .slice E3 R.wait.length f3]
      obtain ⟨ps0, ps1, ps2, ps3, psl, psf⟩ := ps.fourP
      obtain ⟨xo10, xo11, xo12, xo13, xo1l, xo1f⟩ := xo1.fourP
      go_wp2_with fail
      with_reducible refine (sReleaseConn_any p A1 A2 A3 c1 c2 c3 i _ dp.sees dp.k3 dp.k2 dp.i2 dp.h2 dp.w2).mono ?_
      rintro e w4 ⟨B4, D4, E4, b4, d4, f4, he, ho, hb⟩
      rw [ER.out, EN.out, EB.out] at he
      rw [ER.out] at ho
      subst he
      have o2 : OwnK w4 _ B4 D4 E4 b4 d4 f4 R := ⟨ho, HRl.out⟩
      clear ho
      replace dp := dp.below hb
      replace hB := hB.below hb
      replace o1 := o1.below hb
      replace ps := ps.below hb ps.lt
      replace xo1 := xo1.below hb xo1.lt
      clear hb
      clear ps0 ps1 ps2 ps3 psl psf
      clear xo10 xo11 xo12 xo13 xo1l xo1f
      replace dp := dp.alloc (.cells #[.int .i64 R.mx, .slice B4 R.idle.length b4, .slice D4 R.held.length d4, .slice E4 R.wait.length f4] 26)
      replace hB := hB.alloc (.cells #[.int .i64 R.mx, .slice B4 R.idle.length b4, .slice D4 R.held.length d4, .slice E4 R.wait.length f4] 26)
      replace o1 := o1.alloc (.cells #[.int .i64 R.mx, .slice B4 R.idle.length b4, .slice D4 R.held.length d4, .slice E4 R.wait.length f4] 26)
      replace o2 := o2.alloc (.cells #[.int .i64 R.mx, .slice B4 R.idle.length b4, .slice D4 R.held.length d4, .slice E4 R.wait.length f4] 26)
      replace ps := ps.alloc (.cells #[.int .i64 R.mx, .slice B4 R.idle.length b4, .slice D4 R.held.length d4, .slice E4 R.wait.length f4] 26)
      replace xo1 := xo1.alloc (.cells #[.int .i64 R.mx, .slice B4 R.idle.length b4, .slice D4 R.held.length d4, .slice E4 R.wait.length f4] 26)
      have xo2 := At.new w4 26 #[.int .i64 R.mx, .slice B4 R.idle.length b4, .slice D4 R.held.length d4, .slice E4 R.wait.length f4]
      obtain ⟨ps0, ps1, ps2, ps3, psl, psf⟩ := ps.fourP
      obtain ⟨xo10, xo11, xo12, xo13, xo1l, xo1f⟩ := xo1.fourP
      obtain ⟨xo20, xo21, xo22, xo23, xo2l, xo2f⟩ := xo2.fourP
      go_wp2_with fail
      with_reducible refine (equalPool_same B3 D3 E3 B4 D4 E4 b3 d3 f3 b4 d4 f4 R _ o1.sees o2.sees (Nat.le_trans o1.i2 (by decide)) (Nat.le_trans o1.h2 (by decide)) (Nat.le_trans o1.w2 (by decide))).mono ?_
      rintro e w5 ⟨rfl, hb⟩
      replace dp := dp.below hb
      replace hB := hB.below hb
      replace o1 := o1.below hb
      replace o2 := o2.below hb
      replace ps := ps.below hb ps.lt
      replace xo1 := xo1.below hb xo1.lt
      replace xo2 := xo2.below hb xo2.lt
      clear hb
      clear ps0 ps1 ps2 ps3 psl psf
      clear xo10 xo11 xo12 xo13 xo1l xo1f
      clear xo20 xo21 xo22 xo23 xo2l xo2f
      obtain ⟨ps0, ps1, ps2, ps3, psl, psf⟩ := ps.fourP
      obtain ⟨xo10, xo11, xo12, xo13, xo1l, xo1f⟩ := xo1.fourP
      obtain ⟨xo20, xo21, xo22, xo23, xo2l, xo2f⟩ := xo2.fourP
      go_wp2_with fail
      with_reducible refine (equalPool_same B3 D3 E3 B4 D4 E4 b3 d3 f3 b4 d4 f4 R _ o1.sees o2.sees (Nat.le_trans o1.i2 (by decide)) (Nat.le_trans o1.h2 (by decide)) (Nat.le_trans o1.w2 (by decide))).mono ?_
      rintro e w6 ⟨rfl, hb⟩
      replace dp := dp.below hb
      replace hB := hB.below hb
      replace o1 := o1.below hb
      replace o2 := o2.below hb
      replace ps := ps.below hb ps.lt
      replace xo1 := xo1.below hb xo1.lt
      replace xo2 := xo2.below hb xo2.lt
      clear hb
      clear ps0 ps1 ps2 ps3 psl psf
      clear xo10 xo11 xo12 xo13 xo1l xo1f
      clear xo20 xo21 xo22 xo23 xo2l xo2f
      obtain ⟨ps0, ps1, ps2, ps3, psl, psf⟩ := ps.fourP
      obtain ⟨xo10, xo11, xo12, xo13, xo1l, xo1f⟩ := xo1.fourP
      obtain ⟨xo20, xo21, xo22, xo23, xo2l, xo2f⟩ := xo2.fourP
      go_wp2
      go_ret
      exact ⟨by first | rfl | (simp; done) | (simp; omega), hB.bel⟩
    · skip
      have EB := hid hb
      have HB := hid hb
      clear hb hR hN
      obtain ⟨ps0, ps1, ps2, ps3, psl, psf⟩ := ps.fourP
      go_wp2_with fail
      with_reducible refine (iReleaseConn_any p A1 A2 A3 c1 c2 c3 i _ dp.sees dp.k3 dp.i2 dp.h2 dp.w2).mono ?_
      rintro e w3 ⟨B3, D3, E3, b3, d3, f3, he, ho, hb⟩
      rw [ER.out, EN.out, EB.out] at he
      rw [ER.out] at ho
      subst he
      have o1 : OwnK w3 _ B3 D3 E3 b3 d3 f3 R := ⟨ho, HRl.out⟩
      clear ho
      replace dp := dp.below hb
      replace hB := hB.below hb
      replace ps := ps.below hb ps.lt
      clear hb
      clear ps0 ps1 ps2 ps3 psl psf
      replace dp := dp.alloc (.cells #[.int .i64 R.mx, .slice B3 R.idle.length b3, .slice D3 R.held.length d3, .slice E3 R.wait.length f3] 26)
      replace hB := hB.alloc (.cells #[.int .i64 R.mx, .slice B3 R.idle.length b3, .slice D3 R.held.length d3, .slice E3 R.wait.length f3] 26)
      replace o1 := o1.alloc (.cells #[.int .i64 R.mx, .slice B3 R.idle.length b3, .slice D3 R.held.length d3, .slice E3 R.wait.length f3] 26)
      replace ps := ps.alloc (.cells #[.int .i64 R.mx, .slice B3 R.idle.length b3, .slice D3 R.held.length d3, .slice E3 R.wait.length f3] 26)
      have xo1 := At.new w3 26 #[.int .i64 R.mx, .slice B3 R.idle.length b3, .slice D3 R.held.length d3, .slice E3 R.wait.length f3]
      obtain ⟨ps0, ps1, ps2, ps3, psl, psf⟩ := ps.fourP
      obtain ⟨xo10, xo11, xo12, xo13, xo1l, xo1f⟩ := xo1.fourP
      go_wp2_with fail
      with_reducible refine (sReleaseConn_any p A1 A2 A3 c1 c2 c3 i _ dp.sees dp.k3 dp.k2 dp.i2 dp.h2 dp.w2).mono ?_
      rintro e w4 ⟨B4, D4, E4, b4, d4, f4, he, ho, hb⟩
      rw [ER.out, EN.out, EB.out] at he
      rw [ER.out] at ho
      subst he
      have o2 : OwnK w4 _ B4 D4 E4 b4 d4 f4 R := ⟨ho, HRl.out⟩
      clear ho
      replace dp := dp.below hb
      replace hB := hB.below hb
      replace o1 := o1.below hb
      replace ps := ps.below hb ps.lt
      replace xo1 := xo1.below hb xo1.lt
      clear hb
      clear ps0 ps1 ps2 ps3 psl psf
      clear xo10 xo11 xo12 xo13 xo1l xo1f
      replace dp := dp.alloc (.cells #[.int .i64 R.mx, .slice B4 R.idle.length b4, .slice D4 R.held.length d4, .slice E4 R.wait.length f4] 26)
      replace hB := hB.alloc (.cells #[.int .i64 R.mx, .slice B4 R.idle.length b4, .slice D4 R.held.length d4, .slice E4 R.wait.length f4] 26)
      replace o1 := o1.alloc (.cells #[.int .i64 R.mx, .slice B4 R.idle.length b4, .slice D4 R.held.length d4, .slice E4 R.wait.length f4] 26)
      replace o2 := o2.alloc (.cells #[.int .i64 R.mx, .slice B4 R.idle.length b4, .slice D4 R.held.length d4, .slice E4 R.wait.length f4] 26)
      replace ps := ps.alloc (.cells #[.int .i64 R.mx, .slice B4 R.idle.length b4, .slice D4 R.held.length d4, .slice E4 R.wait.length f4] 26)
      replace xo1 := xo1.alloc (.cells #[.int .i64 R.mx, .slice B4 R.idle.length b4, .slice D4 R.held.length d4, .slice E4 R.wait.length f4] 26)
      have xo2 := At.new w4 26 #[.int .i64 R.mx, .slice B4 R.idle.length b4, .slice D4 R.held.length d4, .slice E4 R.wait.length f4]
      obtain ⟨ps0, ps1, ps2, ps3, psl, psf⟩ := ps.fourP
      obtain ⟨xo10, xo11, xo12, xo13, xo1l, xo1f⟩ := xo1.fourP
      obtain ⟨xo20, xo21, xo22, xo23, xo2l, xo2f⟩ := xo2.fourP
      go_wp2_with fail
      with_reducible refine (equalPool_same B3 D3 E3 B4 D4 E4 b3 d3 f3 b4 d4 f4 R _ o1.sees o2.sees (Nat.le_trans o1.i2 (by decide)) (Nat.le_trans o1.h2 (by decide)) (Nat.le_trans o1.w2 (by decide))).mono ?_
      rintro e w5 ⟨rfl, hb⟩
      replace dp := dp.below hb
      replace hB := hB.below hb
      replace o1 := o1.below hb
      replace o2 := o2.below hb
      replace ps := ps.below hb ps.lt
      replace xo1 := xo1.below hb xo1.lt
      replace xo2 := xo2.below hb xo2.lt
      clear hb
      clear ps0 ps1 ps2 ps3 psl psf
      clear xo10 xo11 xo12 xo13 xo1l xo1f
      clear xo20 xo21 xo22 xo23 xo2l xo2f
      clear o1
      clear xo1
      clear o2
      clear xo2
      obtain ⟨ps0, ps1, ps2, ps3, psl, psf⟩ := ps.fourP
      go_wp2
      clear ps0 ps1 ps2 ps3 psl psf
      have hpn := ps.lt
      have hBn : w.heap.size ≤ w5.heap.size := Below.size hB
      replace dp := dp.alloc (.cells #[.int .i64 p.mx, .slice A1 p.idle.length c1, .slice A2 p.held.length c2, .slice A3 p.wait.length c3] 26)
      replace hB := hB.alloc (.cells #[.int .i64 p.mx, .slice A1 p.idle.length c1, .slice A2 p.held.length c2, .slice A3 p.wait.length c3] 26)
      replace ps := ps.alloc (.cells #[.int .i64 p.mx, .slice A1 p.idle.length c1, .slice A2 p.held.length c2, .slice A3 p.wait.length c3] 26)
      have nw := At.new w5 26 #[.int .i64 p.mx, .slice A1 p.idle.length c1, .slice A2 p.held.length c2, .slice A3 p.wait.length c3]
      go_loopw [12] (fun t wr => ∃ (k : Nat) (Q : Pl) (B1 B2 B3 : Option Addr) (d1 d2 d3 : Nat), k ≤ p.wait.length ∧ t = .int .i64 k ∧ Hid (relB Q i = true) ∧ Hid (Q.wait = p.wait.drop k) ∧ At wr w5.heap.size 26 #[.int .i64 Q.mx, .slice B1 Q.idle.length d1, .slice B2 Q.held.length d2, .slice B3 Q.wait.length d3] ∧ (∃ bs : Nat, OwnK wr bs B1 B2 B3 d1 d2 d3 Q) ∧ (∃ bs : Nat, OwnK wr bs A1 A2 A3 c1 c2 c3 p) ∧ At wr w2.heap.size 26 #[.int .i64 p.mx, .slice A1 p.idle.length c1, .slice A2 p.held.length c2, .slice A3 p.wait.length c3] ∧ DB w wr) (fun t _ => p.wait.length - (intOf t).toNat)
      case atStart => exact ⟨0, p, _, _, _, _, _, _, Nat.zero_le _, rfl, HB, hid rfl, nw, ⟨_, dp⟩, ⟨_, dp⟩, ps, hB⟩
      case round =>
        clear nw dp ps hB
        obtain ⟨k, Q, B1, B2, B3, d1, d2, d3, hk, rfl, HQB, HQW, nw, ⟨_, nq⟩, ⟨_, dp⟩, ps, hB⟩ := hrel
        have hl13 := hl7.2.2
        by_cases hlt : k < p.wait.length
        · skip
          have hki : (k : Int) < (p.wait.length : Int) := by omega
          have hk0 : (0 : Int) ≤ (k : Int) := by omega
          obtain ⟨f1, f2, f3⟩ := rel_wait HQB.out HQW.out hlt
          obtain ⟨S, hS⟩ : ∃ S, S = relR Q i := ⟨_, rfl⟩
          have ES : Hid (relR Q i = S) := hid hS.symm
          have HSl := hid (show S.idle.length ≤ 13 ∧ S.held.length ≤ 13 ∧ S.wait.length ≤ 13 by rw [hS]; have := relR_small Q i; omega)
          rw [← hS] at f2 f3
          obtain ⟨x, hx⟩ : ∃ x, x = p.wait[k] := ⟨_, rfl⟩
          rw [← hx] at f1
          have EM := hid f1
          have HSB := hid f2
          have HSW := hid f3
          have HXX := hid hx
          clear hS hx f1 f2 f3
          obtain ⟨ps0, ps1, ps2, ps3, psl, psf⟩ := ps.fourP
          obtain ⟨nw0, nw1, nw2, nw3, nwl, nwf⟩ := nw.fourP
          go_wp2_with fail
          clear ps0 ps1 ps2 ps3 psl psf
          clear nw0 nw1 nw2 nw3 nwl nwf
          obtain ⟨ps0, ps1, ps2, ps3, psl, psf⟩ := ps.fourP
          obtain ⟨nw0, nw1, nw2, nw3, nwl, nwf⟩ := nw.fourP
          go_wp2_with fail
          with_reducible refine (iReleaseConn_any Q B1 B2 B3 d1 d2 d3 i _ nq.sees nq.k3 nq.i2 nq.h2 nq.w2).mono ?_
          rintro e w6 ⟨B6, D6, E6, b6, d6, f6, he, ho, hb⟩
          rw [ES.out, EM.out, HQB.out] at he
          rw [ES.out] at ho
          subst he
          have o3 : OwnK w6 _ B6 D6 E6 b6 d6 f6 S := ⟨ho, HSl.out⟩
          clear ho
          replace dp := dp.below hb
          replace nq := nq.below hb
          replace hB := hB.below hb
          replace ps := ps.below hb ps.lt
          replace nw := nw.below hb nw.lt
          clear hb
          clear ps0 ps1 ps2 ps3 psl psf
          clear nw0 nw1 nw2 nw3 nwl nwf
          replace dp := dp.alloc (.cells #[.int .i64 S.mx, .slice B6 S.idle.length b6, .slice D6 S.held.length d6, .slice E6 S.wait.length f6] 26)
          replace nq := nq.alloc (.cells #[.int .i64 S.mx, .slice B6 S.idle.length b6, .slice D6 S.held.length d6, .slice E6 S.wait.length f6] 26)
          replace hB := hB.alloc (.cells #[.int .i64 S.mx, .slice B6 S.idle.length b6, .slice D6 S.held.length d6, .slice E6 S.wait.length f6] 26)
          replace o3 := o3.alloc (.cells #[.int .i64 S.mx, .slice B6 S.idle.length b6, .slice D6 S.held.length d6, .slice E6 S.wait.length f6] 26)
          replace ps := ps.alloc (.cells #[.int .i64 S.mx, .slice B6 S.idle.length b6, .slice D6 S.held.length d6, .slice E6 S.wait.length f6] 26)
          replace nw := nw.alloc (.cells #[.int .i64 S.mx, .slice B6 S.idle.length b6, .slice D6 S.held.length d6, .slice E6 S.wait.length f6] 26)
          have xo3 := At.new w6 26 #[.int .i64 S.mx, .slice B6 S.idle.length b6, .slice D6 S.held.length d6, .slice E6 S.wait.length f6]
          obtain ⟨bw, ow, hE, hbl, e0⟩ := dp.sees.wait.int hlt
          rw [← HXX.out] at e0
          subst hE
          obtain ⟨hp9, hg9⟩ := pool_put (.int .i64 S.mx) (.slice B6 S.idle.length b6) (.slice D6 S.held.length d6) (.slice E6 S.wait.length f6) nw rfl
          have dp9 := dp.past nw hg9
          have o39 := o3.past nw hg9
          have ps9 := ps.past hg9 (Nat.ne_of_lt hpn)
          have hB9 : DB w _ := below_put hB hg9 hBn (Below.size hB)
          obtain ⟨ps0, ps1, ps2, ps3, psl, psf⟩ := ps.fourP
          obtain ⟨nw0, nw1, nw2, nw3, nwl, nwf⟩ := nw.fourP
          obtain ⟨xo30, xo31, xo32, xo33, xo3l, xo3f⟩ := xo3.fourP
          go_wp2
          go_roundw
          case rel => exact ⟨k + 1, S, _, _, _, _, _, _, by omega, by go_num, HSB, HSW, hp9, ⟨_, o39⟩, ⟨_, dp9⟩, ps9, hB9⟩
          case measure => simp [intOf]; omega
        · skip
          have hki : ¬ (k : Int) < (p.wait.length : Int) := by omega
          obtain ⟨f1, _⟩ := rel_none HQB.out (HQW.out.trans (List.drop_eq_nil_of_le (by omega)))
          have EM := hid f1
          obtain ⟨S, hS⟩ : ∃ S, S = relR Q i := ⟨_, rfl⟩
          have ES : Hid (relR Q i = S) := hid hS.symm
          have HSl := hid (show S.idle.length ≤ 13 ∧ S.held.length ≤ 13 ∧ S.wait.length ≤ 13 by rw [hS]; have := relR_small Q i; omega)
          clear hS f1
          obtain ⟨ps0, ps1, ps2, ps3, psl, psf⟩ := ps.fourP
          obtain ⟨nw0, nw1, nw2, nw3, nwl, nwf⟩ := nw.fourP
          go_wp2_with fail
          clear ps0 ps1 ps2 ps3 psl psf
          clear nw0 nw1 nw2 nw3 nwl nwf
          obtain ⟨ps0, ps1, ps2, ps3, psl, psf⟩ := ps.fourP
          obtain ⟨nw0, nw1, nw2, nw3, nwl, nwf⟩ := nw.fourP
          go_wp2_with fail
          with_reducible refine (iReleaseConn_any Q B1 B2 B3 d1 d2 d3 i _ nq.sees nq.k3 nq.i2 nq.h2 nq.w2).mono ?_
          rintro e w6 ⟨B6, D6, E6, b6, d6, f6, he, ho, hb⟩
          rw [ES.out, EM.out, HQB.out] at he
          rw [ES.out] at ho
          subst he
          have o3 : OwnK w6 _ B6 D6 E6 b6 d6 f6 S := ⟨ho, HSl.out⟩
          clear ho
          replace dp := dp.below hb
          replace nq := nq.below hb
          replace hB := hB.below hb
          replace ps := ps.below hb ps.lt
          replace nw := nw.below hb nw.lt
          clear hb
          clear ps0 ps1 ps2 ps3 psl psf
          clear nw0 nw1 nw2 nw3 nwl nwf
          replace dp := dp.alloc (.cells #[.int .i64 S.mx, .slice B6 S.idle.length b6, .slice D6 S.held.length d6, .slice E6 S.wait.length f6] 26)
          replace nq := nq.alloc (.cells #[.int .i64 S.mx, .slice B6 S.idle.length b6, .slice D6 S.held.length d6, .slice E6 S.wait.length f6] 26)
          replace hB := hB.alloc (.cells #[.int .i64 S.mx, .slice B6 S.idle.length b6, .slice D6 S.held.length d6, .slice E6 S.wait.length f6] 26)
          replace o3 := o3.alloc (.cells #[.int .i64 S.mx, .slice B6 S.idle.length b6, .slice D6 S.held.length d6, .slice E6 S.wait.length f6] 26)
          replace ps := ps.alloc (.cells #[.int .i64 S.mx, .slice B6 S.idle.length b6, .slice D6 S.held.length d6, .slice E6 S.wait.length f6] 26)
          replace nw := nw.alloc (.cells #[.int .i64 S.mx, .slice B6 S.idle.length b6, .slice D6 S.held.length d6, .slice E6 S.wait.length f6] 26)
          have xo3 := At.new w6 26 #[.int .i64 S.mx, .slice B6 S.idle.length b6, .slice D6 S.held.length d6, .slice E6 S.wait.length f6]
          obtain ⟨ps0, ps1, ps2, ps3, psl, psf⟩ := ps.fourP
          obtain ⟨nw0, nw1, nw2, nw3, nwl, nwf⟩ := nw.fourP
          obtain ⟨xo30, xo31, xo32, xo33, xo3l, xo3f⟩ := xo3.fourP
          go_wp2
          go_ret
          exact ⟨by first | rfl | (simp; done) | (simp; omega), hB.bel⟩
end Go.Proofs.Ytnfpnpdiglaebab

/-
  The walk of the law FnReleaseConnAll: at every code it returns true and changes nothing that was there. Conditions: none.
-/
import Derived.Test.YtnfpnpdiglaebaaLawPl
import Derived.Test.YtnfpnpdiglaebaaLawFrame
import Derived.BigQuiet
import Derived.Deep.RegionHeld3
import Derived.Test.YtnfpnpdiglaebaaLawPlC
import Derived.Test.YtnfpnpdiglaebaaPlGenE
namespace Go.Proofs.Ytnfpnpdiglaebaa
open Go.RowKit Pol

set_option maxHeartbeats 8000000 in
set_option maxRecDepth 16384 in
theorem walkReleaseConnAll (a : Option Addr) (len cap : Nat) (zs : List Int) (w : World) (hn : zs.length = len) (hc : len ≤ cap) (hcc : cap ≤ maxLen) (h : Sees w w.heap.size a (byts zs)) (hz : ∀ y ∈ zs, 0 ≤ y ∧ y ≤ 255) :
    Calls Try.prog 7 #[.slice a len cap] w fun e w' => e = .returned (.bool true) ∧ Below w.heap.size w w' := by
  have HE := hid hn
  have HC := hid hcc
  have HZ := hid hz
  clear hn hcc hz
  by_cases hbig : 1048576 < len
  · go_enter Try.func7, Try.ntmps7
    go_wp2
    go_ret
    exact ⟨rfl, Below.refl _ _⟩
  · go_enter Try.func7, Try.ntmps7
    go_wp2_with fail
    refine (drawReleaseConn_any _ _ _ _ _ h HZ.out HE.out hc (by omega) HC.out).mono ?_
    rintro e w2 ⟨A1, A2, A3, c1, c2, c3, p, i, rfl, dq⟩
    have dp := dq.ownk
    have hB : DB w w2 := dq.belw
    have hl7 := dq.2.2
    clear dq
    replace dp := dp.alloc (.cells #[.int .i64 p.mx, .slice A1 p.idle.length c1, .slice A2 p.held.length c2, .slice A3 p.wait.length c3] 26)
    replace hB := hB.alloc (.cells #[.int .i64 p.mx, .slice A1 p.idle.length c1, .slice A2 p.held.length c2, .slice A3 p.wait.length c3] 26)
    have ps := At.new w2 26 #[.int .i64 p.mx, .slice A1 p.idle.length c1, .slice A2 p.held.length c2, .slice A3 p.wait.length c3]
    obtain ⟨R, hR⟩ : ∃ R, R = relR p i := ⟨_, rfl⟩
    have ER : Hid (relR p i = R) := hid hR.symm
    obtain ⟨N, hN⟩ : ∃ N, N = relN p i := ⟨_, rfl⟩
    have EN : Hid (relN p i = N) := hid hN.symm
    have HRl := hid (show R.idle.length ≤ 13 ∧ R.held.length ≤ 13 ∧ R.wait.length ≤ 13 by rw [hR]; have := relR_small p i; omega)
    rcases hb : relB p i with _ | _
    · skip
      have EB := hid hb
      clear hb hR hN
      obtain ⟨ps0, ps1, ps2, ps3, psl, psf⟩ := ps.fourP
      go_wp2_with fail
      with_reducible refine (iReleaseConn_any p A1 A2 A3 c1 c2 c3 i _ dp.sees dp.k3 dp.i2 dp.h2 dp.w2).mono ?_
      rintro e w3 ⟨B3, D3, E3, b3, d3, f3, he, ho, hb⟩
      rw [ER.out, EN.out, EB.out] at he
      rw [ER.out] at ho
      subst he
      have o1 : OwnK w3 _ B3 D3 E3 b3 d3 f3 R := ⟨ho, HRl.out⟩
      clear ho
      replace dp := dp.below hb
      replace hB := hB.below hb
      replace ps := ps.below hb ps.lt
      clear hb
      clear ps0 ps1 ps2 ps3 psl psf
      replace dp := dp.alloc (.cells #[.int .i64 R.mx, .slice B3 R.idle.length b3, .slice D3 R.held.length d3, .slice E3 R.wait.length f3] 26)
      replace hB := hB.alloc (.cells #[.int .i64 R.mx, .slice B3 R.idle.length b3, .slice D3 R.held.length d3, .slice E3 R.wait.length f3] 26)
      replace o1 := o1.alloc (.cells #[.int .i64 R.mx, .slice B3 R.idle.length b3, .slice D3 R.held.length d3, .slice E3 R.wait.length f3] 26)
      replace ps := ps.alloc (.cells #[.int .i64 R.mx, .slice B3 R.idle.length b3, .slice D3 R.held.length d3, .slice E3 R.wait.length f3] 26)
      have xo1 := At.new w3 26 #[.int .i64 R.mx, .slice B3 R.idle.length b3, .slice D3 R.held.length d3, .slice E3 R.wait.length f3]
      obtain ⟨ps0, ps1, ps2, ps3, psl, psf⟩ := ps.fourP
      obtain ⟨xo10, xo11, xo12, xo13, xo1l, xo1f⟩ := xo1.fourP
      go_wp2_with fail
      with_reducible refine (sReleaseConn_any p A1 A2 A3 c1 c2 c3 i _ dp.sees dp.k3 dp.k2 dp.i2 dp.h2 dp.w2).mono ?_
      rintro e w4 ⟨B4, D4, E4, b4, d4, f4, he, ho, hb⟩
      rw [ER.out, EN.out, EB.out] at he
      rw [ER.out] at ho
      subst he
      have o2 : OwnK w4 _ B4 D4 E4 b4 d4 f4 R := ⟨ho, HRl.out⟩
      clear ho
      replace dp := dp.below hb
      replace hB := hB.below hb
      replace o1 := o1.below hb
      replace ps := ps.below hb ps.lt
      replace xo1 := xo1.below hb xo1.lt
      clear hb
      clear ps0 ps1 ps2 ps3 psl psf
      clear xo10 xo11 xo12 xo13 xo1l xo1f
      replace dp := dp.alloc (.cells #[.int .i64 R.mx, .slice B4 R.idle.length b4, .slice D4 R.held.length d4, .slice E4 R.wait.length f4] 26)
      replace hB := hB.alloc (.cells #[.int .i64 R.mx, .slice B4 R.idle.length b4, .slice D4 R.held.length d4, .slice E4 R.wait.length f4] 26)
      replace o1 := o1.alloc (.cells #[.int .i64 R.mx, .slice B4 R.idle.length b4, .slice D4 R.held.length d4, .slice E4 R.wait.length f4] 26)
      replace o2 := o2.alloc (.cells #[.int .i64 R.mx, .slice B4 R.idle.length b4, .slice D4 R.held.length d4, .slice E4 R.wait.length f4] 26)
      replace ps := ps.alloc (.cells #[.int .i64 R.mx, .slice B4 R.idle.length b4, .slice D4 R.held.length d4, .slice E4 R.wait.length f4] 26)
      replace xo1 := xo1.alloc (.cells #[.int .i64 R.mx, .slice B4 R.idle.length b4, .slice D4 R.held.length d4, .slice E4 R.wait.length f4] 26)
      have xo2 := At.new w4 26 #[.int .i64 R.mx, .slice B4 R.idle.length b4, .slice D4 R.held.length d4, .slice E4 R.wait.length f4]
      obtain ⟨ps0, ps1, ps2, ps3, psl, psf⟩ := ps.fourP
      obtain ⟨xo10, xo11, xo12, xo13, xo1l, xo1f⟩ := xo1.fourP
      obtain ⟨xo20, xo21, xo22, xo23, xo2l, xo2f⟩ := xo2.fourP
      go_wp2_with fail
      with_reducible refine (equalPool_same B3 D3 E3 B4 D4 E4 b3 d3 f3 b4 d4 f4 R _ o1.sees o2.sees (Nat.le_trans o1.i2 (by decide)) (Nat.le_trans o1.h2 (by decide)) (Nat.le_trans o1.w2 (by decide))).mono ?_
      rintro e w5 ⟨rfl, hb⟩
      replace dp := dp.below hb
      replace hB := hB.below hb
      replace o1 := o1.below hb
      replace o2 := o2.below hb
      replace ps := ps.below hb ps.lt
      replace xo1 := xo1.below hb xo1.lt
      replace xo2 := xo2.below hb xo2.lt
      clear hb
      clear ps0 ps1 ps2 ps3 psl psf
      clear xo10 xo11 xo12 xo13 xo1l xo1f
      clear xo20 xo21 xo22 xo23 xo2l xo2f
      obtain ⟨ps0, ps1, ps2, ps3, psl, psf⟩ := ps.fourP
      obtain ⟨xo10, xo11, xo12, xo13, xo1l, xo1f⟩ := xo1.fourP
      obtain ⟨xo20, xo21, xo22, xo23, xo2l, xo2f⟩ := xo2.fourP
      go_wp2_with fail
      with_reducible refine (equalPool_same B3 D3 E3 B4 D4 E4 b3 d3 f3 b4 d4 f4 R _ o1.sees o2.sees (Nat.le_trans o1.i2 (by decide)) (Nat.le_trans o1.h2 (by decide)) (Nat.le_trans o1.w2 (by decide))).mono ?_
      rintro e w6 ⟨rfl, hb⟩
      replace dp := dp.below hb
      replace hB := hB.below hb
      replace o1 := o1.below hb
      replace o2 := o2.below hb
      replace ps := ps.below hb ps.lt
      replace xo1 := xo1.below hb xo1.lt
      replace xo2 := xo2.below hb xo2.lt
      clear hb
      clear ps0 ps1 ps2 ps3 psl psf
      clear xo10 xo11 xo12 xo13 xo1l xo1f
      clear xo20 xo21 xo22 xo23 xo2l xo2f
      obtain ⟨ps0, ps1, ps2, ps3, psl, psf⟩ := ps.fourP
      obtain ⟨xo10, xo11, xo12, xo13, xo1l, xo1f⟩ := xo1.fourP
      obtain ⟨xo20, xo21, xo22, xo23, xo2l, xo2f⟩ := xo2.fourP
      go_wp2
      go_ret
      exact ⟨by first | rfl | (simp; done) | (simp; omega), hB.bel⟩
    · skip
      have EB := hid hb
      have HOK := hid (show okB R = true by rw [hR]; exact relR_ok hb)
      have HSUM := hid (show R.idle.length + R.held.length = p.idle.length + p.held.length by rw [hR]; exact (rel_step hb).2.2)
      clear hb hR hN
      obtain ⟨ps0, ps1, ps2, ps3, psl, psf⟩ := ps.fourP
      go_wp2_with fail
      with_reducible refine (iReleaseConn_any p A1 A2 A3 c1 c2 c3 i _ dp.sees dp.k3 dp.i2 dp.h2 dp.w2).mono ?_
      rintro e w3 ⟨B3, D3, E3, b3, d3, f3, he, ho, hb⟩
      rw [ER.out, EN.out, EB.out] at he
      rw [ER.out] at ho
      subst he
      have o1 : OwnK w3 _ B3 D3 E3 b3 d3 f3 R := ⟨ho, HRl.out⟩
      clear ho
      replace dp := dp.below hb
      replace hB := hB.below hb
      replace ps := ps.below hb ps.lt
      clear hb
      clear ps0 ps1 ps2 ps3 psl psf
      replace dp := dp.alloc (.cells #[.int .i64 R.mx, .slice B3 R.idle.length b3, .slice D3 R.held.length d3, .slice E3 R.wait.length f3] 26)
      replace hB := hB.alloc (.cells #[.int .i64 R.mx, .slice B3 R.idle.length b3, .slice D3 R.held.length d3, .slice E3 R.wait.length f3] 26)
      replace o1 := o1.alloc (.cells #[.int .i64 R.mx, .slice B3 R.idle.length b3, .slice D3 R.held.length d3, .slice E3 R.wait.length f3] 26)
      replace ps := ps.alloc (.cells #[.int .i64 R.mx, .slice B3 R.idle.length b3, .slice D3 R.held.length d3, .slice E3 R.wait.length f3] 26)
      have xo1 := At.new w3 26 #[.int .i64 R.mx, .slice B3 R.idle.length b3, .slice D3 R.held.length d3, .slice E3 R.wait.length f3]
      obtain ⟨ps0, ps1, ps2, ps3, psl, psf⟩ := ps.fourP
      obtain ⟨xo10, xo11, xo12, xo13, xo1l, xo1f⟩ := xo1.fourP
      go_wp2_with fail
      with_reducible refine (sReleaseConn_any p A1 A2 A3 c1 c2 c3 i _ dp.sees dp.k3 dp.k2 dp.i2 dp.h2 dp.w2).mono ?_
      rintro e w4 ⟨B4, D4, E4, b4, d4, f4, he, ho, hb⟩
      rw [ER.out, EN.out, EB.out] at he
      rw [ER.out] at ho
      subst he
      have o2 : OwnK w4 _ B4 D4 E4 b4 d4 f4 R := ⟨ho, HRl.out⟩
      clear ho
      replace dp := dp.below hb
      replace hB := hB.below hb
      replace o1 := o1.below hb
      replace ps := ps.below hb ps.lt
      replace xo1 := xo1.below hb xo1.lt
      clear hb
      clear ps0 ps1 ps2 ps3 psl psf
      clear xo10 xo11 xo12 xo13 xo1l xo1f
      replace dp := dp.alloc (.cells #[.int .i64 R.mx, .slice B4 R.idle.length b4, .slice D4 R.held.length d4, .slice E4 R.wait.length f4] 26)
      replace hB := hB.alloc (.cells #[.int .i64 R.mx, .slice B4 R.idle.length b4, .slice D4 R.held.length d4, .slice E4 R.wait.length f4] 26)
      replace o1 := o1.alloc (.cells #[.int .i64 R.mx, .slice B4 R.idle.length b4, .slice D4 R.held.length d4, .slice E4 R.wait.length f4] 26)
      replace o2 := o2.alloc (.cells #[.int .i64 R.mx, .slice B4 R.idle.length b4, .slice D4 R.held.length d4, .slice E4 R.wait.length f4] 26)
      replace ps := ps.alloc (.cells #[.int .i64 R.mx, .slice B4 R.idle.length b4, .slice D4 R.held.length d4, .slice E4 R.wait.length f4] 26)
      replace xo1 := xo1.alloc (.cells #[.int .i64 R.mx, .slice B4 R.idle.length b4, .slice D4 R.held.length d4, .slice E4 R.wait.length f4] 26)
      have xo2 := At.new w4 26 #[.int .i64 R.mx, .slice B4 R.idle.length b4, .slice D4 R.held.length d4, .slice E4 R.wait.length f4]
      obtain ⟨ps0, ps1, ps2, ps3, psl, psf⟩ := ps.fourP
      obtain ⟨xo10, xo11, xo12, xo13, xo1l, xo1f⟩ := xo1.fourP
      obtain ⟨xo20, xo21, xo22, xo23, xo2l, xo2f⟩ := xo2.fourP
      go_wp2_with fail
      with_reducible refine (equalPool_same B3 D3 E3 B4 D4 E4 b3 d3 f3 b4 d4 f4 R _ o1.sees o2.sees (Nat.le_trans o1.i2 (by decide)) (Nat.le_trans o1.h2 (by decide)) (Nat.le_trans o1.w2 (by decide))).mono ?_
      rintro e w5 ⟨rfl, hb⟩
      replace dp := dp.below hb
      replace hB := hB.below hb
      replace o1 := o1.below hb
      replace o2 := o2.below hb
      replace ps := ps.below hb ps.lt
      replace xo1 := xo1.below hb xo1.lt
      replace xo2 := xo2.below hb xo2.lt
      clear hb
      clear ps0 ps1 ps2 ps3 psl psf
      clear xo10 xo11 xo12 xo13 xo1l xo1f
      clear xo20 xo21 xo22 xo23 xo2l xo2f
      clear o2
      clear xo2
      have hrl := HRl.out
      have hw12 : IntKind.i64.wrap ((R.wait.length : Int) + (R.held.length : Int)) = (R.wait.length : Int) + (R.held.length : Int) := by rw [IntKind.wrap_i64]; omega
      have HTD := hid (show (R.wait.length : Int) + (R.held.length : Int) = (todo R : Nat) by unfold todo; omega)
      have HTL := hid (show todo R ≤ 26 by unfold todo; omega)
      obtain ⟨ps0, ps1, ps2, ps3, psl, psf⟩ := ps.fourP
      obtain ⟨xo10, xo11, xo12, xo13, xo1l, xo1f⟩ := xo1.fourP
      go_wp2
      clear ps0 ps1 ps2 ps3 psl psf
      clear xo10 xo11 xo12 xo13 xo1l xo1f
      have hpn := ps.lt
      have hBn : w.heap.size ≤ w5.heap.size := Below.size hB
      replace dp := dp.alloc (.cells #[.int .i64 R.mx, .slice B3 R.idle.length b3, .slice D3 R.held.length d3, .slice E3 R.wait.length f3] 26)
      replace hB := hB.alloc (.cells #[.int .i64 R.mx, .slice B3 R.idle.length b3, .slice D3 R.held.length d3, .slice E3 R.wait.length f3] 26)
      replace o1 := o1.alloc (.cells #[.int .i64 R.mx, .slice B3 R.idle.length b3, .slice D3 R.held.length d3, .slice E3 R.wait.length f3] 26)
      replace ps := ps.alloc (.cells #[.int .i64 R.mx, .slice B3 R.idle.length b3, .slice D3 R.held.length d3, .slice E3 R.wait.length f3] 26)
      replace xo1 := xo1.alloc (.cells #[.int .i64 R.mx, .slice B3 R.idle.length b3, .slice D3 R.held.length d3, .slice E3 R.wait.length f3] 26)
      have nw := At.new w5 26 #[.int .i64 R.mx, .slice B3 R.idle.length b3, .slice D3 R.held.length d3, .slice E3 R.wait.length f3]
      clear xo1
      rw [HTD.out]
      go_loopw [12] (fun t wr => ∃ (n : Nat) (Q : Pl) (B1 B2 B3 : Option Addr) (d1 d2 d3 : Nat), n = todo Q ∧ n ≤ 26 ∧ t = .int .i64 n ∧ Hid (okB Q = true) ∧ Hid (Q.idle.length + Q.held.length = p.idle.length + p.held.length) ∧ At wr w5.heap.size 26 #[.int .i64 Q.mx, .slice B1 Q.idle.length d1, .slice B2 Q.held.length d2, .slice B3 Q.wait.length d3] ∧ (∃ bs : Nat, OwnK wr bs B1 B2 B3 d1 d2 d3 Q) ∧ (∃ bs : Nat, OwnK wr bs A1 A2 A3 c1 c2 c3 p) ∧ At wr w2.heap.size 26 #[.int .i64 p.mx, .slice A1 p.idle.length c1, .slice A2 p.held.length c2, .slice A3 p.wait.length c3] ∧ DB w wr) (fun t _ => (intOf t).toNat)
      case atStart => exact ⟨_, R, _, _, _, _, _, _, rfl, HTL.out, rfl, HOK, HSUM, nw, ⟨_, o1⟩, ⟨_, dp⟩, ps, hB⟩
      case round =>
        clear nw dp ps hB o1
        obtain ⟨n, Q, B1, B2, B3, d1, d2, d3, hnt, hn26, rfl, HQK, HQS, nw, ⟨_, nq⟩, ⟨_, dp⟩, ps, hB⟩ := hrel
        by_cases hlh : Q.held.length = 0
        · skip
          have hwz := ok_done HQK.out hlh
          have hn0 : n = 0 := by unfold todo at hnt; omega
          have hs := HQS.out
          have hzb : ((Q.held.length : Int) == 0) = true := beq_iff_eq.2 (by omega)
          have hzw : ((Q.wait.length : Int) == 0) = true := beq_iff_eq.2 (by omega)
          have hpl := hl7.1
          have hph := hl7.2.1
          have hws : IntKind.i64.wrap ((p.idle.length : Int) + (p.held.length : Int)) = (p.idle.length : Int) + (p.held.length : Int) := by rw [IntKind.wrap_i64]; omega
          have hzs : ((Q.idle.length : Int) == (p.idle.length : Int) + (p.held.length : Int)) = true := beq_iff_eq.2 (by omega)
          clear hs hwz hlh hnt
          subst hn0
          obtain ⟨ps0, ps1, ps2, ps3, psl, psf⟩ := ps.fourP
          obtain ⟨nw0, nw1, nw2, nw3, nwl, nwf⟩ := nw.fourP
          go_wp2
          go_ret
          exact ⟨by first | rfl | (simp; done) | (simp; omega), hB.bel⟩
        · skip
          have hlp : 0 < Q.held.length := by omega
          have hnp : 0 < n := by unfold todo at hnt; omega
          have hnpi : (n : Int) > 0 := by omega
          have hlpi : (Q.held.length : Int) > 0 := by omega
          have hlp0 : (0 : Int) < (Q.held.length : Int) := by omega
          have hrb := rel_first HQK.out hlp
          obtain ⟨gh, hgh⟩ := held_at nq.1 hlp
          subst hgh
          have e0 : wr.cell? ⟨gh, 0, none⟩ = some (.int .i64 Q.held[0].c) := by
            obtain ⟨b, o, e, _, hc⟩ := Sees.elem hcells_len (by decide) nq.sees.held hlp
            injection e with e
            injection e with e1 e2
            subst e1 e2
            simpa using hc 0 (.int .i64 Q.held[0].c) rfl
          have hbl : gh < wr.heap.size := cell_lt e0
          obtain ⟨c, hc⟩ : ∃ c, c = Q.held[0].c := ⟨_, rfl⟩
          rw [← hc] at e0 hrb
          obtain ⟨f1, f2, f3⟩ := rel_step hrb
          have HQB := hid hrb
          obtain ⟨S, hS⟩ : ∃ S, S = relR Q c := ⟨_, rfl⟩
          have ES : Hid (relR Q c = S) := hid hS.symm
          obtain ⟨M, hM⟩ : ∃ M, M = relN Q c := ⟨_, rfl⟩
          have EM : Hid (relN Q c = M) := hid hM.symm
          have HSl := hid (show S.idle.length ≤ 13 ∧ S.held.length ≤ 13 ∧ S.wait.length ≤ 13 by rw [hS]; have := relR_small Q c; omega)
          rw [← hS] at f1 f2 f3
          have HSK := hid f1
          have HST := hid (show n - 1 = todo S by omega)
          have HSS := hid (show S.idle.length + S.held.length = p.idle.length + p.held.length from f3.trans HQS.out)
          clear hc hS hM f1 f2 f3 hrb hlh hnt
          have ddp := dp.drew
          have dnq := nq.drew
          have dhB := hB.drew
          have dps := ps.drew
          have dnw := nw.drew
          have hnz1 : ¬ w5.heap.size = wr.heap.size := Nat.ne_of_lt nw.lt
          have hnz2 : ¬ wr.heap.size = w5.heap.size := fun e => hnz1 e.symm
          have hnz3 : ¬ gh = wr.heap.size := Nat.ne_of_lt hbl
          have hnz4 : ¬ wr.heap.size = gh := fun e => hnz3 e.symm
          have hz4 : (#[.int .i64 0, .slice none 0 0, .slice none 0 0, .slice none 0 0] : Array Value).size = 4 := rfl
          have hBr : w.heap.size ≤ wr.heap.size := Below.size hB
          have hpw : w2.heap.size < wr.heap.size := ps.lt
          have hkw : w5.heap.size < wr.heap.size := nw.lt
          obtain ⟨ps0, ps1, ps2, ps3, psl, psf⟩ := ps.fourP
          obtain ⟨nw0, nw1, nw2, nw3, nwl, nwf⟩ := nw.fourP
          go_wp2_with fail
          go_region_held3 (fun w' => w'.cell? ⟨w5.heap.size, 0, none⟩ = some (.int .i64 Q.mx) ∧ w'.cell? ⟨w5.heap.size, 1, none⟩ = some (.slice B1 Q.idle.length d1) ∧ w'.cell? ⟨w5.heap.size, 2, none⟩ = some (.slice (some ⟨gh, 0, none⟩) Q.held.length d2) ∧ w'.cell? ⟨w5.heap.size, 3, none⟩ = some (.slice B3 Q.wait.length d3) ∧ w'.cell? ⟨gh, 0, none⟩ = some (.int .i64 c))
            (first | with_reducible exact ⟨nw0, nw1, nw2, nw3, e0⟩ | with_reducible exact ⟨anw0, anw1, anw2, anw3, ae0⟩ | go_keep)
            (first
              | (go_at_call 21; (with_reducible refine (iReleaseConn_any Q B1 (some ⟨gh, 0, none⟩) B3 d1 d2 d3 c _ dnq.sees dnq.k3 dnq.i2 dnq.h2 dnq.w2).mono ?_); rintro e wa ⟨Ba, Da, Ea, ba, da, fa, he, ho, hb⟩; rw [ES.out, EM.out, HQB.out] at he; rw [ES.out] at ho; subst he; have o3 : OwnK wa _ Ba Da Ea ba da fa S := ⟨ho, HSl.out⟩; have adp := ddp.below hb; have ahB := dhB.below hb; have aps := dps.below hb dps.lt; have anw := dnw.below hb dnw.lt; obtain ⟨anw0, anw1, anw2, anw3, anwl, anwf⟩ := anw.fourP; have ae0 := (hb.cell (p := ⟨gh, 0, none⟩) hbl).trans e0; have hba := ahB; skip)
              | (go_at_call 21; (with_reducible refine (iReleaseConn_any Q B1 (some ⟨gh, 0, none⟩) B3 d1 d2 d3 c _ ((nq.alloc (.cells #[.int .i64 0, .slice none 0 0, .slice none 0 0, .slice none 0 0] 26)).drew).sees dnq.k3 dnq.i2 dnq.h2 dnq.w2).mono ?_); rintro e wa ⟨Ba, Da, Ea, ba, da, fa, he, ho, hb⟩; rw [ES.out, EM.out, HQB.out] at he; rw [ES.out] at ho; subst he; have o3 : OwnK wa _ Ba Da Ea ba da fa S := ⟨ho, HSl.out⟩; have adp := ((dp.alloc (.cells #[.int .i64 0, .slice none 0 0, .slice none 0 0, .slice none 0 0] 26)).drew).below hb; have ahB := ((hB.alloc (.cells #[.int .i64 0, .slice none 0 0, .slice none 0 0, .slice none 0 0] 26)).drew).below hb; have aps := ((ps.alloc (.cells #[.int .i64 0, .slice none 0 0, .slice none 0 0, .slice none 0 0] 26)).drew).below hb ((ps.alloc (.cells #[.int .i64 0, .slice none 0 0, .slice none 0 0, .slice none 0 0] 26)).drew).lt; have anw := ((nw.alloc (.cells #[.int .i64 0, .slice none 0 0, .slice none 0 0, .slice none 0 0] 26)).drew).below hb ((nw.alloc (.cells #[.int .i64 0, .slice none 0 0, .slice none 0 0, .slice none 0 0] 26)).drew).lt; obtain ⟨anw0, anw1, anw2, anw3, anwl, anwf⟩ := anw.fourP; have ae0 := (hb.cell (p := ⟨gh, 0, none⟩) (Nat.lt_trans hbl (by simp))).trans ((Below.refl _ _).alloc (Nat.le_refl _) _ |>.cell (p := ⟨gh, 0, none⟩) hbl |>.trans e0); have hba := ahB; have tt : At wa wr.heap.size 26 #[.int .i64 0, .slice none 0 0, .slice none 0 0, .slice none 0 0] := ((At.new wr 26 #[.int .i64 0, .slice none 0 0, .slice none 0 0, .slice none 0 0]).drew).below hb (by simp); obtain ⟨z0, z1, z2, z3, zl, zf⟩ := tt.fourP)
              | (go_at_call 21; (with_reducible refine (iReleaseConn_any Q B1 (some ⟨gh, 0, none⟩) B3 d1 d2 d3 c _ (dnq.alloc (.cells #[.int .i64 0, .slice none 0 0, .slice none 0 0, .slice none 0 0] 26)).sees dnq.k3 dnq.i2 dnq.h2 dnq.w2).mono ?_); rintro e wa ⟨Ba, Da, Ea, ba, da, fa, he, ho, hb⟩; rw [ES.out, EM.out, HQB.out] at he; rw [ES.out] at ho; subst he; have o3 : OwnK wa _ Ba Da Ea ba da fa S := ⟨ho, HSl.out⟩; have adp := (ddp.alloc (.cells #[.int .i64 0, .slice none 0 0, .slice none 0 0, .slice none 0 0] 26)).below hb; have ahB := (dhB.alloc (.cells #[.int .i64 0, .slice none 0 0, .slice none 0 0, .slice none 0 0] 26)).below hb; have aps := (dps.alloc (.cells #[.int .i64 0, .slice none 0 0, .slice none 0 0, .slice none 0 0] 26)).below hb (dps.alloc (.cells #[.int .i64 0, .slice none 0 0, .slice none 0 0, .slice none 0 0] 26)).lt; have anw := (dnw.alloc (.cells #[.int .i64 0, .slice none 0 0, .slice none 0 0, .slice none 0 0] 26)).below hb (dnw.alloc (.cells #[.int .i64 0, .slice none 0 0, .slice none 0 0, .slice none 0 0] 26)).lt; obtain ⟨anw0, anw1, anw2, anw3, anwl, anwf⟩ := anw.fourP; have ae0 := (hb.cell (p := ⟨gh, 0, none⟩) (Nat.lt_trans hbl (by simp))).trans ((Below.refl _ _).alloc (Nat.le_refl _) _ |>.cell (p := ⟨gh, 0, none⟩) hbl |>.trans e0); have hba := ahB; have tt : At wa wr.heap.size 26 #[.int .i64 0, .slice none 0 0, .slice none 0 0, .slice none 0 0] := (At.newAt 26 #[.int .i64 0, .slice none 0 0, .slice none 0 0, .slice none 0 0] rfl : At (wr.drew.alloc (.cells #[.int .i64 0, .slice none 0 0, .slice none 0 0, .slice none 0 0] 26)) wr.heap.size 26 #[.int .i64 0, .slice none 0 0, .slice none 0 0, .slice none 0 0]).below hb (by simp); obtain ⟨z0, z1, z2, z3, zl, zf⟩ := tt.fourP)
              | fail)
          · skip
            have dp := adp
            have hB := ahB
            have ps := aps
            have nw := anw
            replace dp := dp.alloc (.cells #[.int .i64 S.mx, .slice Ba S.idle.length ba, .slice Da S.held.length da, .slice Ea S.wait.length fa] 26)
            replace o3 := o3.alloc (.cells #[.int .i64 S.mx, .slice Ba S.idle.length ba, .slice Da S.held.length da, .slice Ea S.wait.length fa] 26)
            replace hB := hB.alloc (.cells #[.int .i64 S.mx, .slice Ba S.idle.length ba, .slice Da S.held.length da, .slice Ea S.wait.length fa] 26)
            replace ps := ps.alloc (.cells #[.int .i64 S.mx, .slice Ba S.idle.length ba, .slice Da S.held.length da, .slice Ea S.wait.length fa] 26)
            replace nw := nw.alloc (.cells #[.int .i64 S.mx, .slice Ba S.idle.length ba, .slice Da S.held.length da, .slice Ea S.wait.length fa] 26)
            have x3 := At.new wa 26 #[.int .i64 S.mx, .slice Ba S.idle.length ba, .slice Da S.held.length da, .slice Ea S.wait.length fa]
            clear nw0 nw1 nw2 nw3 nwl nwf ps0 ps1 ps2 ps3 psl psf e0 anw0 anw1 anw2 anw3 anwl anwf ae0 hnz1 hnz2 hnz3 hnz4 hlp hlpi hlp0 hb
            obtain ⟨hp9, hg9⟩ := pool_put (.int .i64 S.mx) (.slice Ba S.idle.length ba) (.slice Da S.held.length da) (.slice Ea S.wait.length fa) nw rfl
            have dp9 := dp.past nw hg9
            have o39 := o3.past nw hg9
            have ps9 := ps.past hg9 (Nat.ne_of_lt hpn)
            have hB9 : DB w _ := below_put hB hg9 hBn (Below.size hB)
            obtain ⟨ps0, ps1, ps2, ps3, psl, psf⟩ := ps.fourP
            obtain ⟨nw0, nw1, nw2, nw3, nwl, nwf⟩ := nw.fourP
            obtain ⟨x30, x31, x32, x33, x3l, x3f⟩ := x3.fourP
            go_wp2
            go_roundw
            case rel => exact ⟨n - 1, S, _, _, _, _, _, _, HST.out, by omega, by go_num, HSK, HSS, hp9, ⟨_, o39⟩, ⟨_, dp9⟩, ps9, hB9⟩
            case measure => simp [intOf]; omega
          · skip
            obtain ⟨x3, hgx⟩ := pool_put (.int .i64 S.mx) (.slice Ba S.idle.length ba) (.slice Da S.held.length da) (.slice Ea S.wait.length fa) tt hz4
            have dp := adp.past tt hgx
            have hB : DB w _ := below_put ahB hgx hBr (Below.size ahB)
            have ps := aps.past hgx (Nat.ne_of_lt hpw)
            have nw := anw.past hgx (Nat.ne_of_lt hkw)
            replace o3 := o3.past tt hgx
            clear nw0 nw1 nw2 nw3 nwl nwf ps0 ps1 ps2 ps3 psl psf e0 anw0 anw1 anw2 anw3 anwl anwf ae0 hnz1 hnz2 hnz3 hnz4 hlp hlpi hlp0 hb z0 z1 z2 z3 zl zf
            obtain ⟨hp9, hg9⟩ := pool_put (.int .i64 S.mx) (.slice Ba S.idle.length ba) (.slice Da S.held.length da) (.slice Ea S.wait.length fa) nw rfl
            have dp9 := dp.past nw hg9
            have o39 := o3.past nw hg9
            have ps9 := ps.past hg9 (Nat.ne_of_lt hpn)
            have hB9 : DB w _ := below_put hB hg9 hBn (Below.size hB)
            obtain ⟨ps0, ps1, ps2, ps3, psl, psf⟩ := ps.fourP
            obtain ⟨nw0, nw1, nw2, nw3, nwl, nwf⟩ := nw.fourP
            obtain ⟨x30, x31, x32, x33, x3l, x3f⟩ := x3.fourP
            go_wp2
            go_roundw
            case rel => exact ⟨n - 1, S, _, _, _, _, _, _, HST.out, by omega, by go_num, HSK, HSS, hp9, ⟨_, o39⟩, ⟨_, dp9⟩, ps9, hB9⟩
            case measure => simp [intOf]; omega
end Go.Proofs.Ytnfpnpdiglaebaa

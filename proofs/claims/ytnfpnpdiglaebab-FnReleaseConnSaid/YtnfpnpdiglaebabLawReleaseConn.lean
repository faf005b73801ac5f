/-
  The walk of the law FnReleaseConn: at every code it returns true and changes nothing that was there. Conditions: none.
-/
import Derived.Test.YtnfpnpdiglaebabLawPl
import Derived.Test.YtnfpnpdiglaebabLawFrame
import Derived.BigQuiet
import Derived.Deep.RegionHeld3
import Derived.Test.YtnfpnpdiglaebabLawPlB
import Derived.Test.YtnfpnpdiglaebabPlGenE
namespace Go.Proofs.Ytnfpnpdiglaebab
open Go.RowKit Pol

set_option maxHeartbeats 8000000 in
set_option maxRecDepth 16384 in
theorem walkReleaseConn (a : Option Addr) (len cap : Nat) (zs : List Int) (w : World) (hn : zs.length = len) (hc : len ≤ cap) (hcc : cap ≤ maxLen) (h : Sees w w.heap.size a (byts zs)) (hz : ∀ y ∈ zs, 0 ≤ y ∧ y ≤ 255) :
    Calls Try.prog 3 #[.slice a len cap] w fun e w' => e = .returned (.bool true) ∧ Below w.heap.size w w' := by
  have HE := hid hn
  have HC := hid hcc
  have HZ := hid hz
  clear hn hcc hz
  by_cases hbig : 1048576 < len
  · go_enter Try.func3, Try.ntmps3
    go_wp2
    go_ret
    exact ⟨rfl, Below.refl _ _⟩
  · go_enter Try.func3, Try.ntmps3
    go_wp2_with fail
    refine (drawReleaseConn_any _ _ _ _ _ h HZ.out HE.out hc (by omega) HC.out).mono ?_
    rintro e w2 ⟨A1, A2, A3, c1, c2, c3, p, i, rfl, dq⟩
    have dp := dq.ownk
    have hB : DB w w2 := dq.belw
    have hl7 := dq.2.2
    clear dq
    replace dp := dp.alloc (.cells #[.int .i64 p.mx, .slice A1 p.idle.length c1, .slice A2 p.held.length c2, .slice A3 p.wait.length c3] 26)
    replace hB := hB.alloc (.cells #[.int .i64 p.mx, .slice A1 p.idle.length c1, .slice A2 p.held.length c2, .slice A3 p.wait.length c3] 26)
    have ps := At.new w2 26 #[.int .i64 p.mx, .slice A1 p.idle.length c1, .slice A2 p.held.length c2, .slice A3 p.wait.length c3]
    obtain ⟨R, hR⟩ : ∃ R, R = relR p i := ⟨_, rfl⟩
    have ER : Hid (relR p i = R) := hid hR.symm
    obtain ⟨N, hN⟩ : ∃ N, N = relN p i := ⟨_, rfl⟩
    have EN : Hid (relN p i = N) := hid hN.symm
    have HRl := hid (show R.idle.length ≤ 13 ∧ R.held.length ≤ 13 ∧ R.wait.length ≤ 13 by rw [hR]; have := relR_small p i; omega)
    rcases hb : relB p i with _ | _
    · skip
      have EB := hid hb
      clear hb hR hN
      obtain ⟨ps0, ps1, ps2, ps3, psl, psf⟩ := ps.fourP
      go_wp2_with fail
      with_reducible refine (iReleaseConn_any p A1 A2 A3 c1 c2 c3 i _ dp.sees dp.k3 dp.i2 dp.h2 dp.w2).mono ?_
      rintro e w3 ⟨B3, D3, E3, b3, d3, f3, he, ho, hb⟩
      rw [ER.out, EN.out, EB.out] at he
      rw [ER.out] at ho
      subst he
      have o1 : OwnK w3 _ B3 D3 E3 b3 d3 f3 R := ⟨ho, HRl.out⟩
      clear ho
      replace dp := dp.below hb
      replace hB := hB.below hb
      replace ps := ps.below hb ps.lt
      clear hb
      clear ps0 ps1 ps2 ps3 psl psf
      replace dp := dp.alloc (.cells #[.int .i64 R.mx, .slice B3 R.idle.length b3, .slice D3 R.held.length d3, .slice E3 R.wait.length f3] 26)
      replace hB := hB.alloc (.cells #[.int .i64 R.mx, .slice B3 R.idle.length b3, .slice D3 R.held.length d3, .slice E3 R.wait.length f3] 26)
      replace o1 := o1.alloc (.cells #[.int .i64 R.mx, .slice B3 R.idle.length b3, .slice D3 R.held.length d3, .slice E3 R.wait.length f3] 26)
      replace ps := ps.alloc (.cells #[.int .i64 R.mx, .slice B3 R.idle.length b3, .slice D3 R.held.length d3, .slice E3 R.wait.length f3] 26)
      have xo1 := At.new w3 26 #[.int .i64 R.mx, .slice B3 R.idle.length b3, .slice D3 R.held.length d3, .slice E3 R.wait.length f3]
      obtain ⟨ps0, ps1, ps2, ps3, psl, psf⟩ := ps.fourP
      obtain ⟨xo10, xo11, xo12, xo13, xo1l, xo1f⟩ := xo1.fourP
      go_wp2_with fail
      with_reducible refine (sReleaseConn_any p A1 A2 A3 c1 c2 c3 i _ dp.sees dp.k3 dp.k2 dp.i2 dp.h2 dp.w2).mono ?_
      rintro e w4 ⟨B4, D4, E4, b4, d4, f4, he, ho, hb⟩
      rw [ER.out, EN.out, EB.out] at he
      rw [ER.out] at ho
      subst he
      have o2 : OwnK w4 _ B4 D4 E4 b4 d4 f4 R := ⟨ho, HRl.out⟩
      clear ho
      replace dp := dp.below hb
      replace hB := hB.below hb
      replace o1 := o1.below hb
      replace ps := ps.below hb ps.lt
      replace xo1 := xo1.below hb xo1.lt
      clear hb
      clear ps0 ps1 ps2 ps3 psl psf
      clear xo10 xo11 xo12 xo13 xo1l xo1f
      replace dp := dp.alloc (.cells #[.int .i64 R.mx, .slice B4 R.idle.length b4, .slice D4 R.held.length d4, .slice E4 R.wait.length f4] 26)
      replace hB := hB.alloc (.cells #[.int .i64 R.mx, .slice B4 R.idle.length b4, .slice D4 R.held.length d4, .slice E4 R.wait.length f4] 26)
      replace o1 := o1.alloc (.cells #[.int .i64 R.mx, .slice B4 R.idle.length b4, .slice D4 R.held.length d4, .slice E4 R.wait.length f4] 26)
      replace o2 := o2.alloc (.cells #[.int .i64 R.mx, .slice B4 R.idle.length b4, .slice D4 R.held.length d4, .slice E4 R.wait.length f4] 26)
      replace ps := ps.alloc (.cells #[.int .i64 R.mx, .slice B4 R.idle.length b4, .slice D4 R.held.length d4, .slice E4 R.wait.length f4] 26)
      replace xo1 := xo1.alloc (.cells #[.int .i64 R.mx, .slice B4 R.idle.length b4, .slice D4 R.held.length d4, .slice E4 R.wait.length f4] 26)
      have xo2 := At.new w4 26 #[.int .i64 R.mx, .slice B4 R.idle.length b4, .slice D4 R.held.length d4, .slice E4 R.wait.length f4]
      obtain ⟨ps0, ps1, ps2, ps3, psl, psf⟩ := ps.fourP
      obtain ⟨xo10, xo11, xo12, xo13, xo1l, xo1f⟩ := xo1.fourP
      obtain ⟨xo20, xo21, xo22, xo23, xo2l, xo2f⟩ := xo2.fourP
      go_wp2_with fail
      with_reducible refine (equalPool_same B3 D3 E3 B4 D4 E4 b3 d3 f3 b4 d4 f4 R _ o1.sees o2.sees (Nat.le_trans o1.i2 (by decide)) (Nat.le_trans o1.h2 (by decide)) (Nat.le_trans o1.w2 (by decide))).mono ?_
      rintro e w5 ⟨rfl, hb⟩
      replace dp := dp.below hb
      replace hB := hB.below hb
      replace o1 := o1.below hb
      replace o2 := o2.below hb
      replace ps := ps.below hb ps.lt
      replace xo1 := xo1.below hb xo1.lt
      replace xo2 := xo2.below hb xo2.lt
      clear hb
      clear ps0 ps1 ps2 ps3 psl psf
      clear xo10 xo11 xo12 xo13 xo1l xo1f
      clear xo20 xo21 xo22 xo23 xo2l xo2f
      obtain ⟨ps0, ps1, ps2, ps3, psl, psf⟩ := ps.fourP
      obtain ⟨xo10, xo11, xo12, xo13, xo1l, xo1f⟩ := xo1.fourP
      obtain ⟨xo20, xo21, xo22, xo23, xo2l, xo2f⟩ := xo2.fourP
      go_wp2_with fail
      with_reducible refine (equalPool_same B3 D3 E3 B4 D4 E4 b3 d3 f3 b4 d4 f4 R _ o1.sees o2.sees (Nat.le_trans o1.i2 (by decide)) (Nat.le_trans o1.h2 (by decide)) (Nat.le_trans o1.w2 (by decide))).mono ?_
      rintro e w6 ⟨rfl, hb⟩
      replace dp := dp.below hb
      replace hB := hB.below hb
      replace o1 := o1.below hb
      replace o2 := o2.below hb
      replace ps := ps.below hb ps.lt
      replace xo1 := xo1.below hb xo1.lt
      replace xo2 := xo2.below hb xo2.lt
      clear hb
      clear ps0 ps1 ps2 ps3 psl psf
      clear xo10 xo11 xo12 xo13 xo1l xo1f
      clear xo20 xo21 xo22 xo23 xo2l xo2f
      obtain ⟨ps0, ps1, ps2, ps3, psl, psf⟩ := ps.fourP
      obtain ⟨xo10, xo11, xo12, xo13, xo1l, xo1f⟩ := xo1.fourP
      obtain ⟨xo20, xo21, xo22, xo23, xo2l, xo2f⟩ := xo2.fourP
      go_wp2
      go_ret
      exact ⟨by first | rfl | (simp; done) | (simp; omega), hB.bel⟩
    · skip
      have EB := hid hb
      have HOK := hid (show okB R = true from by rw [hR]; exact relR_ok hb)
      obtain ⟨ww, hww⟩ : ∃ ww, ww = p.wait := ⟨_, rfl⟩
      rcases ww with _ | ⟨o, l⟩
      · skip
        have hw := hww.symm
        clear hww
        obtain ⟨f1, f2, f3⟩ := rel_none hb hw
        rw [← hN] at f1
        rw [← hR] at f2
        have hwl : p.wait.length = 0 := by rw [hw]; rfl
        have HIN := hid (show memB R.idle i = true from by rw [f2]; exact memB_iff.2 (by simp))
        have HHL := hid (show R.held.length + 1 = p.held.length by rw [f2]; exact f3)
        have HWL := hid hwl
        clear hb hR hN f2 f3 hw hwl
        subst f1
        obtain ⟨ps0, ps1, ps2, ps3, psl, psf⟩ := ps.fourP
        go_wp2_with fail
        with_reducible refine (iReleaseConn_any p A1 A2 A3 c1 c2 c3 i _ dp.sees dp.k3 dp.i2 dp.h2 dp.w2).mono ?_
        rintro e w3 ⟨B3, D3, E3, b3, d3, f3, he, ho, hb⟩
        rw [ER.out, EN.out, EB.out] at he
        rw [ER.out] at ho
        subst he
        have o1 : OwnK w3 _ B3 D3 E3 b3 d3 f3 R := ⟨ho, HRl.out⟩
        clear ho
        replace dp := dp.below hb
        replace hB := hB.below hb
        replace ps := ps.below hb ps.lt
        clear hb
        clear ps0 ps1 ps2 ps3 psl psf
        replace dp := dp.alloc (.cells #[.int .i64 R.mx, .slice B3 R.idle.length b3, .slice D3 R.held.length d3, .slice E3 R.wait.length f3] 26)
        replace hB := hB.alloc (.cells #[.int .i64 R.mx, .slice B3 R.idle.length b3, .slice D3 R.held.length d3, .slice E3 R.wait.length f3] 26)
        replace o1 := o1.alloc (.cells #[.int .i64 R.mx, .slice B3 R.idle.length b3, .slice D3 R.held.length d3, .slice E3 R.wait.length f3] 26)
        replace ps := ps.alloc (.cells #[.int .i64 R.mx, .slice B3 R.idle.length b3, .slice D3 R.held.length d3, .slice E3 R.wait.length f3] 26)
        have xo1 := At.new w3 26 #[.int .i64 R.mx, .slice B3 R.idle.length b3, .slice D3 R.held.length d3, .slice E3 R.wait.length f3]
        obtain ⟨ps0, ps1, ps2, ps3, psl, psf⟩ := ps.fourP
        obtain ⟨xo10, xo11, xo12, xo13, xo1l, xo1f⟩ := xo1.fourP
        go_wp2_with fail
        with_reducible refine (sReleaseConn_any p A1 A2 A3 c1 c2 c3 i _ dp.sees dp.k3 dp.k2 dp.i2 dp.h2 dp.w2).mono ?_
        rintro e w4 ⟨B4, D4, E4, b4, d4, f4, he, ho, hb⟩
        rw [ER.out, EN.out, EB.out] at he
        rw [ER.out] at ho
        subst he
        have o2 : OwnK w4 _ B4 D4 E4 b4 d4 f4 R := ⟨ho, HRl.out⟩
        clear ho
        replace dp := dp.below hb
        replace hB := hB.below hb
        replace o1 := o1.below hb
        replace ps := ps.below hb ps.lt
        replace xo1 := xo1.below hb xo1.lt
        clear hb
        clear ps0 ps1 ps2 ps3 psl psf
        clear xo10 xo11 xo12 xo13 xo1l xo1f
        replace dp := dp.alloc (.cells #[.int .i64 R.mx, .slice B4 R.idle.length b4, .slice D4 R.held.length d4, .slice E4 R.wait.length f4] 26)
        replace hB := hB.alloc (.cells #[.int .i64 R.mx, .slice B4 R.idle.length b4, .slice D4 R.held.length d4, .slice E4 R.wait.length f4] 26)
        replace o1 := o1.alloc (.cells #[.int .i64 R.mx, .slice B4 R.idle.length b4, .slice D4 R.held.length d4, .slice E4 R.wait.length f4] 26)
        replace o2 := o2.alloc (.cells #[.int .i64 R.mx, .slice B4 R.idle.length b4, .slice D4 R.held.length d4, .slice E4 R.wait.length f4] 26)
        replace ps := ps.alloc (.cells #[.int .i64 R.mx, .slice B4 R.idle.length b4, .slice D4 R.held.length d4, .slice E4 R.wait.length f4] 26)
        replace xo1 := xo1.alloc (.cells #[.int .i64 R.mx, .slice B4 R.idle.length b4, .slice D4 R.held.length d4, .slice E4 R.wait.length f4] 26)
        have xo2 := At.new w4 26 #[.int .i64 R.mx, .slice B4 R.idle.length b4, .slice D4 R.held.length d4, .slice E4 R.wait.length f4]
        obtain ⟨ps0, ps1, ps2, ps3, psl, psf⟩ := ps.fourP
        obtain ⟨xo10, xo11, xo12, xo13, xo1l, xo1f⟩ := xo1.fourP
        obtain ⟨xo20, xo21, xo22, xo23, xo2l, xo2f⟩ := xo2.fourP
        go_wp2_with fail
        with_reducible refine (equalPool_same B3 D3 E3 B4 D4 E4 b3 d3 f3 b4 d4 f4 R _ o1.sees o2.sees (Nat.le_trans o1.i2 (by decide)) (Nat.le_trans o1.h2 (by decide)) (Nat.le_trans o1.w2 (by decide))).mono ?_
        rintro e w5 ⟨rfl, hb⟩
        replace dp := dp.below hb
        replace hB := hB.below hb
        replace o1 := o1.below hb
        replace o2 := o2.below hb
        replace ps := ps.below hb ps.lt
        replace xo1 := xo1.below hb xo1.lt
        replace xo2 := xo2.below hb xo2.lt
        clear hb
        clear ps0 ps1 ps2 ps3 psl psf
        clear xo10 xo11 xo12 xo13 xo1l xo1f
        clear xo20 xo21 xo22 xo23 xo2l xo2f
        have hwb : ((p.wait.length : Int) == 0) = true := beq_iff_eq.2 (by have := HWL.out; omega)
        have hhl := HHL.out
        have hl2 := hl7.2.1
        have hwr : IntKind.i64.wrap ((p.held.length : Int) - 1) = (R.held.length : Int) := by rw [IntKind.wrap_i64]; omega
        clear hhl
        have hn4 := o1.n4.1
        obtain ⟨ps0, ps1, ps2, ps3, psl, psf⟩ := ps.fourP
        obtain ⟨xo10, xo11, xo12, xo13, xo1l, xo1f⟩ := xo1.fourP
        obtain ⟨xo20, xo21, xo22, xo23, xo2l, xo2f⟩ := xo2.fourP
        go_wp2_with fail
        with_reducible refine (lisIn_any B3 b3 R.idle i _ o1.sees.idle (Nat.le_trans hn4 (by decide))).mono ?_
        rintro e w' ⟨he, rfl⟩
        rw [HIN.out] at he
        subst he
        clear ps0 ps1 ps2 ps3 psl psf
        clear xo10 xo11 xo12 xo13 xo1l xo1f
        clear xo20 xo21 xo22 xo23 xo2l xo2f
        obtain ⟨ps0, ps1, ps2, ps3, psl, psf⟩ := ps.fourP
        obtain ⟨xo10, xo11, xo12, xo13, xo1l, xo1f⟩ := xo1.fourP
        obtain ⟨xo20, xo21, xo22, xo23, xo2l, xo2f⟩ := xo2.fourP
        go_wp2_with fail
        with_reducible refine (iValidPool_any R B3 D3 E3 b3 d3 f3 _ o1.sees o1.i2 o1.h2 (Nat.le_trans o1.w2 (by decide))).mono ?_
        rintro e w6 ⟨he, hb⟩
        rw [HOK.out] at he
        subst he
        replace dp := dp.below hb
        replace hB := hB.below hb
        replace o1 := o1.below hb
        replace o2 := o2.below hb
        replace ps := ps.below hb ps.lt
        replace xo1 := xo1.below hb xo1.lt
        replace xo2 := xo2.below hb xo2.lt
        clear hb
        clear ps0 ps1 ps2 ps3 psl psf
        clear xo10 xo11 xo12 xo13 xo1l xo1f
        clear xo20 xo21 xo22 xo23 xo2l xo2f
        obtain ⟨ps0, ps1, ps2, ps3, psl, psf⟩ := ps.fourP
        obtain ⟨xo10, xo11, xo12, xo13, xo1l, xo1f⟩ := xo1.fourP
        obtain ⟨xo20, xo21, xo22, xo23, xo2l, xo2f⟩ := xo2.fourP
        go_wp2
        go_ret
        exact ⟨by first | rfl | (simp; done) | (simp; omega), hB.bel⟩
      · skip
        have hw := hww.symm
        clear hww
        obtain ⟨f1, f2, f3⟩ := rel_some hb hw
        have f4 := rel_got hb hw
        rw [← hN] at f1
        rw [← hR] at f2 f4
        have hwp : 0 < p.wait.length := by rw [hw]; simp
        have HX := hid (show ∀ h : 0 < p.wait.length, p.wait[0] = N from fun h => by rw [f1]; simp [hw])
        have HRW := hid (show R.wait = p.wait.drop 1 by rw [f2, hw]; rfl)
        have HHL := hid (show R.held.length = p.held.length by rw [f2]; simp; omega)
        obtain ⟨H, hH⟩ : ∃ H, H = heldBy R N := ⟨_, rfl⟩
        have EH : Hid (heldBy R N = H) := hid hH.symm
        have HIN := hid (show memB H i = true from by rw [hH, f1]; exact memB_iff.2 f4)
        have HL6 := hid (show H.length ≤ 4611686018427387904 by rw [hH]; have := heldBy_len R N; omega)
        have HDL := hid (show (p.wait.drop 1).length = p.wait.length - 1 from List.length_drop)
        clear hb hR hN f1 f2 f3 f4 hw hH
        obtain ⟨ps0, ps1, ps2, ps3, psl, psf⟩ := ps.fourP
        go_wp2_with fail
        with_reducible refine (iReleaseConn_any p A1 A2 A3 c1 c2 c3 i _ dp.sees dp.k3 dp.i2 dp.h2 dp.w2).mono ?_
        rintro e w3 ⟨B3, D3, E3, b3, d3, f3, he, ho, hb⟩
        rw [ER.out, EN.out, EB.out] at he
        rw [ER.out] at ho
        subst he
        have o1 : OwnK w3 _ B3 D3 E3 b3 d3 f3 R := ⟨ho, HRl.out⟩
        clear ho
        replace dp := dp.below hb
        replace hB := hB.below hb
        replace ps := ps.below hb ps.lt
        clear hb
        clear ps0 ps1 ps2 ps3 psl psf
        replace dp := dp.alloc (.cells #[.int .i64 R.mx, .slice B3 R.idle.length b3, .slice D3 R.held.length d3, .slice E3 R.wait.length f3] 26)
        replace hB := hB.alloc (.cells #[.int .i64 R.mx, .slice B3 R.idle.length b3, .slice D3 R.held.length d3, .slice E3 R.wait.length f3] 26)
        replace o1 := o1.alloc (.cells #[.int .i64 R.mx, .slice B3 R.idle.length b3, .slice D3 R.held.length d3, .slice E3 R.wait.length f3] 26)
        replace ps := ps.alloc (.cells #[.int .i64 R.mx, .slice B3 R.idle.length b3, .slice D3 R.held.length d3, .slice E3 R.wait.length f3] 26)
        have xo1 := At.new w3 26 #[.int .i64 R.mx, .slice B3 R.idle.length b3, .slice D3 R.held.length d3, .slice E3 R.wait.length f3]
        obtain ⟨ps0, ps1, ps2, ps3, psl, psf⟩ := ps.fourP
        obtain ⟨xo10, xo11, xo12, xo13, xo1l, xo1f⟩ := xo1.fourP
        go_wp2_with fail
        with_reducible refine (sReleaseConn_any p A1 A2 A3 c1 c2 c3 i _ dp.sees dp.k3 dp.k2 dp.i2 dp.h2 dp.w2).mono ?_
        rintro e w4 ⟨B4, D4, E4, b4, d4, f4, he, ho, hb⟩
        rw [ER.out, EN.out, EB.out] at he
        rw [ER.out] at ho
        subst he
        have o2 : OwnK w4 _ B4 D4 E4 b4 d4 f4 R := ⟨ho, HRl.out⟩
        clear ho
        replace dp := dp.below hb
        replace hB := hB.below hb
        replace o1 := o1.below hb
        replace ps := ps.below hb ps.lt
        replace xo1 := xo1.below hb xo1.lt
        clear hb
        clear ps0 ps1 ps2 ps3 psl psf
        clear xo10 xo11 xo12 xo13 xo1l xo1f
        replace dp := dp.alloc (.cells #[.int .i64 R.mx, .slice B4 R.idle.length b4, .slice D4 R.held.length d4, .slice E4 R.wait.length f4] 26)
        replace hB := hB.alloc (.cells #[.int .i64 R.mx, .slice B4 R.idle.length b4, .slice D4 R.held.length d4, .slice E4 R.wait.length f4] 26)
        replace o1 := o1.alloc (.cells #[.int .i64 R.mx, .slice B4 R.idle.length b4, .slice D4 R.held.length d4, .slice E4 R.wait.length f4] 26)
        replace o2 := o2.alloc (.cells #[.int .i64 R.mx, .slice B4 R.idle.length b4, .slice D4 R.held.length d4, .slice E4 R.wait.length f4] 26)
        replace ps := ps.alloc (.cells #[.int .i64 R.mx, .slice B4 R.idle.length b4, .slice D4 R.held.length d4, .slice E4 R.wait.length f4] 26)
        replace xo1 := xo1.alloc (.cells #[.int .i64 R.mx, .slice B4 R.idle.length b4, .slice D4 R.held.length d4, .slice E4 R.wait.length f4] 26)
        have xo2 := At.new w4 26 #[.int .i64 R.mx, .slice B4 R.idle.length b4, .slice D4 R.held.length d4, .slice E4 R.wait.length f4]
        obtain ⟨ps0, ps1, ps2, ps3, psl, psf⟩ := ps.fourP
        obtain ⟨xo10, xo11, xo12, xo13, xo1l, xo1f⟩ := xo1.fourP
        obtain ⟨xo20, xo21, xo22, xo23, xo2l, xo2f⟩ := xo2.fourP
        go_wp2_with fail
        with_reducible refine (equalPool_same B3 D3 E3 B4 D4 E4 b3 d3 f3 b4 d4 f4 R _ o1.sees o2.sees (Nat.le_trans o1.i2 (by decide)) (Nat.le_trans o1.h2 (by decide)) (Nat.le_trans o1.w2 (by decide))).mono ?_
        rintro e w5 ⟨rfl, hb⟩
        replace dp := dp.below hb
        replace hB := hB.below hb
        replace o1 := o1.below hb
        replace o2 := o2.below hb
        replace ps := ps.below hb ps.lt
        replace xo1 := xo1.below hb xo1.lt
        replace xo2 := xo2.below hb xo2.lt
        clear hb
        clear ps0 ps1 ps2 ps3 psl psf
        clear xo10 xo11 xo12 xo13 xo1l xo1f
        clear xo20 xo21 xo22 xo23 xo2l xo2f
        clear o2
        clear xo2
        have hcap := dp.k3
        have hhl := HHL.out
        have hhb : ((R.held.length : Int) == (p.held.length : Int)) = true := beq_iff_eq.2 (by omega)
        have hwb : ((p.wait.length : Int) == 0) = false := beq_eq_false_iff_ne.2 (by omega)
        obtain ⟨bw, ow, hE, hbl, e0⟩ := dp.sees.wait.int hwp
        rw [HX.out hwp, Nat.add_zero] at e0
        subst hE
        have m1 : (1 : Int) ≤ (p.wait.length : Int) := by omega
        have m2 : (1 : Int) ≤ (c3 : Int) := by omega
        have m3 : (p.wait.length : Int) ≤ (c3 : Int) := by omega
        have m4 : (0 : Int) < (p.wait.length : Int) := by omega
        have hq := dp.n4
        clear hhl
        by_cases hck : c3 = 1
        · skip
          have HD0 := hid (show R.wait = [] by rw [HRW.out]; exact List.drop_eq_nil_of_le (by omega))
          have hlz : p.wait.length - 1 = 0 := by omega
          have hcz : c3 - 1 = 0 := by omega
          obtain ⟨ps0, ps1, ps2, ps3, psl, psf⟩ := ps.fourP
          obtain ⟨xo10, xo11, xo12, xo13, xo1l, xo1f⟩ := xo1.fourP
          go_wp2_with fail
          clear ps0 ps1 ps2 ps3 psl psf
          clear xo10 xo11 xo12 xo13 xo1l xo1f
          have ddp := dp.drew
          have dhB := hB.drew
          have do1 := o1.drew
          have dps := ps.drew
          have dxo1 := xo1.drew
          obtain ⟨ps0, ps1, ps2, ps3, psl, psf⟩ := ps.fourP
          obtain ⟨xo10, xo11, xo12, xo13, xo1l, xo1f⟩ := xo1.fourP
          have de0 := e0
          have dhbl := hbl
          go_wp2_with fail
          go_region_held3 (fun w' => w'.cell? ⟨w2.heap.size, 0, none⟩ = some (.int .i64 p.mx) ∧ w'.cell? ⟨w2.heap.size, 1, none⟩ = some (.slice A1 p.idle.length c1) ∧ w'.cell? ⟨w2.heap.size, 2, none⟩ = some (.slice A2 p.held.length c2) ∧ w'.cell? ⟨w2.heap.size, 3, none⟩ = some (.slice (some ⟨bw, ow, none⟩) p.wait.length c3) ∧ w'.cell? ⟨w3.heap.size, 0, none⟩ = some (.int .i64 R.mx) ∧ w'.cell? ⟨w3.heap.size, 1, none⟩ = some (.slice B3 R.idle.length b3) ∧ w'.cell? ⟨w3.heap.size, 2, none⟩ = some (.slice D3 R.held.length d3) ∧ w'.cell? ⟨w3.heap.size, 3, none⟩ = some (.slice E3 R.wait.length f3) ∧ w'.cell? ⟨bw, ow, none⟩ = some (.int .i64 N))
            (first | with_reducible exact ⟨ps0, ps1, ps2, ps3, xo10, xo11, xo12, xo13, e0⟩ | with_reducible exact ⟨aps0, aps1, aps2, aps3, axo10, axo11, axo12, axo13, ae0⟩ | with_reducible exact ⟨bps0, bps1, bps2, bps3, bxo10, bxo11, bxo12, bxo13, be0⟩ | with_reducible exact ⟨fps0, fps1, fps2, fps3, fxo10, fxo11, fxo12, fxo13, fe0⟩ | go_keep)
            (first
              | (go_at_call 16; (with_reducible refine (kEq_of HD0.out rfl (by first | rfl | (simp; done) | (simp; omega)) do1.sees.wait Sees.nil (by simp)).mono ?_); rintro e wa ⟨rfl, hb⟩; have adp := ddp.below hb; have ahB := dhB.below hb; have ao1 := do1.below hb; have aps := dps.below hb dps.lt; have axo1 := dxo1.below hb dxo1.lt; have ae0 := (hb.cell (p := ⟨bw, ow, none⟩) dhbl).trans de0; have ahbl := Nat.lt_of_lt_of_le dhbl hb.size; obtain ⟨aps0, aps1, aps2, aps3, apsl, apsf⟩ := aps.fourP; obtain ⟨axo10, axo11, axo12, axo13, axo1l, axo1f⟩ := axo1.fourP)
              | (go_at_call 17; (with_reducible refine (iHeldBy_any R B3 D3 E3 b3 d3 f3 N _ ao1.sees ao1.i2 ao1.h2 ao1.w2).mono ?_); rintro e wb ⟨v9, rfl, ho9, hb⟩; rw [EH.out] at ho9; obtain ⟨A9, c9, rfl, k9, _⟩ := own_form ho9.out; have bdp := adp.below hb; have bhB := ahB.below hb; have bo1 := ao1.below hb; have bps := aps.below hb aps.lt; have bxo1 := axo1.below hb axo1.lt; have be0 := (hb.cell (p := ⟨bw, ow, none⟩) ahbl).trans ae0; have bhbl := Nat.lt_of_lt_of_le ahbl hb.size; obtain ⟨bps0, bps1, bps2, bps3, bpsl, bpsf⟩ := bps.fourP; obtain ⟨bxo10, bxo11, bxo12, bxo13, bxo1l, bxo1f⟩ := bxo1.fourP)
              | (go_at_call 14; (with_reducible refine (lisIn_any A9 c9 H i _ (Sees.of_own ho9.out) HL6.out).mono ?_); rintro e w' ⟨he, rfl⟩; rw [HIN.out] at he; subst he)
              | (go_at_call 15; (with_reducible refine (iValidPool_any R B3 D3 E3 b3 d3 f3 _ bo1.sees bo1.i2 bo1.h2 (Nat.le_trans bo1.w2 (by decide))).mono ?_); rintro e wf ⟨he, hb⟩; rw [HOK.out] at he; subst he; have fdp := bdp.below hb; have fhB := bhB.below hb; have fo1 := bo1.below hb; have fps := bps.below hb bps.lt; have fxo1 := bxo1.below hb bxo1.lt; have fe0 := (hb.cell (p := ⟨bw, ow, none⟩) bhbl).trans be0; have fhbl := Nat.lt_of_lt_of_le bhbl hb.size; obtain ⟨fps0, fps1, fps2, fps3, fpsl, fpsf⟩ := fps.fourP; obtain ⟨fxo10, fxo11, fxo12, fxo13, fxo1l, fxo1f⟩ := fxo1.fourP)
              | fail)
          all_goals
            go_wp2
            go_ret
            exact ⟨by first | rfl | (simp; done) | (simp; omega), fhB.bel⟩
        · skip
          have hck2 : ¬ 1 = c3 := fun e => hck e.symm
          obtain ⟨ps0, ps1, ps2, ps3, psl, psf⟩ := ps.fourP
          obtain ⟨xo10, xo11, xo12, xo13, xo1l, xo1f⟩ := xo1.fourP
          go_wp2_with fail
          clear ps0 ps1 ps2 ps3 psl psf
          clear xo10 xo11 xo12 xo13 xo1l xo1f
          have ddp := dp.drew
          have dhB := hB.drew
          have do1 := o1.drew
          have dps := ps.drew
          have dxo1 := xo1.drew
          obtain ⟨ps0, ps1, ps2, ps3, psl, psf⟩ := ps.fourP
          obtain ⟨xo10, xo11, xo12, xo13, xo1l, xo1f⟩ := xo1.fourP
          have de0 := e0
          have dhbl := hbl
          go_wp2_with fail
          go_region_held3 (fun w' => w'.cell? ⟨w2.heap.size, 0, none⟩ = some (.int .i64 p.mx) ∧ w'.cell? ⟨w2.heap.size, 1, none⟩ = some (.slice A1 p.idle.length c1) ∧ w'.cell? ⟨w2.heap.size, 2, none⟩ = some (.slice A2 p.held.length c2) ∧ w'.cell? ⟨w2.heap.size, 3, none⟩ = some (.slice (some ⟨bw, ow, none⟩) p.wait.length c3) ∧ w'.cell? ⟨w3.heap.size, 0, none⟩ = some (.int .i64 R.mx) ∧ w'.cell? ⟨w3.heap.size, 1, none⟩ = some (.slice B3 R.idle.length b3) ∧ w'.cell? ⟨w3.heap.size, 2, none⟩ = some (.slice D3 R.held.length d3) ∧ w'.cell? ⟨w3.heap.size, 3, none⟩ = some (.slice E3 R.wait.length f3) ∧ w'.cell? ⟨bw, ow, none⟩ = some (.int .i64 N))
            (first | with_reducible exact ⟨ps0, ps1, ps2, ps3, xo10, xo11, xo12, xo13, e0⟩ | with_reducible exact ⟨aps0, aps1, aps2, aps3, axo10, axo11, axo12, axo13, ae0⟩ | with_reducible exact ⟨bps0, bps1, bps2, bps3, bxo10, bxo11, bxo12, bxo13, be0⟩ | with_reducible exact ⟨fps0, fps1, fps2, fps3, fxo10, fxo11, fxo12, fxo13, fe0⟩ | go_keep)
            (first
              | (go_at_call 16; (with_reducible refine (kEq_of HRW.out rfl HDL.out do1.sees.wait (ints_dropK ddp.sees.wait 1) (by rw [HDL.out]; omega)).mono ?_); rintro e wa ⟨rfl, hb⟩; have adp := ddp.below hb; have ahB := dhB.below hb; have ao1 := do1.below hb; have aps := dps.below hb dps.lt; have axo1 := dxo1.below hb dxo1.lt; have ae0 := (hb.cell (p := ⟨bw, ow, none⟩) dhbl).trans de0; have ahbl := Nat.lt_of_lt_of_le dhbl hb.size; obtain ⟨aps0, aps1, aps2, aps3, apsl, apsf⟩ := aps.fourP; obtain ⟨axo10, axo11, axo12, axo13, axo1l, axo1f⟩ := axo1.fourP)
              | (go_at_call 17; (with_reducible refine (iHeldBy_any R B3 D3 E3 b3 d3 f3 N _ ao1.sees ao1.i2 ao1.h2 ao1.w2).mono ?_); rintro e wb ⟨v9, rfl, ho9, hb⟩; rw [EH.out] at ho9; obtain ⟨A9, c9, rfl, k9, _⟩ := own_form ho9.out; have bdp := adp.below hb; have bhB := ahB.below hb; have bo1 := ao1.below hb; have bps := aps.below hb aps.lt; have bxo1 := axo1.below hb axo1.lt; have be0 := (hb.cell (p := ⟨bw, ow, none⟩) ahbl).trans ae0; have bhbl := Nat.lt_of_lt_of_le ahbl hb.size; obtain ⟨bps0, bps1, bps2, bps3, bpsl, bpsf⟩ := bps.fourP; obtain ⟨bxo10, bxo11, bxo12, bxo13, bxo1l, bxo1f⟩ := bxo1.fourP)
              | (go_at_call 14; (with_reducible refine (lisIn_any A9 c9 H i _ (Sees.of_own ho9.out) HL6.out).mono ?_); rintro e w' ⟨he, rfl⟩; rw [HIN.out] at he; subst he)
              | (go_at_call 15; (with_reducible refine (iValidPool_any R B3 D3 E3 b3 d3 f3 _ bo1.sees bo1.i2 bo1.h2 (Nat.le_trans bo1.w2 (by decide))).mono ?_); rintro e wf ⟨he, hb⟩; rw [HOK.out] at he; subst he; have fdp := bdp.below hb; have fhB := bhB.below hb; have fo1 := bo1.below hb; have fps := bps.below hb bps.lt; have fxo1 := bxo1.below hb bxo1.lt; have fe0 := (hb.cell (p := ⟨bw, ow, none⟩) bhbl).trans be0; have fhbl := Nat.lt_of_lt_of_le bhbl hb.size; obtain ⟨fps0, fps1, fps2, fps3, fpsl, fpsf⟩ := fps.fourP; obtain ⟨fxo10, fxo11, fxo12, fxo13, fxo1l, fxo1f⟩ := fxo1.fourP)
              | fail)
          all_goals
            go_wp2
            go_ret
            exact ⟨by first | rfl | (simp; done) | (simp; omega), fhB.bel⟩
end Go.Proofs.Ytnfpnpdiglaebab

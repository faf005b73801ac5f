/-
  The walk of the law FnAcquireConnOpen: at every code it returns true and changes nothing that was there. Conditions: none.
-/
import Derived.Test.YtnfpnpdiglaebabLawPl
import Derived.Test.YtnfpnpdiglaebabLawFrame
import Derived.BigQuiet
import Derived.Deep.RegionHeld3
import Derived.Test.YtnfpnpdiglaebabLawPlB
namespace Go.Proofs.Ytnfpnpdiglaebab
open Go.RowKit Pol

set_option maxHeartbeats 8000000 in
set_option maxRecDepth 16384 in
theorem walkAcquireConnOpen (a : Option Addr) (len cap : Nat) (zs : List Int) (w : World) (hn : zs.length = len) (hc : len ≤ cap) (hcc : cap ≤ maxLen) (h : Sees w w.heap.size a (byts zs)) (hz : ∀ y ∈ zs, 0 ≤ y ∧ y ≤ 255) :
    Calls Try.prog 7 #[.slice a len cap] w fun e w' => e = .returned (.bool true) ∧ Below w.heap.size w w' := by
  have HE := hid hn
  have HC := hid hcc
  have HZ := hid hz
  clear hn hcc hz
  by_cases hbig : 1048576 < len
  · go_enter Try.func7, Try.ntmps7
    go_wp2
    go_ret
    exact ⟨rfl, Below.refl _ _⟩
  · go_enter Try.func7, Try.ntmps7
    go_wp2_with fail
    refine (drawAcquireConn_any _ _ _ _ _ h HZ.out HE.out hc (by omega) HC.out).mono ?_
    rintro e w2 ⟨A1, A2, A3, c1, c2, c3, p, i, rfl, dq, hi1, hi2⟩
    have dp := dq.ownk
    have hB : DB w w2 := dq.belw
    have hl7 := dq.2.2
    clear dq
    replace dp := dp.alloc (.cells #[.int .i64 p.mx, .slice A1 p.idle.length c1, .slice A2 p.held.length c2, .slice A3 p.wait.length c3] 26)
    replace hB := hB.alloc (.cells #[.int .i64 p.mx, .slice A1 p.idle.length c1, .slice A2 p.held.length c2, .slice A3 p.wait.length c3] 26)
    have ps := At.new w2 26 #[.int .i64 p.mx, .slice A1 p.idle.length c1, .slice A2 p.held.length c2, .slice A3 p.wait.length c3]
    obtain ⟨R, hR⟩ : ∃ R, R = acqR p i := ⟨_, rfl⟩
    have ER : Hid (acqR p i = R) := hid hR.symm
    obtain ⟨N, hN⟩ : ∃ N, N = acqN p i := ⟨_, rfl⟩
    have EN : Hid (acqN p i = N) := hid hN.symm
    have HRl := hid (show R.idle.length ≤ 13 ∧ R.held.length ≤ 13 ∧ R.wait.length ≤ 13 by rw [hR]; have := acqR_small p i; omega)
    rcases hb : acqB p i with _ | _
    · skip
      have EB := hid hb
      clear hb hR hN
      obtain ⟨ps0, ps1, ps2, ps3, psl, psf⟩ := ps.fourP
      go_wp2_with fail
      with_reducible refine (iAcquireConn_any p A1 A2 A3 c1 c2 c3 i _ dp.sees dp.k1 dp.i2 dp.h2 dp.w2).mono ?_
      rintro e w3 ⟨B3, D3, E3, b3, d3, f3, he, ho, hb⟩
      rw [ER.out, EN.out, EB.out] at he
      rw [ER.out] at ho
      subst he
      have o1 : OwnK w3 _ B3 D3 E3 b3 d3 f3 R := ⟨ho, HRl.out⟩
      clear ho
      replace dp := dp.below hb
      replace hB := hB.below hb
      replace ps := ps.below hb ps.lt
      clear hb
      clear ps0 ps1 ps2 ps3 psl psf
      replace dp := dp.alloc (.cells #[.int .i64 R.mx, .slice B3 R.idle.length b3, .slice D3 R.held.length d3, .slice E3 R.wait.length f3] 26)
      replace hB := hB.alloc (.cells #[.int .i64 R.mx, .slice B3 R.idle.length b3, .slice D3 R.held.length d3, .slice E3 R.wait.length f3] 26)
      replace o1 := o1.alloc (.cells #[.int .i64 R.mx, .slice B3 R.idle.length b3, .slice D3 R.held.length d3, .slice E3 R.wait.length f3] 26)
      replace ps := ps.alloc (.cells #[.int .i64 R.mx, .slice B3 R.idle.length b3, .slice D3 R.held.length d3, .slice E3 R.wait.length f3] 26)
      have xo1 := At.new w3 26 #[.int .i64 R.mx, .slice B3 R.idle.length b3, .slice D3 R.held.length d3, .slice E3 R.wait.length f3]
      obtain ⟨ps0, ps1, ps2, ps3, psl, psf⟩ := ps.fourP
      obtain ⟨xo10, xo11, xo12, xo13, xo1l, xo1f⟩ := xo1.fourP
      go_wp2_with fail
      with_reducible refine (sAcquireConn_any p A1 A2 A3 c1 c2 c3 i _ dp.sees dp.k1 dp.i2 dp.h2 dp.w2).mono ?_
      rintro e w4 ⟨B4, D4, E4, b4, d4, f4, he, ho, hb⟩
      rw [ER.out, EN.out, EB.out] at he
      rw [ER.out] at ho
      subst he
      have o2 : OwnK w4 _ B4 D4 E4 b4 d4 f4 R := ⟨ho, HRl.out⟩
      clear ho
      replace dp := dp.below hb
      replace hB := hB.below hb
      replace o1 := o1.below hb
      replace ps := ps.below hb ps.lt
      replace xo1 := xo1.below hb xo1.lt
      clear hb
      clear ps0 ps1 ps2 ps3 psl psf
      clear xo10 xo11 xo12 xo13 xo1l xo1f
      replace dp := dp.alloc (.cells #[.int .i64 R.mx, .slice B4 R.idle.length b4, .slice D4 R.held.length d4, .slice E4 R.wait.length f4] 26)
      replace hB := hB.alloc (.cells #[.int .i64 R.mx, .slice B4 R.idle.length b4, .slice D4 R.held.length d4, .slice E4 R.wait.length f4] 26)
      replace o1 := o1.alloc (.cells #[.int .i64 R.mx, .slice B4 R.idle.length b4, .slice D4 R.held.length d4, .slice E4 R.wait.length f4] 26)
      replace o2 := o2.alloc (.cells #[.int .i64 R.mx, .slice B4 R.idle.length b4, .slice D4 R.held.length d4, .slice E4 R.wait.length f4] 26)
      replace ps := ps.alloc (.cells #[.int .i64 R.mx, .slice B4 R.idle.length b4, .slice D4 R.held.length d4, .slice E4 R.wait.length f4] 26)
      replace xo1 := xo1.alloc (.cells #[.int .i64 R.mx, .slice B4 R.idle.length b4, .slice D4 R.held.length d4, .slice E4 R.wait.length f4] 26)
      have xo2 := At.new w4 26 #[.int .i64 R.mx, .slice B4 R.idle.length b4, .slice D4 R.held.length d4, .slice E4 R.wait.length f4]
      obtain ⟨ps0, ps1, ps2, ps3, psl, psf⟩ := ps.fourP
      obtain ⟨xo10, xo11, xo12, xo13, xo1l, xo1f⟩ := xo1.fourP
      obtain ⟨xo20, xo21, xo22, xo23, xo2l, xo2f⟩ := xo2.fourP
      go_wp2_with fail
      with_reducible refine (equalPool_same B3 D3 E3 B4 D4 E4 b3 d3 f3 b4 d4 f4 R _ o1.sees o2.sees (Nat.le_trans o1.i2 (by decide)) (Nat.le_trans o1.h2 (by decide)) (Nat.le_trans o1.w2 (by decide))).mono ?_
      rintro e w5 ⟨rfl, hb⟩
      replace dp := dp.below hb
      replace hB := hB.below hb
      replace o1 := o1.below hb
      replace o2 := o2.below hb
      replace ps := ps.below hb ps.lt
      replace xo1 := xo1.below hb xo1.lt
      replace xo2 := xo2.below hb xo2.lt
      clear hb
      clear ps0 ps1 ps2 ps3 psl psf
      clear xo10 xo11 xo12 xo13 xo1l xo1f
      clear xo20 xo21 xo22 xo23 xo2l xo2f
      obtain ⟨ps0, ps1, ps2, ps3, psl, psf⟩ := ps.fourP
      obtain ⟨xo10, xo11, xo12, xo13, xo1l, xo1f⟩ := xo1.fourP
      obtain ⟨xo20, xo21, xo22, xo23, xo2l, xo2f⟩ := xo2.fourP
      go_wp2_with fail
      with_reducible refine (equalPool_same B3 D3 E3 B4 D4 E4 b3 d3 f3 b4 d4 f4 R _ o1.sees o2.sees (Nat.le_trans o1.i2 (by decide)) (Nat.le_trans o1.h2 (by decide)) (Nat.le_trans o1.w2 (by decide))).mono ?_
      rintro e w6 ⟨rfl, hb⟩
      replace dp := dp.below hb
      replace hB := hB.below hb
      replace o1 := o1.below hb
      replace o2 := o2.below hb
      replace ps := ps.below hb ps.lt
      replace xo1 := xo1.below hb xo1.lt
      replace xo2 := xo2.below hb xo2.lt
      clear hb
      clear ps0 ps1 ps2 ps3 psl psf
      clear xo10 xo11 xo12 xo13 xo1l xo1f
      clear xo20 xo21 xo22 xo23 xo2l xo2f
      obtain ⟨ps0, ps1, ps2, ps3, psl, psf⟩ := ps.fourP
      obtain ⟨xo10, xo11, xo12, xo13, xo1l, xo1f⟩ := xo1.fourP
      obtain ⟨xo20, xo21, xo22, xo23, xo2l, xo2f⟩ := xo2.fourP
      go_wp2
      go_ret
      exact ⟨by first | rfl | (simp; done) | (simp; omega), hB.bel⟩
    · skip
      have EB := hid hb
      by_cases hi0 : p.idle.length = 0
      · skip
        have hri := acq_idle (p := p) (o := i) (List.eq_nil_of_length_eq_zero hi0)
        rw [← hR] at hri
        have hrl : R.idle.length = 0 := by rw [hri]; rfl
        have HRL := hid hrl
        have hli : ¬ (p.idle.length : Int) > 0 := by omega
        have HI0 := hid hi0
        clear hb hR hN hri hrl hi0
        obtain ⟨ps0, ps1, ps2, ps3, psl, psf⟩ := ps.fourP
        go_wp2_with fail
        with_reducible refine (iAcquireConn_any p A1 A2 A3 c1 c2 c3 i _ dp.sees dp.k1 dp.i2 dp.h2 dp.w2).mono ?_
        rintro e w3 ⟨B3, D3, E3, b3, d3, f3, he, ho, hb⟩
        rw [ER.out, EN.out, EB.out] at he
        rw [ER.out] at ho
        subst he
        have o1 : OwnK w3 _ B3 D3 E3 b3 d3 f3 R := ⟨ho, HRl.out⟩
        clear ho
        replace dp := dp.below hb
        replace hB := hB.below hb
        replace ps := ps.below hb ps.lt
        clear hb
        clear ps0 ps1 ps2 ps3 psl psf
        replace dp := dp.alloc (.cells #[.int .i64 R.mx, .slice B3 R.idle.length b3, .slice D3 R.held.length d3, .slice E3 R.wait.length f3] 26)
        replace hB := hB.alloc (.cells #[.int .i64 R.mx, .slice B3 R.idle.length b3, .slice D3 R.held.length d3, .slice E3 R.wait.length f3] 26)
        replace o1 := o1.alloc (.cells #[.int .i64 R.mx, .slice B3 R.idle.length b3, .slice D3 R.held.length d3, .slice E3 R.wait.length f3] 26)
        replace ps := ps.alloc (.cells #[.int .i64 R.mx, .slice B3 R.idle.length b3, .slice D3 R.held.length d3, .slice E3 R.wait.length f3] 26)
        have xo1 := At.new w3 26 #[.int .i64 R.mx, .slice B3 R.idle.length b3, .slice D3 R.held.length d3, .slice E3 R.wait.length f3]
        obtain ⟨ps0, ps1, ps2, ps3, psl, psf⟩ := ps.fourP
        obtain ⟨xo10, xo11, xo12, xo13, xo1l, xo1f⟩ := xo1.fourP
        go_wp2_with fail
        with_reducible refine (sAcquireConn_any p A1 A2 A3 c1 c2 c3 i _ dp.sees dp.k1 dp.i2 dp.h2 dp.w2).mono ?_
        rintro e w4 ⟨B4, D4, E4, b4, d4, f4, he, ho, hb⟩
        rw [ER.out, EN.out, EB.out] at he
        rw [ER.out] at ho
        subst he
        have o2 : OwnK w4 _ B4 D4 E4 b4 d4 f4 R := ⟨ho, HRl.out⟩
        clear ho
        replace dp := dp.below hb
        replace hB := hB.below hb
        replace o1 := o1.below hb
        replace ps := ps.below hb ps.lt
        replace xo1 := xo1.below hb xo1.lt
        clear hb
        clear ps0 ps1 ps2 ps3 psl psf
        clear xo10 xo11 xo12 xo13 xo1l xo1f
        replace dp := dp.alloc (.cells #[.int .i64 R.mx, .slice B4 R.idle.length b4, .slice D4 R.held.length d4, .slice E4 R.wait.length f4] 26)
        replace hB := hB.alloc (.cells #[.int .i64 R.mx, .slice B4 R.idle.length b4, .slice D4 R.held.length d4, .slice E4 R.wait.length f4] 26)
        replace o1 := o1.alloc (.cells #[.int .i64 R.mx, .slice B4 R.idle.length b4, .slice D4 R.held.length d4, .slice E4 R.wait.length f4] 26)
        replace o2 := o2.alloc (.cells #[.int .i64 R.mx, .slice B4 R.idle.length b4, .slice D4 R.held.length d4, .slice E4 R.wait.length f4] 26)
        replace ps := ps.alloc (.cells #[.int .i64 R.mx, .slice B4 R.idle.length b4, .slice D4 R.held.length d4, .slice E4 R.wait.length f4] 26)
        replace xo1 := xo1.alloc (.cells #[.int .i64 R.mx, .slice B4 R.idle.length b4, .slice D4 R.held.length d4, .slice E4 R.wait.length f4] 26)
        have xo2 := At.new w4 26 #[.int .i64 R.mx, .slice B4 R.idle.length b4, .slice D4 R.held.length d4, .slice E4 R.wait.length f4]
        obtain ⟨ps0, ps1, ps2, ps3, psl, psf⟩ := ps.fourP
        obtain ⟨xo10, xo11, xo12, xo13, xo1l, xo1f⟩ := xo1.fourP
        obtain ⟨xo20, xo21, xo22, xo23, xo2l, xo2f⟩ := xo2.fourP
        go_wp2_with fail
        with_reducible refine (equalPool_same B3 D3 E3 B4 D4 E4 b3 d3 f3 b4 d4 f4 R _ o1.sees o2.sees (Nat.le_trans o1.i2 (by decide)) (Nat.le_trans o1.h2 (by decide)) (Nat.le_trans o1.w2 (by decide))).mono ?_
        rintro e w5 ⟨rfl, hb⟩
        replace dp := dp.below hb
        replace hB := hB.below hb
        replace o1 := o1.below hb
        replace o2 := o2.below hb
        replace ps := ps.below hb ps.lt
        replace xo1 := xo1.below hb xo1.lt
        replace xo2 := xo2.below hb xo2.lt
        clear hb
        clear ps0 ps1 ps2 ps3 psl psf
        clear xo10 xo11 xo12 xo13 xo1l xo1f
        clear xo20 xo21 xo22 xo23 xo2l xo2f
        have hrb : ((R.idle.length : Int) == 0) = true := beq_iff_eq.2 (by have := HRL.out; omega)
        obtain ⟨ps0, ps1, ps2, ps3, psl, psf⟩ := ps.fourP
        obtain ⟨xo10, xo11, xo12, xo13, xo1l, xo1f⟩ := xo1.fourP
        obtain ⟨xo20, xo21, xo22, xo23, xo2l, xo2f⟩ := xo2.fourP
        go_wp2
        go_ret
        exact ⟨by first | rfl | (simp; done) | (simp; omega), hB.bel⟩
      · skip
        obtain ⟨f1, f2⟩ := acq_last hb (fun e => hi0 (by rw [e]; rfl))
        rw [← hN] at f1
        rw [← hR] at f2
        obtain ⟨m, hm⟩ : ∃ m, p.idle.length = m + 1 := ⟨p.idle.length - 1, by omega⟩
        have HX := hid (show ∀ h : m < p.idle.length, p.idle[m] = N from fun h => by
          rw [f1, List.getLast_eq_getElem]
          congr 1
          omega)
        have HI := hid (show R.idle = p.idle.take m by rw [f2, List.dropLast_eq_take, hm]; rfl)
        have HTL := hid (show (p.idle.take m).length = m by rw [List.length_take]; omega)
        have hli : (p.idle.length : Int) > 0 := by omega
        have HM := hid hm
        clear hb hR hN f1 f2 hi0 hm
        obtain ⟨ps0, ps1, ps2, ps3, psl, psf⟩ := ps.fourP
        go_wp2_with fail
        with_reducible refine (iAcquireConn_any p A1 A2 A3 c1 c2 c3 i _ dp.sees dp.k1 dp.i2 dp.h2 dp.w2).mono ?_
        rintro e w3 ⟨B3, D3, E3, b3, d3, f3, he, ho, hb⟩
        rw [ER.out, EN.out, EB.out] at he
        rw [ER.out] at ho
        subst he
        have o1 : OwnK w3 _ B3 D3 E3 b3 d3 f3 R := ⟨ho, HRl.out⟩
        clear ho
        replace dp := dp.below hb
        replace hB := hB.below hb
        replace ps := ps.below hb ps.lt
        clear hb
        clear ps0 ps1 ps2 ps3 psl psf
        replace dp := dp.alloc (.cells #[.int .i64 R.mx, .slice B3 R.idle.length b3, .slice D3 R.held.length d3, .slice E3 R.wait.length f3] 26)
        replace hB := hB.alloc (.cells #[.int .i64 R.mx, .slice B3 R.idle.length b3, .slice D3 R.held.length d3, .slice E3 R.wait.length f3] 26)
        replace o1 := o1.alloc (.cells #[.int .i64 R.mx, .slice B3 R.idle.length b3, .slice D3 R.held.length d3, .slice E3 R.wait.length f3] 26)
        replace ps := ps.alloc (.cells #[.int .i64 R.mx, .slice B3 R.idle.length b3, .slice D3 R.held.length d3, .slice E3 R.wait.length f3] 26)
        have xo1 := At.new w3 26 #[.int .i64 R.mx, .slice B3 R.idle.length b3, .slice D3 R.held.length d3, .slice E3 R.wait.length f3]
        obtain ⟨ps0, ps1, ps2, ps3, psl, psf⟩ := ps.fourP
        obtain ⟨xo10, xo11, xo12, xo13, xo1l, xo1f⟩ := xo1.fourP
        go_wp2_with fail
        with_reducible refine (sAcquireConn_any p A1 A2 A3 c1 c2 c3 i _ dp.sees dp.k1 dp.i2 dp.h2 dp.w2).mono ?_
        rintro e w4 ⟨B4, D4, E4, b4, d4, f4, he, ho, hb⟩
        rw [ER.out, EN.out, EB.out] at he
        rw [ER.out] at ho
        subst he
        have o2 : OwnK w4 _ B4 D4 E4 b4 d4 f4 R := ⟨ho, HRl.out⟩
        clear ho
        replace dp := dp.below hb
        replace hB := hB.below hb
        replace o1 := o1.below hb
        replace ps := ps.below hb ps.lt
        replace xo1 := xo1.below hb xo1.lt
        clear hb
        clear ps0 ps1 ps2 ps3 psl psf
        clear xo10 xo11 xo12 xo13 xo1l xo1f
        replace dp := dp.alloc (.cells #[.int .i64 R.mx, .slice B4 R.idle.length b4, .slice D4 R.held.length d4, .slice E4 R.wait.length f4] 26)
        replace hB := hB.alloc (.cells #[.int .i64 R.mx, .slice B4 R.idle.length b4, .slice D4 R.held.length d4, .slice E4 R.wait.length f4] 26)
        replace o1 := o1.alloc (.cells #[.int .i64 R.mx, .slice B4 R.idle.length b4, .slice D4 R.held.length d4, .slice E4 R.wait.length f4] 26)
        replace o2 := o2.alloc (.cells #[.int .i64 R.mx, .slice B4 R.idle.length b4, .slice D4 R.held.length d4, .slice E4 R.wait.length f4] 26)
        replace ps := ps.alloc (.cells #[.int .i64 R.mx, .slice B4 R.idle.length b4, .slice D4 R.held.length d4, .slice E4 R.wait.length f4] 26)
        replace xo1 := xo1.alloc (.cells #[.int .i64 R.mx, .slice B4 R.idle.length b4, .slice D4 R.held.length d4, .slice E4 R.wait.length f4] 26)
        have xo2 := At.new w4 26 #[.int .i64 R.mx, .slice B4 R.idle.length b4, .slice D4 R.held.length d4, .slice E4 R.wait.length f4]
        obtain ⟨ps0, ps1, ps2, ps3, psl, psf⟩ := ps.fourP
        obtain ⟨xo10, xo11, xo12, xo13, xo1l, xo1f⟩ := xo1.fourP
        obtain ⟨xo20, xo21, xo22, xo23, xo2l, xo2f⟩ := xo2.fourP
        go_wp2_with fail
        with_reducible refine (equalPool_same B3 D3 E3 B4 D4 E4 b3 d3 f3 b4 d4 f4 R _ o1.sees o2.sees (Nat.le_trans o1.i2 (by decide)) (Nat.le_trans o1.h2 (by decide)) (Nat.le_trans o1.w2 (by decide))).mono ?_
        rintro e w5 ⟨rfl, hb⟩
        replace dp := dp.below hb
        replace hB := hB.below hb
        replace o1 := o1.below hb
        replace o2 := o2.below hb
        replace ps := ps.below hb ps.lt
        replace xo1 := xo1.below hb xo1.lt
        replace xo2 := xo2.below hb xo2.lt
        clear hb
        clear ps0 ps1 ps2 ps3 psl psf
        clear xo10 xo11 xo12 xo13 xo1l xo1f
        clear xo20 xo21 xo22 xo23 xo2l xo2f
        clear o2
        clear xo2
        have hm := HM.out
        have hcap := dp.k1
        obtain ⟨bw, ow, hE, hbl, e0⟩ := dp.sees.idle.int (show m < p.idle.length by omega)
        rw [HX.out (by omega)] at e0
        subst hE
        have hwr : IntKind.i64.wrap ((p.idle.length : Int) - 1) = (m : Int) := by rw [IntKind.wrap_i64]; omega
        have m0 : (0 : Int) ≤ (m : Int) := by omega
        have m1 : (m : Int) < (p.idle.length : Int) := by omega
        have m2 : (m : Int) ≤ (c1 : Int) := by omega
        have m3 : (m : Int) ≤ (p.idle.length : Int) := by omega
        have m4 : (p.idle.length : Int) ≤ (c1 : Int) := by omega
        clear hm
        obtain ⟨ps0, ps1, ps2, ps3, psl, psf⟩ := ps.fourP
        obtain ⟨xo10, xo11, xo12, xo13, xo1l, xo1f⟩ := xo1.fourP
        go_wp2_with fail
        clear ps0 ps1 ps2 ps3 psl psf
        clear xo10 xo11 xo12 xo13 xo1l xo1f
        have ddp := dp.drew
        have dhB := hB.drew
        have do1 := o1.drew
        have dps := ps.drew
        have dxo1 := xo1.drew
        obtain ⟨ps0, ps1, ps2, ps3, psl, psf⟩ := ps.fourP
        obtain ⟨xo10, xo11, xo12, xo13, xo1l, xo1f⟩ := xo1.fourP
        have de0 := e0
        have dhbl := hbl
        go_wp2_with fail
        go_region_held3 (fun w' => w'.cell? ⟨w2.heap.size, 0, none⟩ = some (.int .i64 p.mx) ∧ w'.cell? ⟨w2.heap.size, 1, none⟩ = some (.slice (some ⟨bw, ow, none⟩) p.idle.length c1) ∧ w'.cell? ⟨w2.heap.size, 2, none⟩ = some (.slice A2 p.held.length c2) ∧ w'.cell? ⟨w2.heap.size, 3, none⟩ = some (.slice A3 p.wait.length c3) ∧ w'.cell? ⟨w3.heap.size, 0, none⟩ = some (.int .i64 R.mx) ∧ w'.cell? ⟨w3.heap.size, 1, none⟩ = some (.slice B3 R.idle.length b3) ∧ w'.cell? ⟨w3.heap.size, 2, none⟩ = some (.slice D3 R.held.length d3) ∧ w'.cell? ⟨w3.heap.size, 3, none⟩ = some (.slice E3 R.wait.length f3) ∧ w'.cell? ⟨bw, ow + m, none⟩ = some (.int .i64 N))
          (first | with_reducible exact ⟨ps0, ps1, ps2, ps3, xo10, xo11, xo12, xo13, e0⟩ | with_reducible exact ⟨aps0, aps1, aps2, aps3, axo10, axo11, axo12, axo13, ae0⟩ | go_keep)
          (first
            | (go_at_call 16; (with_reducible refine (kEq_of HI.out rfl HTL.out do1.sees.idle (ddp.sees.idle.itake m) (by rw [HTL.out]; omega)).mono ?_); rintro e wa ⟨rfl, hb⟩; have adp := ddp.below hb; have ahB := dhB.below hb; have ao1 := do1.below hb; have aps := dps.below hb dps.lt; have axo1 := dxo1.below hb dxo1.lt; have ae0 := (hb.cell (p := ⟨bw, ow + m, none⟩) dhbl).trans de0; have ahbl := Nat.lt_of_lt_of_le dhbl hb.size; obtain ⟨aps0, aps1, aps2, aps3, apsl, apsf⟩ := aps.fourP; obtain ⟨axo10, axo11, axo12, axo13, axo1l, axo1f⟩ := axo1.fourP)
            | fail)
        all_goals
          go_wp2
          go_ret
          exact ⟨by first | rfl | (simp; done) | (simp; omega), ahB.bel⟩
end Go.Proofs.Ytnfpnpdiglaebab

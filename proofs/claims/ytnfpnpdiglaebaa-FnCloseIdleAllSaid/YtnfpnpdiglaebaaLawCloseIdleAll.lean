/-
  The walk of the law FnCloseIdleAll: at every code it returns true and changes nothing that was there. Conditions: none.
-/
import Derived.Test.YtnfpnpdiglaebaaLawPl
import Derived.Test.YtnfpnpdiglaebaaLawFrame
import Derived.BigQuiet
import Derived.Deep.RegionHeld3

namespace Go.Proofs.Ytnfpnpdiglaebaa
open Go.RowKit Pol

set_option maxHeartbeats 8000000 in
set_option maxRecDepth 16384 in
theorem walkCloseIdleAll (a : Option Addr) (len cap : Nat) (zs : List Int) (w : World) (hn : zs.length = len) (hc : len ≤ cap) (hcc : cap ≤ maxLen) (h : Sees w w.heap.size a (byts zs)) (hz : ∀ y ∈ zs, 0 ≤ y ∧ y ≤ 255) :
    Calls Try.prog 9 #[.slice a len cap] w fun e w' => e = .returned (.bool true) ∧ Below w.heap.size w w' := by
  have HE := hid hn
  have HC := hid hcc
  have HZ := hid hz
  clear hn hcc hz
  by_cases hbig : 1048576 < len
  · go_enter Try.func9, Try.ntmps9
    go_wp2
    go_ret
    exact ⟨rfl, Below.refl _ _⟩
  · go_enter Try.func9, Try.ntmps9
    go_wp2_with fail
    refine (drawCloseIdle_any _ _ _ _ _ h HZ.out HE.out hc (by omega) HC.out).mono ?_
    rintro e w2 ⟨A1, A2, A3, c1, c2, c3, p, i, rfl, dq, hi1, hi2⟩
    have dp := dq.ownk
    have hB : DB w w2 := dq.belw
    have hl7 := dq.2.2
    clear dq
    replace dp := dp.alloc (.cells #[.int .i64 p.mx, .slice A1 p.idle.length c1, .slice A2 p.held.length c2, .slice A3 p.wait.length c3] 26)
    replace hB := hB.alloc (.cells #[.int .i64 p.mx, .slice A1 p.idle.length c1, .slice A2 p.held.length c2, .slice A3 p.wait.length c3] 26)
    have ps := At.new w2 26 #[.int .i64 p.mx, .slice A1 p.idle.length c1, .slice A2 p.held.length c2, .slice A3 p.wait.length c3]
    have HNO := hid (fun (h : clsB p i = false) => (cls_no h).1)
    have HYES := hid (fun (h : clsB p i = true) => (clsB_iff.1 h))
    obtain ⟨R, hR⟩ : ∃ R, R = clsR p i := ⟨_, rfl⟩
    have ER : Hid (clsR p i = R) := hid hR.symm
    obtain ⟨N, hN⟩ : ∃ N, N = clsN p i := ⟨_, rfl⟩
    have EN : Hid (clsN p i = N) := hid hN.symm
    have HRl := hid (show R.idle.length ≤ 13 ∧ R.held.length ≤ 13 ∧ R.wait.length ≤ 13 by rw [hR]; have := cls_len (p := p) (m := i); omega)
    have HBN := hid (show N < 0 ↔ clsB p i = false by
      rw [hN]
      rcases hc : clsB p i with _ | _
      · have := (cls_no hc).1; rw [this]; simp
      · obtain ⟨k, _, e, _⟩ := cls_nat hc; rw [e]; simp; try omega)
    clear hR hN
    obtain ⟨ps0, ps1, ps2, ps3, psl, psf⟩ := ps.fourP
    go_wp2_with fail
    with_reducible refine (iCloseIdle_any p A1 A2 A3 c1 c2 c3 i _ dp.sees dp.k1 dp.i2 dp.h2 dp.w2).mono ?_
    rintro e w3 ⟨B3, D3, E3, b3, d3, f3, he, ho, hb⟩
    rw [ER.out, EN.out] at he
    rw [ER.out] at ho
    subst he
    have o1 : OwnK w3 _ B3 D3 E3 b3 d3 f3 R := ⟨ho, HRl.out⟩
    clear ho
    replace dp := dp.below hb
    replace hB := hB.below hb
    replace ps := ps.below hb ps.lt
    clear hb
    clear ps0 ps1 ps2 ps3 psl psf
    replace dp := dp.alloc (.cells #[.int .i64 R.mx, .slice B3 R.idle.length b3, .slice D3 R.held.length d3, .slice E3 R.wait.length f3] 26)
    replace hB := hB.alloc (.cells #[.int .i64 R.mx, .slice B3 R.idle.length b3, .slice D3 R.held.length d3, .slice E3 R.wait.length f3] 26)
    replace o1 := o1.alloc (.cells #[.int .i64 R.mx, .slice B3 R.idle.length b3, .slice D3 R.held.length d3, .slice E3 R.wait.length f3] 26)
    replace ps := ps.alloc (.cells #[.int .i64 R.mx, .slice B3 R.idle.length b3, .slice D3 R.held.length d3, .slice E3 R.wait.length f3] 26)
    have xo1 := At.new w3 26 #[.int .i64 R.mx, .slice B3 R.idle.length b3, .slice D3 R.held.length d3, .slice E3 R.wait.length f3]
    obtain ⟨ps0, ps1, ps2, ps3, psl, psf⟩ := ps.fourP
    obtain ⟨xo10, xo11, xo12, xo13, xo1l, xo1f⟩ := xo1.fourP
    go_wp2_with fail
    with_reducible refine (sCloseIdle_any p A1 A2 A3 c1 c2 c3 i _ dp.sees dp.k1 dp.i2 dp.h2 dp.w2).mono ?_
    rintro e w4 ⟨B4, D4, E4, b4, d4, f4, he, ho, hb⟩
    rw [ER.out, EN.out] at he
    rw [ER.out] at ho
    subst he
    have o2 : OwnK w4 _ B4 D4 E4 b4 d4 f4 R := ⟨ho, HRl.out⟩
    clear ho
    replace dp := dp.below hb
    replace hB := hB.below hb
    replace o1 := o1.below hb
    replace ps := ps.below hb ps.lt
    replace xo1 := xo1.below hb xo1.lt
    clear hb
    clear ps0 ps1 ps2 ps3 psl psf
    clear xo10 xo11 xo12 xo13 xo1l xo1f
    replace dp := dp.alloc (.cells #[.int .i64 R.mx, .slice B4 R.idle.length b4, .slice D4 R.held.length d4, .slice E4 R.wait.length f4] 26)
    replace hB := hB.alloc (.cells #[.int .i64 R.mx, .slice B4 R.idle.length b4, .slice D4 R.held.length d4, .slice E4 R.wait.length f4] 26)
    replace o1 := o1.alloc (.cells #[.int .i64 R.mx, .slice B4 R.idle.length b4, .slice D4 R.held.length d4, .slice E4 R.wait.length f4] 26)
    replace o2 := o2.alloc (.cells #[.int .i64 R.mx, .slice B4 R.idle.length b4, .slice D4 R.held.length d4, .slice E4 R.wait.length f4] 26)
    replace ps := ps.alloc (.cells #[.int .i64 R.mx, .slice B4 R.idle.length b4, .slice D4 R.held.length d4, .slice E4 R.wait.length f4] 26)
    replace xo1 := xo1.alloc (.cells #[.int .i64 R.mx, .slice B4 R.idle.length b4, .slice D4 R.held.length d4, .slice E4 R.wait.length f4] 26)
    have xo2 := At.new w4 26 #[.int .i64 R.mx, .slice B4 R.idle.length b4, .slice D4 R.held.length d4, .slice E4 R.wait.length f4]
    obtain ⟨ps0, ps1, ps2, ps3, psl, psf⟩ := ps.fourP
    obtain ⟨xo10, xo11, xo12, xo13, xo1l, xo1f⟩ := xo1.fourP
    obtain ⟨xo20, xo21, xo22, xo23, xo2l, xo2f⟩ := xo2.fourP
    go_wp2_with fail
    with_reducible refine (equalPool_same B3 D3 E3 B4 D4 E4 b3 d3 f3 b4 d4 f4 R _ o1.sees o2.sees (Nat.le_trans o1.i2 (by decide)) (Nat.le_trans o1.h2 (by decide)) (Nat.le_trans o1.w2 (by decide))).mono ?_
    rintro e w5 ⟨rfl, hb⟩
    replace dp := dp.below hb
    replace hB := hB.below hb
    replace o1 := o1.below hb
    replace o2 := o2.below hb
    replace ps := ps.below hb ps.lt
    replace xo1 := xo1.below hb xo1.lt
    replace xo2 := xo2.below hb xo2.lt
    clear hb
    clear ps0 ps1 ps2 ps3 psl psf
    clear xo10 xo11 xo12 xo13 xo1l xo1f
    clear xo20 xo21 xo22 xo23 xo2l xo2f
    by_cases hn0 : N < 0
    · skip
      obtain ⟨ps0, ps1, ps2, ps3, psl, psf⟩ := ps.fourP
      obtain ⟨xo10, xo11, xo12, xo13, xo1l, xo1f⟩ := xo1.fourP
      obtain ⟨xo20, xo21, xo22, xo23, xo2l, xo2f⟩ := xo2.fourP
      go_wp2_with fail
      with_reducible refine (equalPool_same B3 D3 E3 B4 D4 E4 b3 d3 f3 b4 d4 f4 R _ o1.sees o2.sees (Nat.le_trans o1.i2 (by decide)) (Nat.le_trans o1.h2 (by decide)) (Nat.le_trans o1.w2 (by decide))).mono ?_
      rintro e w6 ⟨rfl, hb⟩
      replace dp := dp.below hb
      replace hB := hB.below hb
      replace o1 := o1.below hb
      replace o2 := o2.below hb
      replace ps := ps.below hb ps.lt
      replace xo1 := xo1.below hb xo1.lt
      replace xo2 := xo2.below hb xo2.lt
      clear hb
      clear ps0 ps1 ps2 ps3 psl psf
      clear xo10 xo11 xo12 xo13 xo1l xo1f
      clear xo20 xo21 xo22 xo23 xo2l xo2f
      obtain ⟨ps0, ps1, ps2, ps3, psl, psf⟩ := ps.fourP
      obtain ⟨xo10, xo11, xo12, xo13, xo1l, xo1f⟩ := xo1.fourP
      obtain ⟨xo20, xo21, xo22, xo23, xo2l, xo2f⟩ := xo2.fourP
      go_wp2
      go_ret
      exact ⟨by first | rfl | (simp; done) | (simp; omega), hB.bel⟩
    · skip
      have hcb : clsB p i = true := by
        rcases hc : clsB p i with _ | _
        · exact absurd (HBN.out.2 hc) hn0
        · rfl
      have hok := (HYES.out hcb).1
      obtain ⟨a1, a2, a3⟩ := cls_all hok
      obtain ⟨z1, z2, z3⟩ := cls_none hok
      have EA := hid a3
      have EZ := hid z2
      have EZN := hid z3
      have HPl := hid (show p.idle.length ≤ 13 ∧ p.held.length ≤ 13 ∧ p.wait.length ≤ 13 by omega)
      obtain ⟨Q, hQ⟩ : ∃ Q, Q = clsR p 1000 := ⟨_, rfl⟩
      have EQ : Hid (clsR p 1000 = Q) := hid hQ.symm
      have HQl := hid (show Q.idle.length ≤ 13 ∧ Q.held.length ≤ 13 ∧ Q.wait.length ≤ 13 by rw [hQ]; have := cls_len (p := p) (m := 1000); omega)
      have HQ0 := hid (show Q.idle.length = 0 by rw [hQ, a2]; rfl)
      clear hQ a1 a2 a3 z1 z2 z3 hok hcb
      clear o2
      clear xo2
      obtain ⟨ps0, ps1, ps2, ps3, psl, psf⟩ := ps.fourP
      obtain ⟨xo10, xo11, xo12, xo13, xo1l, xo1f⟩ := xo1.fourP
      go_wp2_with fail
      with_reducible refine (iCloseIdle_any p A1 A2 A3 c1 c2 c3 1000 _ dp.sees dp.k1 dp.i2 dp.h2 dp.w2).mono ?_
      rintro e w6 ⟨B6, D6, E6, b6, d6, f6, he, ho, hb⟩
      rw [EQ.out, EA.out] at he
      rw [EQ.out] at ho
      subst he
      have o3 : OwnK w6 _ B6 D6 E6 b6 d6 f6 Q := ⟨ho, HQl.out⟩
      clear ho
      replace dp := dp.below hb
      replace hB := hB.below hb
      replace o1 := o1.below hb
      replace ps := ps.below hb ps.lt
      replace xo1 := xo1.below hb xo1.lt
      clear hb
      clear ps0 ps1 ps2 ps3 psl psf
      clear xo10 xo11 xo12 xo13 xo1l xo1f
      replace dp := dp.alloc (.cells #[.int .i64 Q.mx, .slice B6 Q.idle.length b6, .slice D6 Q.held.length d6, .slice E6 Q.wait.length f6] 26)
      replace hB := hB.alloc (.cells #[.int .i64 Q.mx, .slice B6 Q.idle.length b6, .slice D6 Q.held.length d6, .slice E6 Q.wait.length f6] 26)
      replace o1 := o1.alloc (.cells #[.int .i64 Q.mx, .slice B6 Q.idle.length b6, .slice D6 Q.held.length d6, .slice E6 Q.wait.length f6] 26)
      replace o3 := o3.alloc (.cells #[.int .i64 Q.mx, .slice B6 Q.idle.length b6, .slice D6 Q.held.length d6, .slice E6 Q.wait.length f6] 26)
      replace ps := ps.alloc (.cells #[.int .i64 Q.mx, .slice B6 Q.idle.length b6, .slice D6 Q.held.length d6, .slice E6 Q.wait.length f6] 26)
      replace xo1 := xo1.alloc (.cells #[.int .i64 Q.mx, .slice B6 Q.idle.length b6, .slice D6 Q.held.length d6, .slice E6 Q.wait.length f6] 26)
      have xo3 := At.new w6 26 #[.int .i64 Q.mx, .slice B6 Q.idle.length b6, .slice D6 Q.held.length d6, .slice E6 Q.wait.length f6]
      obtain ⟨ps0, ps1, ps2, ps3, psl, psf⟩ := ps.fourP
      obtain ⟨xo10, xo11, xo12, xo13, xo1l, xo1f⟩ := xo1.fourP
      obtain ⟨xo30, xo31, xo32, xo33, xo3l, xo3f⟩ := xo3.fourP
      go_wp2_with fail
      with_reducible refine (iCloseIdle_any p A1 A2 A3 c1 c2 c3 0 _ dp.sees dp.k1 dp.i2 dp.h2 dp.w2).mono ?_
      rintro e w7 ⟨B7, D7, E7, b7, d7, f7, he, ho, hb⟩
      rw [EZ.out, EZN.out] at he
      rw [EZ.out] at ho
      subst he
      have o4 : OwnK w7 _ B7 D7 E7 b7 d7 f7 p := ⟨ho, HPl.out⟩
      clear ho
      replace dp := dp.below hb
      replace hB := hB.below hb
      replace o1 := o1.below hb
      replace o3 := o3.below hb
      replace ps := ps.below hb ps.lt
      replace xo1 := xo1.below hb xo1.lt
      replace xo3 := xo3.below hb xo3.lt
      clear hb
      clear ps0 ps1 ps2 ps3 psl psf
      clear xo10 xo11 xo12 xo13 xo1l xo1f
      clear xo30 xo31 xo32 xo33 xo3l xo3f
      replace dp := dp.alloc (.cells #[.int .i64 p.mx, .slice B7 p.idle.length b7, .slice D7 p.held.length d7, .slice E7 p.wait.length f7] 26)
      replace hB := hB.alloc (.cells #[.int .i64 p.mx, .slice B7 p.idle.length b7, .slice D7 p.held.length d7, .slice E7 p.wait.length f7] 26)
      replace o1 := o1.alloc (.cells #[.int .i64 p.mx, .slice B7 p.idle.length b7, .slice D7 p.held.length d7, .slice E7 p.wait.length f7] 26)
      replace o3 := o3.alloc (.cells #[.int .i64 p.mx, .slice B7 p.idle.length b7, .slice D7 p.held.length d7, .slice E7 p.wait.length f7] 26)
      replace o4 := o4.alloc (.cells #[.int .i64 p.mx, .slice B7 p.idle.length b7, .slice D7 p.held.length d7, .slice E7 p.wait.length f7] 26)
      replace ps := ps.alloc (.cells #[.int .i64 p.mx, .slice B7 p.idle.length b7, .slice D7 p.held.length d7, .slice E7 p.wait.length f7] 26)
      replace xo1 := xo1.alloc (.cells #[.int .i64 p.mx, .slice B7 p.idle.length b7, .slice D7 p.held.length d7, .slice E7 p.wait.length f7] 26)
      replace xo3 := xo3.alloc (.cells #[.int .i64 p.mx, .slice B7 p.idle.length b7, .slice D7 p.held.length d7, .slice E7 p.wait.length f7] 26)
      have xo4 := At.new w7 26 #[.int .i64 p.mx, .slice B7 p.idle.length b7, .slice D7 p.held.length d7, .slice E7 p.wait.length f7]
      have hq0 := HQ0.out
      obtain ⟨ps0, ps1, ps2, ps3, psl, psf⟩ := ps.fourP
      obtain ⟨xo10, xo11, xo12, xo13, xo1l, xo1f⟩ := xo1.fourP
      obtain ⟨xo30, xo31, xo32, xo33, xo3l, xo3f⟩ := xo3.fourP
      obtain ⟨xo40, xo41, xo42, xo43, xo4l, xo4f⟩ := xo4.fourP
      go_wp2_with fail
      with_reducible refine (equalPool_same B7 D7 E7 A1 A2 A3 b7 d7 f7 c1 c2 c3 p _ o4.sees dp.sees (Nat.le_trans o4.i2 (by decide)) (Nat.le_trans o4.h2 (by decide)) (Nat.le_trans o4.w2 (by decide))).mono ?_
      rintro e w8 ⟨rfl, hb⟩
      replace dp := dp.below hb
      replace hB := hB.below hb
      replace o1 := o1.below hb
      replace o3 := o3.below hb
      replace o4 := o4.below hb
      replace ps := ps.below hb ps.lt
      replace xo1 := xo1.below hb xo1.lt
      replace xo3 := xo3.below hb xo3.lt
      replace xo4 := xo4.below hb xo4.lt
      clear hb
      clear ps0 ps1 ps2 ps3 psl psf
      clear xo10 xo11 xo12 xo13 xo1l xo1f
      clear xo30 xo31 xo32 xo33 xo3l xo3f
      clear xo40 xo41 xo42 xo43 xo4l xo4f
      obtain ⟨ps0, ps1, ps2, ps3, psl, psf⟩ := ps.fourP
      obtain ⟨xo10, xo11, xo12, xo13, xo1l, xo1f⟩ := xo1.fourP
      obtain ⟨xo30, xo31, xo32, xo33, xo3l, xo3f⟩ := xo3.fourP
      obtain ⟨xo40, xo41, xo42, xo43, xo4l, xo4f⟩ := xo4.fourP
      go_wp2
      go_ret
      exact ⟨by first | rfl | (simp; done) | (simp; omega), hB.bel⟩
end Go.Proofs.Ytnfpnpdiglaebaa

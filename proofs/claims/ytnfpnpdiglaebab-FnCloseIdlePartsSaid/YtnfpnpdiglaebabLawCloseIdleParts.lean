/-
  The walk of the law FnCloseIdleParts: at every code it returns true and changes nothing that was there. Conditions: none.
-/
import Derived.Test.YtnfpnpdiglaebabLawPl
import Derived.Test.YtnfpnpdiglaebabLawFrame
import Derived.BigQuiet
import Derived.Deep.RegionHeld3

namespace Go.Proofs.Ytnfpnpdiglaebab
open Go.RowKit Pol

set_option maxHeartbeats 8000000 in
set_option maxRecDepth 16384 in
theorem walkCloseIdleParts (a : Option Addr) (len cap : Nat) (zs : List Int) (w : World) (hn : zs.length = len) (hc : len ≤ cap) (hcc : cap ≤ maxLen) (h : Sees w w.heap.size a (byts zs)) (hz : ∀ y ∈ zs, 0 ≤ y ∧ y ≤ 255) :
    Calls Try.prog 5 #[.slice a len cap] w fun e w' => e = .returned (.bool true) ∧ Below w.heap.size w w' := by
  have HE := hid hn
  have HC := hid hcc
  have HZ := hid hz
  clear hn hcc hz
  by_cases hbig : 1048576 < len
  · go_enter Try.func5, Try.ntmps5
    go_wp2
    go_ret
    exact ⟨rfl, Below.refl _ _⟩
  · go_enter Try.func5, Try.ntmps5
    go_wp2_with fail
    refine (drawCloseIdle_any _ _ _ _ _ h HZ.out HE.out hc (by omega) HC.out).mono ?_
    rintro e w2 ⟨A1, A2, A3, c1, c2, c3, p, i, rfl, dq, hi1, hi2⟩
    have dp := dq.ownk
    have hB : DB w w2 := dq.belw
    have hl7 := dq.2.2
    clear dq
    replace dp := dp.alloc (.cells #[.int .i64 p.mx, .slice A1 p.idle.length c1, .slice A2 p.held.length c2, .slice A3 p.wait.length c3] 26)
    replace hB := hB.alloc (.cells #[.int .i64 p.mx, .slice A1 p.idle.length c1, .slice A2 p.held.length c2, .slice A3 p.wait.length c3] 26)
    have ps := At.new w2 26 #[.int .i64 p.mx, .slice A1 p.idle.length c1, .slice A2 p.held.length c2, .slice A3 p.wait.length c3]
    have HNO := hid (fun (h : clsB p i = false) => (cls_no h).1)
    have HYES := hid (fun (h : clsB p i = true) => (clsB_iff.1 h))
    obtain ⟨R, hR⟩ : ∃ R, R = clsR p i := ⟨_, rfl⟩
    have ER : Hid (clsR p i = R) := hid hR.symm
    obtain ⟨N, hN⟩ : ∃ N, N = clsN p i := ⟨_, rfl⟩
    have EN : Hid (clsN p i = N) := hid hN.symm
    have HRl := hid (show R.idle.length ≤ 13 ∧ R.held.length ≤ 13 ∧ R.wait.length ≤ 13 by rw [hR]; have := cls_len (p := p) (m := i); omega)
    have HBN := hid (show N < 0 ↔ clsB p i = false by
      rw [hN]
      rcases hc : clsB p i with _ | _
      · have := (cls_no hc).1; rw [this]; simp
      · obtain ⟨k, _, e, _⟩ := cls_nat hc; rw [e]; simp; try omega)
    clear hR hN
    obtain ⟨ps0, ps1, ps2, ps3, psl, psf⟩ := ps.fourP
    go_wp2_with fail
    with_reducible refine (iCloseIdle_any p A1 A2 A3 c1 c2 c3 i _ dp.sees dp.k1 dp.i2 dp.h2 dp.w2).mono ?_
    rintro e w3 ⟨B3, D3, E3, b3, d3, f3, he, ho, hb⟩
    rw [ER.out, EN.out] at he
    rw [ER.out] at ho
    subst he
    have o1 : OwnK w3 _ B3 D3 E3 b3 d3 f3 R := ⟨ho, HRl.out⟩
    clear ho
    replace dp := dp.below hb
    replace hB := hB.below hb
    replace ps := ps.below hb ps.lt
    clear hb
    clear ps0 ps1 ps2 ps3 psl psf
    replace dp := dp.alloc (.cells #[.int .i64 R.mx, .slice B3 R.idle.length b3, .slice D3 R.held.length d3, .slice E3 R.wait.length f3] 26)
    replace hB := hB.alloc (.cells #[.int .i64 R.mx, .slice B3 R.idle.length b3, .slice D3 R.held.length d3, .slice E3 R.wait.length f3] 26)
    replace o1 := o1.alloc (.cells #[.int .i64 R.mx, .slice B3 R.idle.length b3, .slice D3 R.held.length d3, .slice E3 R.wait.length f3] 26)
    replace ps := ps.alloc (.cells #[.int .i64 R.mx, .slice B3 R.idle.length b3, .slice D3 R.held.length d3, .slice E3 R.wait.length f3] 26)
    have xo1 := At.new w3 26 #[.int .i64 R.mx, .slice B3 R.idle.length b3, .slice D3 R.held.length d3, .slice E3 R.wait.length f3]
    obtain ⟨ps0, ps1, ps2, ps3, psl, psf⟩ := ps.fourP
    obtain ⟨xo10, xo11, xo12, xo13, xo1l, xo1f⟩ := xo1.fourP
    go_wp2_with fail
    with_reducible refine (sCloseIdle_any p A1 A2 A3 c1 c2 c3 i _ dp.sees dp.k1 dp.i2 dp.h2 dp.w2).mono ?_
    rintro e w4 ⟨B4, D4, E4, b4, d4, f4, he, ho, hb⟩
    rw [ER.out, EN.out] at he
    rw [ER.out] at ho
    subst he
    have o2 : OwnK w4 _ B4 D4 E4 b4 d4 f4 R := ⟨ho, HRl.out⟩
    clear ho
    replace dp := dp.below hb
    replace hB := hB.below hb
    replace o1 := o1.below hb
    replace ps := ps.below hb ps.lt
    replace xo1 := xo1.below hb xo1.lt
    clear hb
    clear ps0 ps1 ps2 ps3 psl psf
    clear xo10 xo11 xo12 xo13 xo1l xo1f
    replace dp := dp.alloc (.cells #[.int .i64 R.mx, .slice B4 R.idle.length b4, .slice D4 R.held.length d4, .slice E4 R.wait.length f4] 26)
    replace hB := hB.alloc (.cells #[.int .i64 R.mx, .slice B4 R.idle.length b4, .slice D4 R.held.length d4, .slice E4 R.wait.length f4] 26)
    replace o1 := o1.alloc (.cells #[.int .i64 R.mx, .slice B4 R.idle.length b4, .slice D4 R.held.length d4, .slice E4 R.wait.length f4] 26)
    replace o2 := o2.alloc (.cells #[.int .i64 R.mx, .slice B4 R.idle.length b4, .slice D4 R.held.length d4, .slice E4 R.wait.length f4] 26)
    replace ps := ps.alloc (.cells #[.int .i64 R.mx, .slice B4 R.idle.length b4, .slice D4 R.held.length d4, .slice E4 R.wait.length f4] 26)
    replace xo1 := xo1.alloc (.cells #[.int .i64 R.mx, .slice B4 R.idle.length b4, .slice D4 R.held.length d4, .slice E4 R.wait.length f4] 26)
    have xo2 := At.new w4 26 #[.int .i64 R.mx, .slice B4 R.idle.length b4, .slice D4 R.held.length d4, .slice E4 R.wait.length f4]
    obtain ⟨ps0, ps1, ps2, ps3, psl, psf⟩ := ps.fourP
    obtain ⟨xo10, xo11, xo12, xo13, xo1l, xo1f⟩ := xo1.fourP
    obtain ⟨xo20, xo21, xo22, xo23, xo2l, xo2f⟩ := xo2.fourP
    go_wp2_with fail
    with_reducible refine (equalPool_same B3 D3 E3 B4 D4 E4 b3 d3 f3 b4 d4 f4 R _ o1.sees o2.sees (Nat.le_trans o1.i2 (by decide)) (Nat.le_trans o1.h2 (by decide)) (Nat.le_trans o1.w2 (by decide))).mono ?_
    rintro e w5 ⟨rfl, hb⟩
    replace dp := dp.below hb
    replace hB := hB.below hb
    replace o1 := o1.below hb
    replace o2 := o2.below hb
    replace ps := ps.below hb ps.lt
    replace xo1 := xo1.below hb xo1.lt
    replace xo2 := xo2.below hb xo2.lt
    clear hb
    clear ps0 ps1 ps2 ps3 psl psf
    clear xo10 xo11 xo12 xo13 xo1l xo1f
    clear xo20 xo21 xo22 xo23 xo2l xo2f
    by_cases hn0 : N < 0
    · skip
      obtain ⟨ps0, ps1, ps2, ps3, psl, psf⟩ := ps.fourP
      obtain ⟨xo10, xo11, xo12, xo13, xo1l, xo1f⟩ := xo1.fourP
      obtain ⟨xo20, xo21, xo22, xo23, xo2l, xo2f⟩ := xo2.fourP
      go_wp2_with fail
      with_reducible refine (equalPool_same B3 D3 E3 B4 D4 E4 b3 d3 f3 b4 d4 f4 R _ o1.sees o2.sees (Nat.le_trans o1.i2 (by decide)) (Nat.le_trans o1.h2 (by decide)) (Nat.le_trans o1.w2 (by decide))).mono ?_
      rintro e w6 ⟨rfl, hb⟩
      replace dp := dp.below hb
      replace hB := hB.below hb
      replace o1 := o1.below hb
      replace o2 := o2.below hb
      replace ps := ps.below hb ps.lt
      replace xo1 := xo1.below hb xo1.lt
      replace xo2 := xo2.below hb xo2.lt
      clear hb
      clear ps0 ps1 ps2 ps3 psl psf
      clear xo10 xo11 xo12 xo13 xo1l xo1f
      clear xo20 xo21 xo22 xo23 xo2l xo2f
      obtain ⟨ps0, ps1, ps2, ps3, psl, psf⟩ := ps.fourP
      obtain ⟨xo10, xo11, xo12, xo13, xo1l, xo1f⟩ := xo1.fourP
      obtain ⟨xo20, xo21, xo22, xo23, xo2l, xo2f⟩ := xo2.fourP
      go_wp2
      go_ret
      exact ⟨by first | rfl | (simp; done) | (simp; omega), hB.bel⟩
    · skip
      have hcb : clsB p i = true := by
        rcases hc : clsB p i with _ | _
        · exact absurd (HBN.out.2 hc) hn0
        · rfl
      have hi0 := (HYES.out hcb).2
      obtain ⟨h, hh⟩ : ∃ h, h = i / 2 := ⟨_, rfl⟩
      have hd1 : i.tdiv 2 = h := by rw [hh, Int.tdiv_eq_ediv_of_nonneg hi0]
      have h0 : 0 ≤ h := by omega
      have h1 : h ≤ i := by omega
      obtain ⟨a1, a2, a3, a4⟩ := cls_parts hcb h0 h1
      rw [ER.out] at a3
      rw [EN.out] at a4
      skip
      obtain ⟨Q, hQ⟩ : ∃ Q, Q = clsR p h := ⟨_, rfl⟩
      have EQ : Hid (clsR p h = Q) := hid hQ.symm
      obtain ⟨M, hM⟩ : ∃ M, M = clsN p h := ⟨_, rfl⟩
      have EM : Hid (clsN p h = M) := hid hM.symm
      have HQl := hid (show Q.idle.length ≤ 13 ∧ Q.held.length ≤ 13 ∧ Q.wait.length ≤ 13 by rw [hQ]; have := cls_len (p := p) (m := h); omega)
      rw [← hQ] at a2 a3 a4
      rw [← hM] at a4
      obtain ⟨L, hL⟩ : ∃ L, L = clsN Q (i - h) := ⟨_, rfl⟩
      have EL : Hid (clsN Q (i - h) = L) := hid hL.symm
      rw [← hL] at a4
      have HML := hid a4
      have EP3 := hid a3
      have hw1 : IntKind.i64.wrap (i - h) = i - h := by rw [IntKind.wrap_i64]; omega
      have hmr : 0 ≤ M ∧ M ≤ 13 := by obtain ⟨k, hk, e, _⟩ := cls_nat a1; rw [hM, e]; omega
      have hlr : 0 ≤ L ∧ L ≤ 13 := by obtain ⟨k, hk, e, _⟩ := cls_nat a2; have := HQl.out; rw [hL, e]; omega
      have hw2 : IntKind.i64.wrap (M + L) = M + L := by rw [IntKind.wrap_i64]; omega
      clear hQ hM hL a1 a2 a3 a4 hh hcb
      clear o2
      clear xo2
      obtain ⟨ps0, ps1, ps2, ps3, psl, psf⟩ := ps.fourP
      obtain ⟨xo10, xo11, xo12, xo13, xo1l, xo1f⟩ := xo1.fourP
      go_wp2_with fail
      with_reducible refine (iCloseIdle_any p A1 A2 A3 c1 c2 c3 h _ dp.sees dp.k1 dp.i2 dp.h2 dp.w2).mono ?_
      rintro e w6 ⟨B6, D6, E6, b6, d6, f6, he, ho, hb⟩
      rw [EQ.out, EM.out] at he
      rw [EQ.out] at ho
      subst he
      have o3 : OwnK w6 _ B6 D6 E6 b6 d6 f6 Q := ⟨ho, HQl.out⟩
      clear ho
      replace dp := dp.below hb
      replace hB := hB.below hb
      replace o1 := o1.below hb
      replace ps := ps.below hb ps.lt
      replace xo1 := xo1.below hb xo1.lt
      clear hb
      clear ps0 ps1 ps2 ps3 psl psf
      clear xo10 xo11 xo12 xo13 xo1l xo1f
      replace dp := dp.alloc (.cells #[.int .i64 Q.mx, .slice B6 Q.idle.length b6, .slice D6 Q.held.length d6, .slice E6 Q.wait.length f6] 26)
      replace hB := hB.alloc (.cells #[.int .i64 Q.mx, .slice B6 Q.idle.length b6, .slice D6 Q.held.length d6, .slice E6 Q.wait.length f6] 26)
      replace o1 := o1.alloc (.cells #[.int .i64 Q.mx, .slice B6 Q.idle.length b6, .slice D6 Q.held.length d6, .slice E6 Q.wait.length f6] 26)
      replace o3 := o3.alloc (.cells #[.int .i64 Q.mx, .slice B6 Q.idle.length b6, .slice D6 Q.held.length d6, .slice E6 Q.wait.length f6] 26)
      replace ps := ps.alloc (.cells #[.int .i64 Q.mx, .slice B6 Q.idle.length b6, .slice D6 Q.held.length d6, .slice E6 Q.wait.length f6] 26)
      replace xo1 := xo1.alloc (.cells #[.int .i64 Q.mx, .slice B6 Q.idle.length b6, .slice D6 Q.held.length d6, .slice E6 Q.wait.length f6] 26)
      have xo3 := At.new w6 26 #[.int .i64 Q.mx, .slice B6 Q.idle.length b6, .slice D6 Q.held.length d6, .slice E6 Q.wait.length f6]
      obtain ⟨ps0, ps1, ps2, ps3, psl, psf⟩ := ps.fourP
      obtain ⟨xo10, xo11, xo12, xo13, xo1l, xo1f⟩ := xo1.fourP
      obtain ⟨xo30, xo31, xo32, xo33, xo3l, xo3f⟩ := xo3.fourP
      go_wp2_with fail
      with_reducible refine (iCloseIdle_any Q B6 D6 E6 b6 d6 f6 (i - h) _ o3.sees o3.k1 o3.i2 o3.h2 o3.w2).mono ?_
      rintro e w7 ⟨B7, D7, E7, b7, d7, f7, he, ho, hb⟩
      rw [EP3.out, EL.out] at he
      rw [EP3.out] at ho
      subst he
      have o4 : OwnK w7 _ B7 D7 E7 b7 d7 f7 R := ⟨ho, HRl.out⟩
      clear ho
      replace dp := dp.below hb
      replace hB := hB.below hb
      replace o1 := o1.below hb
      replace o3 := o3.below hb
      replace ps := ps.below hb ps.lt
      replace xo1 := xo1.below hb xo1.lt
      replace xo3 := xo3.below hb xo3.lt
      clear hb
      clear ps0 ps1 ps2 ps3 psl psf
      clear xo10 xo11 xo12 xo13 xo1l xo1f
      clear xo30 xo31 xo32 xo33 xo3l xo3f
      replace dp := dp.alloc (.cells #[.int .i64 R.mx, .slice B7 R.idle.length b7, .slice D7 R.held.length d7, .slice E7 R.wait.length f7] 26)
      replace hB := hB.alloc (.cells #[.int .i64 R.mx, .slice B7 R.idle.length b7, .slice D7 R.held.length d7, .slice E7 R.wait.length f7] 26)
      replace o1 := o1.alloc (.cells #[.int .i64 R.mx, .slice B7 R.idle.length b7, .slice D7 R.held.length d7, .slice E7 R.wait.length f7] 26)
      replace o3 := o3.alloc (.cells #[.int .i64 R.mx, .slice B7 R.idle.length b7, .slice D7 R.held.length d7, .slice E7 R.wait.length f7] 26)
      replace o4 := o4.alloc (.cells #[.int .i64 R.mx, .slice B7 R.idle.length b7, .slice D7 R.held.length d7, .slice E7 R.wait.length f7] 26)
      replace ps := ps.alloc (.cells #[.int .i64 R.mx, .slice B7 R.idle.length b7, .slice D7 R.held.length d7, .slice E7 R.wait.length f7] 26)
      replace xo1 := xo1.alloc (.cells #[.int .i64 R.mx, .slice B7 R.idle.length b7, .slice D7 R.held.length d7, .slice E7 R.wait.length f7] 26)
      replace xo3 := xo3.alloc (.cells #[.int .i64 R.mx, .slice B7 R.idle.length b7, .slice D7 R.held.length d7, .slice E7 R.wait.length f7] 26)
      have xo4 := At.new w7 26 #[.int .i64 R.mx, .slice B7 R.idle.length b7, .slice D7 R.held.length d7, .slice E7 R.wait.length f7]
      obtain ⟨ps0, ps1, ps2, ps3, psl, psf⟩ := ps.fourP
      obtain ⟨xo10, xo11, xo12, xo13, xo1l, xo1f⟩ := xo1.fourP
      obtain ⟨xo30, xo31, xo32, xo33, xo3l, xo3f⟩ := xo3.fourP
      obtain ⟨xo40, xo41, xo42, xo43, xo4l, xo4f⟩ := xo4.fourP
      go_wp2_with fail
      with_reducible refine (equalPool_same B7 D7 E7 B3 D3 E3 b7 d7 f7 b3 d3 f3 R _ o4.sees o1.sees (Nat.le_trans o4.i2 (by decide)) (Nat.le_trans o4.h2 (by decide)) (Nat.le_trans o4.w2 (by decide))).mono ?_
      rintro e w8 ⟨rfl, hb⟩
      replace dp := dp.below hb
      replace hB := hB.below hb
      replace o1 := o1.below hb
      replace o3 := o3.below hb
      replace o4 := o4.below hb
      replace ps := ps.below hb ps.lt
      replace xo1 := xo1.below hb xo1.lt
      replace xo3 := xo3.below hb xo3.lt
      replace xo4 := xo4.below hb xo4.lt
      clear hb
      clear ps0 ps1 ps2 ps3 psl psf
      clear xo10 xo11 xo12 xo13 xo1l xo1f
      clear xo30 xo31 xo32 xo33 xo3l xo3f
      clear xo40 xo41 xo42 xo43 xo4l xo4f
      have hml := HML.out
      obtain ⟨ps0, ps1, ps2, ps3, psl, psf⟩ := ps.fourP
      obtain ⟨xo10, xo11, xo12, xo13, xo1l, xo1f⟩ := xo1.fourP
      obtain ⟨xo30, xo31, xo32, xo33, xo3l, xo3f⟩ := xo3.fourP
      obtain ⟨xo40, xo41, xo42, xo43, xo4l, xo4f⟩ := xo4.fourP
      go_wp2
      go_ret
      exact ⟨by first | rfl | (simp; done) | (simp; omega), hB.bel⟩
end Go.Proofs.Ytnfpnpdiglaebab

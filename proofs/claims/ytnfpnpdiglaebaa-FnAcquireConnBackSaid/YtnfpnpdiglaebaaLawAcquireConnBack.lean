/-
  The walk of the law FnAcquireConnBack: at every code it returns true and changes nothing that was there. Conditions: none.
-/
import Derived.Test.YtnfpnpdiglaebaaLawPl
import Derived.Test.YtnfpnpdiglaebaaLawFrame
import Derived.BigQuiet
import Derived.Deep.RegionHeld3
import Derived.Test.YtnfpnpdiglaebaaLawPlB
namespace Go.Proofs.Ytnfpnpdiglaebaa
open Go.RowKit Pol

set_option maxHeartbeats 8000000 in
set_option maxRecDepth 16384 in
theorem walkAcquireConnBack (a : Option Addr) (len cap : Nat) (zs : List Int) (w : World) (hn : zs.length = len) (hc : len ≤ cap) (hcc : cap ≤ maxLen) (h : Sees w w.heap.size a (byts zs)) (hz : ∀ y ∈ zs, 0 ≤ y ∧ y ≤ 255) :
    Calls Try.prog 6 #[.slice a len cap] w fun e w' => e = .returned (.bool true) ∧ Below w.heap.size w w' := by
  have HE := hid hn
  have HC := hid hcc
  have HZ := hid hz
  clear hn hcc hz
  by_cases hbig : 1048576 < len
  · go_enter Try.func6, Try.ntmps6
    go_wp2
    go_ret
    exact ⟨rfl, Below.refl _ _⟩
  · go_enter Try.func6, Try.ntmps6
    go_wp2_with fail
    refine (drawAcquireConn_any _ _ _ _ _ h HZ.out HE.out hc (by omega) HC.out).mono ?_
    rintro e w2 ⟨A1, A2, A3, c1, c2, c3, p, i, rfl, dq, hi1, hi2⟩
    have dp := dq.ownk
    have hB : DB w w2 := dq.belw
    have hl7 := dq.2.2
    clear dq
    replace dp := dp.alloc (.cells #[.int .i64 p.mx, .slice A1 p.idle.length c1, .slice A2 p.held.length c2, .slice A3 p.wait.length c3] 26)
    replace hB := hB.alloc (.cells #[.int .i64 p.mx, .slice A1 p.idle.length c1, .slice A2 p.held.length c2, .slice A3 p.wait.length c3] 26)
    have ps := At.new w2 26 #[.int .i64 p.mx, .slice A1 p.idle.length c1, .slice A2 p.held.length c2, .slice A3 p.wait.length c3]
    obtain ⟨R, hR⟩ : ∃ R, R = acqR p i := ⟨_, rfl⟩
    have ER : Hid (acqR p i = R) := hid hR.symm
    obtain ⟨N, hN⟩ : ∃ N, N = acqN p i := ⟨_, rfl⟩
    have EN : Hid (acqN p i = N) := hid hN.symm
    have HRl := hid (show R.idle.length ≤ 13 ∧ R.held.length ≤ 13 ∧ R.wait.length ≤ 13 by rw [hR]; have := acqR_small p i; omega)
    rcases hb : acqB p i with _ | _
    · skip
      have EB := hid hb
      clear hb hR hN
      obtain ⟨ps0, ps1, ps2, ps3, psl, psf⟩ := ps.fourP
      go_wp2_with fail
      with_reducible refine (iAcquireConn_any p A1 A2 A3 c1 c2 c3 i _ dp.sees dp.k1 dp.i2 dp.h2 dp.w2).mono ?_
      rintro e w3 ⟨B3, D3, E3, b3, d3, f3, he, ho, hb⟩
      rw [ER.out, EN.out, EB.out] at he
      rw [ER.out] at ho
      subst he
      have o1 : OwnK w3 _ B3 D3 E3 b3 d3 f3 R := ⟨ho, HRl.out⟩
      clear ho
      replace dp := dp.below hb
      replace hB := hB.below hb
      replace ps := ps.below hb ps.lt
      clear hb
      clear ps0 ps1 ps2 ps3 psl psf
      replace dp := dp.alloc (.cells #[.int .i64 R.mx, .slice B3 R.idle.length b3, .slice D3 R.held.length d3, .slice E3 R.wait.length f3] 26)
      replace hB := hB.alloc (.cells #[.int .i64 R.mx, .slice B3 R.idle.length b3, .slice D3 R.held.length d3, .slice E3 R.wait.length f3] 26)
      replace o1 := o1.alloc (.cells #[.int .i64 R.mx, .slice B3 R.idle.length b3, .slice D3 R.held.length d3, .slice E3 R.wait.length f3] 26)
      replace ps := ps.alloc (.cells #[.int .i64 R.mx, .slice B3 R.idle.length b3, .slice D3 R.held.length d3, .slice E3 R.wait.length f3] 26)
      have xo1 := At.new w3 26 #[.int .i64 R.mx, .slice B3 R.idle.length b3, .slice D3 R.held.length d3, .slice E3 R.wait.length f3]
      obtain ⟨ps0, ps1, ps2, ps3, psl, psf⟩ := ps.fourP
      obtain ⟨xo10, xo11, xo12, xo13, xo1l, xo1f⟩ := xo1.fourP
      go_wp2_with fail
      with_reducible refine (sAcquireConn_any p A1 A2 A3 c1 c2 c3 i _ dp.sees dp.k1 dp.i2 dp.h2 dp.w2).mono ?_
      rintro e w4 ⟨B4, D4, E4, b4, d4, f4, he, ho, hb⟩
      rw [ER.out, EN.out, EB.out] at he
      rw [ER.out] at ho
      subst he
      have o2 : OwnK w4 _ B4 D4 E4 b4 d4 f4 R := ⟨ho, HRl.out⟩
      clear ho
      replace dp := dp.below hb
      replace hB := hB.below hb
      replace o1 := o1.below hb
      replace ps := ps.below hb ps.lt
      replace xo1 := xo1.below hb xo1.lt
      clear hb
      clear ps0 ps1 ps2 ps3 psl psf
      clear xo10 xo11 xo12 xo13 xo1l xo1f
      replace dp := dp.alloc (.cells #[.int .i64 R.mx, .slice B4 R.idle.length b4, .slice D4 R.held.length d4, .slice E4 R.wait.length f4] 26)
      replace hB := hB.alloc (.cells #[.int .i64 R.mx, .slice B4 R.idle.length b4, .slice D4 R.held.length d4, .slice E4 R.wait.length f4] 26)
      replace o1 := o1.alloc (.cells #[.int .i64 R.mx, .slice B4 R.idle.length b4, .slice D4 R.held.length d4, .slice E4 R.wait.length f4] 26)
      replace o2 := o2.alloc (.cells #[.int .i64 R.mx, .slice B4 R.idle.length b4, .slice D4 R.held.length d4, .slice E4 R.wait.length f4] 26)
      replace ps := ps.alloc (.cells #[.int .i64 R.mx, .slice B4 R.idle.length b4, .slice D4 R.held.length d4, .slice E4 R.wait.length f4] 26)
      replace xo1 := xo1.alloc (.cells #[.int .i64 R.mx, .slice B4 R.idle.length b4, .slice D4 R.held.length d4, .slice E4 R.wait.length f4] 26)
      have xo2 := At.new w4 26 #[.int .i64 R.mx, .slice B4 R.idle.length b4, .slice D4 R.held.length d4, .slice E4 R.wait.length f4]
      obtain ⟨ps0, ps1, ps2, ps3, psl, psf⟩ := ps.fourP
      obtain ⟨xo10, xo11, xo12, xo13, xo1l, xo1f⟩ := xo1.fourP
      obtain ⟨xo20, xo21, xo22, xo23, xo2l, xo2f⟩ := xo2.fourP
      go_wp2_with fail
      with_reducible refine (equalPool_same B3 D3 E3 B4 D4 E4 b3 d3 f3 b4 d4 f4 R _ o1.sees o2.sees (Nat.le_trans o1.i2 (by decide)) (Nat.le_trans o1.h2 (by decide)) (Nat.le_trans o1.w2 (by decide))).mono ?_
      rintro e w5 ⟨rfl, hb⟩
      replace dp := dp.below hb
      replace hB := hB.below hb
      replace o1 := o1.below hb
      replace o2 := o2.below hb
      replace ps := ps.below hb ps.lt
      replace xo1 := xo1.below hb xo1.lt
      replace xo2 := xo2.below hb xo2.lt
      clear hb
      clear ps0 ps1 ps2 ps3 psl psf
      clear xo10 xo11 xo12 xo13 xo1l xo1f
      clear xo20 xo21 xo22 xo23 xo2l xo2f
      obtain ⟨ps0, ps1, ps2, ps3, psl, psf⟩ := ps.fourP
      obtain ⟨xo10, xo11, xo12, xo13, xo1l, xo1f⟩ := xo1.fourP
      obtain ⟨xo20, xo21, xo22, xo23, xo2l, xo2f⟩ := xo2.fourP
      go_wp2_with fail
      with_reducible refine (equalPool_same B3 D3 E3 B4 D4 E4 b3 d3 f3 b4 d4 f4 R _ o1.sees o2.sees (Nat.le_trans o1.i2 (by decide)) (Nat.le_trans o1.h2 (by decide)) (Nat.le_trans o1.w2 (by decide))).mono ?_
      rintro e w6 ⟨rfl, hb⟩
      replace dp := dp.below hb
      replace hB := hB.below hb
      replace o1 := o1.below hb
      replace o2 := o2.below hb
      replace ps := ps.below hb ps.lt
      replace xo1 := xo1.below hb xo1.lt
      replace xo2 := xo2.below hb xo2.lt
      clear hb
      clear ps0 ps1 ps2 ps3 psl psf
      clear xo10 xo11 xo12 xo13 xo1l xo1f
      clear xo20 xo21 xo22 xo23 xo2l xo2f
      obtain ⟨ps0, ps1, ps2, ps3, psl, psf⟩ := ps.fourP
      obtain ⟨xo10, xo11, xo12, xo13, xo1l, xo1f⟩ := xo1.fourP
      obtain ⟨xo20, xo21, xo22, xo23, xo2l, xo2f⟩ := xo2.fourP
      go_wp2
      go_ret
      exact ⟨by first | rfl | (simp; done) | (simp; omega), hB.bel⟩
    · skip
      have EB := hid hb
      rcases hf : fullB p with _ | _
      · skip
        have hcN : ¬ N < 0 := by rw [hN, (acq_one hb hf).1]; have := (acq_one hb hf).2.2.1; omega
        obtain ⟨f1, f2, f3, f4⟩ := acq_back hb hf
        rw [← hR, ← hN] at f1 f2 f3 f4
        have EK := hid f1
        have EM := hid f2
        by_cases hi0 : p.idle.length = 0
        · skip
          obtain ⟨S, hS⟩ : ∃ S, S = relR R N := ⟨_, rfl⟩
          have ES : Hid (relR R N = S) := hid hS.symm
          have hsi : S.idle = p.idle.dropLast ++ [N] := by rw [hS, f3]
          have hsh : S.held = p.held := by rw [hS, f3]
          have HSl := hid (show S.idle.length ≤ 13 ∧ S.held.length ≤ 13 ∧ S.wait.length ≤ 13 by rw [hS]; have := relR_small R N; omega)
          have hib : ((p.idle.length : Int) == 0) = true := beq_iff_eq.2 (by omega)
          have HI0 := hid hi0
          clear hi0 hS
          have hsl := last_pos hsi
          have HSX := hid (last_at hsi)
          have HSH := hid hsh
          clear hsi hsh f1 f2 f3 f4 hb hf hR hN
          obtain ⟨ps0, ps1, ps2, ps3, psl, psf⟩ := ps.fourP
          go_wp2_with fail
          with_reducible refine (iAcquireConn_any p A1 A2 A3 c1 c2 c3 i _ dp.sees dp.k1 dp.i2 dp.h2 dp.w2).mono ?_
          rintro e w3 ⟨B3, D3, E3, b3, d3, f3, he, ho, hb⟩
          rw [ER.out, EN.out, EB.out] at he
          rw [ER.out] at ho
          subst he
          have o1 : OwnK w3 _ B3 D3 E3 b3 d3 f3 R := ⟨ho, HRl.out⟩
          clear ho
          replace dp := dp.below hb
          replace hB := hB.below hb
          replace ps := ps.below hb ps.lt
          clear hb
          clear ps0 ps1 ps2 ps3 psl psf
          replace dp := dp.alloc (.cells #[.int .i64 R.mx, .slice B3 R.idle.length b3, .slice D3 R.held.length d3, .slice E3 R.wait.length f3] 26)
          replace hB := hB.alloc (.cells #[.int .i64 R.mx, .slice B3 R.idle.length b3, .slice D3 R.held.length d3, .slice E3 R.wait.length f3] 26)
          replace o1 := o1.alloc (.cells #[.int .i64 R.mx, .slice B3 R.idle.length b3, .slice D3 R.held.length d3, .slice E3 R.wait.length f3] 26)
          replace ps := ps.alloc (.cells #[.int .i64 R.mx, .slice B3 R.idle.length b3, .slice D3 R.held.length d3, .slice E3 R.wait.length f3] 26)
          have xo1 := At.new w3 26 #[.int .i64 R.mx, .slice B3 R.idle.length b3, .slice D3 R.held.length d3, .slice E3 R.wait.length f3]
          obtain ⟨ps0, ps1, ps2, ps3, psl, psf⟩ := ps.fourP
          obtain ⟨xo10, xo11, xo12, xo13, xo1l, xo1f⟩ := xo1.fourP
          go_wp2_with fail
          with_reducible refine (sAcquireConn_any p A1 A2 A3 c1 c2 c3 i _ dp.sees dp.k1 dp.i2 dp.h2 dp.w2).mono ?_
          rintro e w4 ⟨B4, D4, E4, b4, d4, f4, he, ho, hb⟩
          rw [ER.out, EN.out, EB.out] at he
          rw [ER.out] at ho
          subst he
          have o2 : OwnK w4 _ B4 D4 E4 b4 d4 f4 R := ⟨ho, HRl.out⟩
          clear ho
          replace dp := dp.below hb
          replace hB := hB.below hb
          replace o1 := o1.below hb
          replace ps := ps.below hb ps.lt
          replace xo1 := xo1.below hb xo1.lt
          clear hb
          clear ps0 ps1 ps2 ps3 psl psf
          clear xo10 xo11 xo12 xo13 xo1l xo1f
          replace dp := dp.alloc (.cells #[.int .i64 R.mx, .slice B4 R.idle.length b4, .slice D4 R.held.length d4, .slice E4 R.wait.length f4] 26)
          replace hB := hB.alloc (.cells #[.int .i64 R.mx, .slice B4 R.idle.length b4, .slice D4 R.held.length d4, .slice E4 R.wait.length f4] 26)
          replace o1 := o1.alloc (.cells #[.int .i64 R.mx, .slice B4 R.idle.length b4, .slice D4 R.held.length d4, .slice E4 R.wait.length f4] 26)
          replace o2 := o2.alloc (.cells #[.int .i64 R.mx, .slice B4 R.idle.length b4, .slice D4 R.held.length d4, .slice E4 R.wait.length f4] 26)
          replace ps := ps.alloc (.cells #[.int .i64 R.mx, .slice B4 R.idle.length b4, .slice D4 R.held.length d4, .slice E4 R.wait.length f4] 26)
          replace xo1 := xo1.alloc (.cells #[.int .i64 R.mx, .slice B4 R.idle.length b4, .slice D4 R.held.length d4, .slice E4 R.wait.length f4] 26)
          have xo2 := At.new w4 26 #[.int .i64 R.mx, .slice B4 R.idle.length b4, .slice D4 R.held.length d4, .slice E4 R.wait.length f4]
          obtain ⟨ps0, ps1, ps2, ps3, psl, psf⟩ := ps.fourP
          obtain ⟨xo10, xo11, xo12, xo13, xo1l, xo1f⟩ := xo1.fourP
          obtain ⟨xo20, xo21, xo22, xo23, xo2l, xo2f⟩ := xo2.fourP
          go_wp2_with fail
          with_reducible refine (equalPool_same B3 D3 E3 B4 D4 E4 b3 d3 f3 b4 d4 f4 R _ o1.sees o2.sees (Nat.le_trans o1.i2 (by decide)) (Nat.le_trans o1.h2 (by decide)) (Nat.le_trans o1.w2 (by decide))).mono ?_
          rintro e w5 ⟨rfl, hb⟩
          replace dp := dp.below hb
          replace hB := hB.below hb
          replace o1 := o1.below hb
          replace o2 := o2.below hb
          replace ps := ps.below hb ps.lt
          replace xo1 := xo1.below hb xo1.lt
          replace xo2 := xo2.below hb xo2.lt
          clear hb
          clear ps0 ps1 ps2 ps3 psl psf
          clear xo10 xo11 xo12 xo13 xo1l xo1f
          clear xo20 xo21 xo22 xo23 xo2l xo2f
          clear o2
          clear xo2
          obtain ⟨ps0, ps1, ps2, ps3, psl, psf⟩ := ps.fourP
          obtain ⟨xo10, xo11, xo12, xo13, xo1l, xo1f⟩ := xo1.fourP
          go_wp2_with fail
          with_reducible refine (iReleaseConn_any R B3 D3 E3 b3 d3 f3 N _ o1.sees o1.k3 o1.i2 o1.h2 o1.w2).mono ?_
          rintro e w6 ⟨B6, D6, E6, b6, d6, f6, he, ho, hb⟩
          rw [ES.out, EM.out, EK.out] at he
          rw [ES.out] at ho
          subst he
          have o3 : OwnK w6 _ B6 D6 E6 b6 d6 f6 S := ⟨ho, HSl.out⟩
          clear ho
          replace dp := dp.below hb
          replace hB := hB.below hb
          replace o1 := o1.below hb
          replace ps := ps.below hb ps.lt
          replace xo1 := xo1.below hb xo1.lt
          clear hb
          clear ps0 ps1 ps2 ps3 psl psf
          clear xo10 xo11 xo12 xo13 xo1l xo1f
          replace dp := dp.alloc (.cells #[.int .i64 S.mx, .slice B6 S.idle.length b6, .slice D6 S.held.length d6, .slice E6 S.wait.length f6] 26)
          replace hB := hB.alloc (.cells #[.int .i64 S.mx, .slice B6 S.idle.length b6, .slice D6 S.held.length d6, .slice E6 S.wait.length f6] 26)
          replace o1 := o1.alloc (.cells #[.int .i64 S.mx, .slice B6 S.idle.length b6, .slice D6 S.held.length d6, .slice E6 S.wait.length f6] 26)
          replace o3 := o3.alloc (.cells #[.int .i64 S.mx, .slice B6 S.idle.length b6, .slice D6 S.held.length d6, .slice E6 S.wait.length f6] 26)
          replace ps := ps.alloc (.cells #[.int .i64 S.mx, .slice B6 S.idle.length b6, .slice D6 S.held.length d6, .slice E6 S.wait.length f6] 26)
          replace xo1 := xo1.alloc (.cells #[.int .i64 S.mx, .slice B6 S.idle.length b6, .slice D6 S.held.length d6, .slice E6 S.wait.length f6] 26)
          have xo3 := At.new w6 26 #[.int .i64 S.mx, .slice B6 S.idle.length b6, .slice D6 S.held.length d6, .slice E6 S.wait.length f6]
          have hn13 := HSl.out
          obtain ⟨m, hm⟩ : ∃ m, S.idle.length = m + 1 := ⟨S.idle.length - 1, by omega⟩
          obtain ⟨bw, ow, hE, hbl, e0⟩ := o3.sees.idle.int (show m < S.idle.length by omega)
          rw [HSX.out m (by omega) hm.symm] at e0
          subst hE
          have hmi : (S.idle.length : Int) = (m : Int) + 1 := by omega
          have hwr : IntKind.i64.wrap ((S.idle.length : Int) - 1) = (m : Int) := by rw [IntKind.wrap_i64]; omega
          have m0 : (0 : Int) ≤ (m : Int) := by omega
          have m1 : (m : Int) < (S.idle.length : Int) := by omega
          have m2 : (S.idle.length : Int) > 0 := by omega
          have hq := dp.n4
          clear hm hmi
          obtain ⟨ps0, ps1, ps2, ps3, psl, psf⟩ := ps.fourP
          obtain ⟨xo10, xo11, xo12, xo13, xo1l, xo1f⟩ := xo1.fourP
          obtain ⟨xo30, xo31, xo32, xo33, xo3l, xo3f⟩ := xo3.fourP
          go_wp2_with fail
          with_reducible refine (kHolds_of HSH.out rfl rfl o3.sees.held dp.sees.held hq.2.1).mono ?_
          rintro e w7 ⟨rfl, hb⟩
          replace dp := dp.below hb
          replace hB := hB.below hb
          replace o1 := o1.below hb
          replace o3 := o3.below hb
          replace ps := ps.below hb ps.lt
          replace xo1 := xo1.below hb xo1.lt
          replace xo3 := xo3.below hb xo3.lt
          clear hb
          clear ps0 ps1 ps2 ps3 psl psf
          clear xo10 xo11 xo12 xo13 xo1l xo1f
          clear xo30 xo31 xo32 xo33 xo3l xo3f
          obtain ⟨ps0, ps1, ps2, ps3, psl, psf⟩ := ps.fourP
          obtain ⟨xo10, xo11, xo12, xo13, xo1l, xo1f⟩ := xo1.fourP
          obtain ⟨xo30, xo31, xo32, xo33, xo3l, xo3f⟩ := xo3.fourP
          go_wp2
          go_ret
          exact ⟨by first | rfl | (simp; done) | (simp; omega), hB.bel⟩
        · skip
          have hsp := f4 (fun e => hi0 (by rw [e]; rfl))
          have hsi : p.idle = p.idle.dropLast ++ [N] := congrArg Pl.idle (hsp.symm.trans f3)
          have hsh : p.held = p.held := rfl
          have ES := hid hsp
          have HSl := hid (show p.idle.length ≤ 13 ∧ p.held.length ≤ 13 ∧ p.wait.length ≤ 13 by omega)
          have hib : ((p.idle.length : Int) == 0) = false := beq_eq_false_iff_ne.2 (by omega)
          clear hi0 hsp
          have hsl := last_pos hsi
          have HSX := hid (last_at hsi)
          have HSH := hid hsh
          clear hsi hsh f1 f2 f3 f4 hb hf hR hN
          obtain ⟨ps0, ps1, ps2, ps3, psl, psf⟩ := ps.fourP
          go_wp2_with fail
          with_reducible refine (iAcquireConn_any p A1 A2 A3 c1 c2 c3 i _ dp.sees dp.k1 dp.i2 dp.h2 dp.w2).mono ?_
          rintro e w3 ⟨B3, D3, E3, b3, d3, f3, he, ho, hb⟩
          rw [ER.out, EN.out, EB.out] at he
          rw [ER.out] at ho
          subst he
          have o1 : OwnK w3 _ B3 D3 E3 b3 d3 f3 R := ⟨ho, HRl.out⟩
          clear ho
          replace dp := dp.below hb
          replace hB := hB.below hb
          replace ps := ps.below hb ps.lt
          clear hb
          clear ps0 ps1 ps2 ps3 psl psf
          replace dp := dp.alloc (.cells #[.int .i64 R.mx, .slice B3 R.idle.length b3, .slice D3 R.held.length d3, .slice E3 R.wait.length f3] 26)
          replace hB := hB.alloc (.cells #[.int .i64 R.mx, .slice B3 R.idle.length b3, .slice D3 R.held.length d3, .slice E3 R.wait.length f3] 26)
          replace o1 := o1.alloc (.cells #[.int .i64 R.mx, .slice B3 R.idle.length b3, .slice D3 R.held.length d3, .slice E3 R.wait.length f3] 26)
          replace ps := ps.alloc (.cells #[.int .i64 R.mx, .slice B3 R.idle.length b3, .slice D3 R.held.length d3, .slice E3 R.wait.length f3] 26)
          have xo1 := At.new w3 26 #[.int .i64 R.mx, .slice B3 R.idle.length b3, .slice D3 R.held.length d3, .slice E3 R.wait.length f3]
          obtain ⟨ps0, ps1, ps2, ps3, psl, psf⟩ := ps.fourP
          obtain ⟨xo10, xo11, xo12, xo13, xo1l, xo1f⟩ := xo1.fourP
          go_wp2_with fail
          with_reducible refine (sAcquireConn_any p A1 A2 A3 c1 c2 c3 i _ dp.sees dp.k1 dp.i2 dp.h2 dp.w2).mono ?_
          rintro e w4 ⟨B4, D4, E4, b4, d4, f4, he, ho, hb⟩
          rw [ER.out, EN.out, EB.out] at he
          rw [ER.out] at ho
          subst he
          have o2 : OwnK w4 _ B4 D4 E4 b4 d4 f4 R := ⟨ho, HRl.out⟩
          clear ho
          replace dp := dp.below hb
          replace hB := hB.below hb
          replace o1 := o1.below hb
          replace ps := ps.below hb ps.lt
          replace xo1 := xo1.below hb xo1.lt
          clear hb
          clear ps0 ps1 ps2 ps3 psl psf
          clear xo10 xo11 xo12 xo13 xo1l xo1f
          replace dp := dp.alloc (.cells #[.int .i64 R.mx, .slice B4 R.idle.length b4, .slice D4 R.held.length d4, .slice E4 R.wait.length f4] 26)
          replace hB := hB.alloc (.cells #[.int .i64 R.mx, .slice B4 R.idle.length b4, .slice D4 R.held.length d4, .slice E4 R.wait.length f4] 26)
          replace o1 := o1.alloc (.cells #[.int .i64 R.mx, .slice B4 R.idle.length b4, .slice D4 R.held.length d4, .slice E4 R.wait.length f4] 26)
          replace o2 := o2.alloc (.cells #[.int .i64 R.mx, .slice B4 R.idle.length b4, .slice D4 R.held.length d4, .slice E4 R.wait.length f4] 26)
          replace ps := ps.alloc (.cells #[.int .i64 R.mx, .slice B4 R.idle.length b4, .slice D4 R.held.length d4, .slice E4 R.wait.length f4] 26)
          replace xo1 := xo1.alloc (.cells #[.int .i64 R.mx, .slice B4 R.idle.length b4, .slice D4 R.held.length d4, .slice E4 R.wait.length f4] 26)
          have xo2 := At.new w4 26 #[.int .i64 R.mx, .slice B4 R.idle.length b4, .slice D4 R.held.length d4, .slice E4 R.wait.length f4]
          obtain ⟨ps0, ps1, ps2, ps3, psl, psf⟩ := ps.fourP
          obtain ⟨xo10, xo11, xo12, xo13, xo1l, xo1f⟩ := xo1.fourP
          obtain ⟨xo20, xo21, xo22, xo23, xo2l, xo2f⟩ := xo2.fourP
          go_wp2_with fail
          with_reducible refine (equalPool_same B3 D3 E3 B4 D4 E4 b3 d3 f3 b4 d4 f4 R _ o1.sees o2.sees (Nat.le_trans o1.i2 (by decide)) (Nat.le_trans o1.h2 (by decide)) (Nat.le_trans o1.w2 (by decide))).mono ?_
          rintro e w5 ⟨rfl, hb⟩
          replace dp := dp.below hb
          replace hB := hB.below hb
          replace o1 := o1.below hb
          replace o2 := o2.below hb
          replace ps := ps.below hb ps.lt
          replace xo1 := xo1.below hb xo1.lt
          replace xo2 := xo2.below hb xo2.lt
          clear hb
          clear ps0 ps1 ps2 ps3 psl psf
          clear xo10 xo11 xo12 xo13 xo1l xo1f
          clear xo20 xo21 xo22 xo23 xo2l xo2f
          clear o2
          clear xo2
          obtain ⟨ps0, ps1, ps2, ps3, psl, psf⟩ := ps.fourP
          obtain ⟨xo10, xo11, xo12, xo13, xo1l, xo1f⟩ := xo1.fourP
          go_wp2_with fail
          with_reducible refine (iReleaseConn_any R B3 D3 E3 b3 d3 f3 N _ o1.sees o1.k3 o1.i2 o1.h2 o1.w2).mono ?_
          rintro e w6 ⟨B6, D6, E6, b6, d6, f6, he, ho, hb⟩
          rw [ES.out, EM.out, EK.out] at he
          rw [ES.out] at ho
          subst he
          have o3 : OwnK w6 _ B6 D6 E6 b6 d6 f6 p := ⟨ho, HSl.out⟩
          clear ho
          replace dp := dp.below hb
          replace hB := hB.below hb
          replace o1 := o1.below hb
          replace ps := ps.below hb ps.lt
          replace xo1 := xo1.below hb xo1.lt
          clear hb
          clear ps0 ps1 ps2 ps3 psl psf
          clear xo10 xo11 xo12 xo13 xo1l xo1f
          replace dp := dp.alloc (.cells #[.int .i64 p.mx, .slice B6 p.idle.length b6, .slice D6 p.held.length d6, .slice E6 p.wait.length f6] 26)
          replace hB := hB.alloc (.cells #[.int .i64 p.mx, .slice B6 p.idle.length b6, .slice D6 p.held.length d6, .slice E6 p.wait.length f6] 26)
          replace o1 := o1.alloc (.cells #[.int .i64 p.mx, .slice B6 p.idle.length b6, .slice D6 p.held.length d6, .slice E6 p.wait.length f6] 26)
          replace o3 := o3.alloc (.cells #[.int .i64 p.mx, .slice B6 p.idle.length b6, .slice D6 p.held.length d6, .slice E6 p.wait.length f6] 26)
          replace ps := ps.alloc (.cells #[.int .i64 p.mx, .slice B6 p.idle.length b6, .slice D6 p.held.length d6, .slice E6 p.wait.length f6] 26)
          replace xo1 := xo1.alloc (.cells #[.int .i64 p.mx, .slice B6 p.idle.length b6, .slice D6 p.held.length d6, .slice E6 p.wait.length f6] 26)
          have xo3 := At.new w6 26 #[.int .i64 p.mx, .slice B6 p.idle.length b6, .slice D6 p.held.length d6, .slice E6 p.wait.length f6]
          have hn13 := HSl.out
          obtain ⟨m, hm⟩ : ∃ m, p.idle.length = m + 1 := ⟨p.idle.length - 1, by omega⟩
          obtain ⟨bw, ow, hE, hbl, e0⟩ := o3.sees.idle.int (show m < p.idle.length by omega)
          rw [HSX.out m (by omega) hm.symm] at e0
          subst hE
          have hmi : (p.idle.length : Int) = (m : Int) + 1 := by omega
          have hwr : IntKind.i64.wrap ((p.idle.length : Int) - 1) = (m : Int) := by rw [IntKind.wrap_i64]; omega
          have m0 : (0 : Int) ≤ (m : Int) := by omega
          have m1 : (m : Int) < (p.idle.length : Int) := by omega
          have m2 : (p.idle.length : Int) > 0 := by omega
          have hq := dp.n4
          clear hm hmi
          obtain ⟨ps0, ps1, ps2, ps3, psl, psf⟩ := ps.fourP
          obtain ⟨xo10, xo11, xo12, xo13, xo1l, xo1f⟩ := xo1.fourP
          obtain ⟨xo30, xo31, xo32, xo33, xo3l, xo3f⟩ := xo3.fourP
          go_wp2_with fail
          with_reducible refine (kHolds_of rfl rfl rfl o3.sees.held dp.sees.held hq.2.1).mono ?_
          rintro e w7 ⟨rfl, hb⟩
          replace dp := dp.below hb
          replace hB := hB.below hb
          replace o1 := o1.below hb
          replace o3 := o3.below hb
          replace ps := ps.below hb ps.lt
          replace xo1 := xo1.below hb xo1.lt
          replace xo3 := xo3.below hb xo3.lt
          clear hb
          clear ps0 ps1 ps2 ps3 psl psf
          clear xo10 xo11 xo12 xo13 xo1l xo1f
          clear xo30 xo31 xo32 xo33 xo3l xo3f
          obtain ⟨ps0, ps1, ps2, ps3, psl, psf⟩ := ps.fourP
          obtain ⟨xo10, xo11, xo12, xo13, xo1l, xo1f⟩ := xo1.fourP
          obtain ⟨xo30, xo31, xo32, xo33, xo3l, xo3f⟩ := xo3.fourP
          go_wp2_with fail
          with_reducible refine (equalPool_same (some ⟨bw, ow, none⟩) D6 E6 A1 A2 A3 b6 d6 f6 c1 c2 c3 p _ o3.sees dp.sees (Nat.le_trans o3.i2 (by decide)) (Nat.le_trans o3.h2 (by decide)) (Nat.le_trans o3.w2 (by decide))).mono ?_
          rintro e w8 ⟨rfl, hb⟩
          replace dp := dp.below hb
          replace hB := hB.below hb
          replace o1 := o1.below hb
          replace o3 := o3.below hb
          replace ps := ps.below hb ps.lt
          replace xo1 := xo1.below hb xo1.lt
          replace xo3 := xo3.below hb xo3.lt
          clear hb
          clear ps0 ps1 ps2 ps3 psl psf
          clear xo10 xo11 xo12 xo13 xo1l xo1f
          clear xo30 xo31 xo32 xo33 xo3l xo3f
          obtain ⟨ps0, ps1, ps2, ps3, psl, psf⟩ := ps.fourP
          obtain ⟨xo10, xo11, xo12, xo13, xo1l, xo1f⟩ := xo1.fourP
          obtain ⟨xo30, xo31, xo32, xo33, xo3l, xo3f⟩ := xo3.fourP
          go_wp2
          go_ret
          exact ⟨by first | rfl | (simp; done) | (simp; omega), hB.bel⟩
      · skip
        have hN1 : N = -1 := by rw [hN]; exact (acq_full hb hf).1
        clear hb hf hR hN
        subst hN1
        obtain ⟨ps0, ps1, ps2, ps3, psl, psf⟩ := ps.fourP
        go_wp2_with fail
        with_reducible refine (iAcquireConn_any p A1 A2 A3 c1 c2 c3 i _ dp.sees dp.k1 dp.i2 dp.h2 dp.w2).mono ?_
        rintro e w3 ⟨B3, D3, E3, b3, d3, f3, he, ho, hb⟩
        rw [ER.out, EN.out, EB.out] at he
        rw [ER.out] at ho
        subst he
        have o1 : OwnK w3 _ B3 D3 E3 b3 d3 f3 R := ⟨ho, HRl.out⟩
        clear ho
        replace dp := dp.below hb
        replace hB := hB.below hb
        replace ps := ps.below hb ps.lt
        clear hb
        clear ps0 ps1 ps2 ps3 psl psf
        replace dp := dp.alloc (.cells #[.int .i64 R.mx, .slice B3 R.idle.length b3, .slice D3 R.held.length d3, .slice E3 R.wait.length f3] 26)
        replace hB := hB.alloc (.cells #[.int .i64 R.mx, .slice B3 R.idle.length b3, .slice D3 R.held.length d3, .slice E3 R.wait.length f3] 26)
        replace o1 := o1.alloc (.cells #[.int .i64 R.mx, .slice B3 R.idle.length b3, .slice D3 R.held.length d3, .slice E3 R.wait.length f3] 26)
        replace ps := ps.alloc (.cells #[.int .i64 R.mx, .slice B3 R.idle.length b3, .slice D3 R.held.length d3, .slice E3 R.wait.length f3] 26)
        have xo1 := At.new w3 26 #[.int .i64 R.mx, .slice B3 R.idle.length b3, .slice D3 R.held.length d3, .slice E3 R.wait.length f3]
        obtain ⟨ps0, ps1, ps2, ps3, psl, psf⟩ := ps.fourP
        obtain ⟨xo10, xo11, xo12, xo13, xo1l, xo1f⟩ := xo1.fourP
        go_wp2_with fail
        with_reducible refine (sAcquireConn_any p A1 A2 A3 c1 c2 c3 i _ dp.sees dp.k1 dp.i2 dp.h2 dp.w2).mono ?_
        rintro e w4 ⟨B4, D4, E4, b4, d4, f4, he, ho, hb⟩
        rw [ER.out, EN.out, EB.out] at he
        rw [ER.out] at ho
        subst he
        have o2 : OwnK w4 _ B4 D4 E4 b4 d4 f4 R := ⟨ho, HRl.out⟩
        clear ho
        replace dp := dp.below hb
        replace hB := hB.below hb
        replace o1 := o1.below hb
        replace ps := ps.below hb ps.lt
        replace xo1 := xo1.below hb xo1.lt
        clear hb
        clear ps0 ps1 ps2 ps3 psl psf
        clear xo10 xo11 xo12 xo13 xo1l xo1f
        replace dp := dp.alloc (.cells #[.int .i64 R.mx, .slice B4 R.idle.length b4, .slice D4 R.held.length d4, .slice E4 R.wait.length f4] 26)
        replace hB := hB.alloc (.cells #[.int .i64 R.mx, .slice B4 R.idle.length b4, .slice D4 R.held.length d4, .slice E4 R.wait.length f4] 26)
        replace o1 := o1.alloc (.cells #[.int .i64 R.mx, .slice B4 R.idle.length b4, .slice D4 R.held.length d4, .slice E4 R.wait.length f4] 26)
        replace o2 := o2.alloc (.cells #[.int .i64 R.mx, .slice B4 R.idle.length b4, .slice D4 R.held.length d4, .slice E4 R.wait.length f4] 26)
        replace ps := ps.alloc (.cells #[.int .i64 R.mx, .slice B4 R.idle.length b4, .slice D4 R.held.length d4, .slice E4 R.wait.length f4] 26)
        replace xo1 := xo1.alloc (.cells #[.int .i64 R.mx, .slice B4 R.idle.length b4, .slice D4 R.held.length d4, .slice E4 R.wait.length f4] 26)
        have xo2 := At.new w4 26 #[.int .i64 R.mx, .slice B4 R.idle.length b4, .slice D4 R.held.length d4, .slice E4 R.wait.length f4]
        obtain ⟨ps0, ps1, ps2, ps3, psl, psf⟩ := ps.fourP
        obtain ⟨xo10, xo11, xo12, xo13, xo1l, xo1f⟩ := xo1.fourP
        obtain ⟨xo20, xo21, xo22, xo23, xo2l, xo2f⟩ := xo2.fourP
        go_wp2_with fail
        with_reducible refine (equalPool_same B3 D3 E3 B4 D4 E4 b3 d3 f3 b4 d4 f4 R _ o1.sees o2.sees (Nat.le_trans o1.i2 (by decide)) (Nat.le_trans o1.h2 (by decide)) (Nat.le_trans o1.w2 (by decide))).mono ?_
        rintro e w5 ⟨rfl, hb⟩
        replace dp := dp.below hb
        replace hB := hB.below hb
        replace o1 := o1.below hb
        replace o2 := o2.below hb
        replace ps := ps.below hb ps.lt
        replace xo1 := xo1.below hb xo1.lt
        replace xo2 := xo2.below hb xo2.lt
        clear hb
        clear ps0 ps1 ps2 ps3 psl psf
        clear xo10 xo11 xo12 xo13 xo1l xo1f
        clear xo20 xo21 xo22 xo23 xo2l xo2f
        obtain ⟨ps0, ps1, ps2, ps3, psl, psf⟩ := ps.fourP
        obtain ⟨xo10, xo11, xo12, xo13, xo1l, xo1f⟩ := xo1.fourP
        obtain ⟨xo20, xo21, xo22, xo23, xo2l, xo2f⟩ := xo2.fourP
        go_wp2_with fail
        with_reducible refine (equalPool_same B3 D3 E3 B4 D4 E4 b3 d3 f3 b4 d4 f4 R _ o1.sees o2.sees (Nat.le_trans o1.i2 (by decide)) (Nat.le_trans o1.h2 (by decide)) (Nat.le_trans o1.w2 (by decide))).mono ?_
        rintro e w6 ⟨rfl, hb⟩
        replace dp := dp.below hb
        replace hB := hB.below hb
        replace o1 := o1.below hb
        replace o2 := o2.below hb
        replace ps := ps.below hb ps.lt
        replace xo1 := xo1.below hb xo1.lt
        replace xo2 := xo2.below hb xo2.lt
        clear hb
        clear ps0 ps1 ps2 ps3 psl psf
        clear xo10 xo11 xo12 xo13 xo1l xo1f
        clear xo20 xo21 xo22 xo23 xo2l xo2f
        obtain ⟨ps0, ps1, ps2, ps3, psl, psf⟩ := ps.fourP
        obtain ⟨xo10, xo11, xo12, xo13, xo1l, xo1f⟩ := xo1.fourP
        obtain ⟨xo20, xo21, xo22, xo23, xo2l, xo2f⟩ := xo2.fourP
        go_wp2
        go_ret
        exact ⟨by first | rfl | (simp; done) | (simp; omega), hB.bel⟩
end Go.Proofs.Ytnfpnpdiglaebaa

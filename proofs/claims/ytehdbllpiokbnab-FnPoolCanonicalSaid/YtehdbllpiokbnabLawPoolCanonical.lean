/-
  The walk of the law FnPoolCanonical: at every code it returns true and changes nothing that was there. Conditions: none.
-/
import Derived.Test.YtehdbllpiokbnabLawTx
import Derived.Test.YtehdbllpiokbnabLawFrame
import Derived.BigQuiet
import Derived.Deep.RegionHeld3


namespace Go.Proofs.Ytehdbllpiokbnab
open Go.RowKit Txt Pol

set_option maxHeartbeats 8000000 in
set_option maxRecDepth 16384 in
theorem walkPoolCanonical (a : Option Addr) (len cap : Nat) (zs : List Int) (w : World) (hn : zs.length = len) (hc : len ≤ cap) (hcc : cap ≤ maxLen) (h : Sees w w.heap.size a (byts zs)) (hz : ∀ y ∈ zs, 0 ≤ y ∧ y ≤ 255) :
    Calls Try.prog 4 #[.slice a len cap] w fun e w' => e = .returned (.bool true) ∧ Below w.heap.size w w' := by
  have HE := hid hn
  have HC := hid hcc
  have HZ := hid hz
  clear hn hcc hz
  by_cases hbig : 1048576 < len
  · go_enter Try.func4, Try.ntmps4
    go_wp2
    go_ret
    exact ⟨rfl, Below.refl _ _⟩
  · go_enter Try.func4, Try.ntmps4
    go_wp2_with fail
    refine (drawParsePool_any _ _ _ _ _ h HZ.out HE.out hc (by omega) HC.out).mono ?_
    rintro e w2 ⟨T, rfl, hTl, hb0⟩
    have hB : DB w w2 := hb0
    clear hb0
    have c1 := fun w => iParsePool_any T w (by omega)
    have c2 := fun w => sParsePool_any T w (by omega)
    unfold tx at c1 c2
    obtain ⟨P, hP⟩ : ∃ P, P = prsP T := ⟨_, rfl⟩
    rw [← hP] at c1 c2
    have hPl : P.idle.length ≤ 13 ∧ P.held.length ≤ 13 ∧ P.wait.length ≤ 13 := by obtain ⟨a, b, c⟩ := prsP_sm T; rw [hP]; omega
    have hTT : (T == T) = true := by simp
    rcases hv : prsB T with _ | _
    · skip
      rw [hv] at c1 c2
      have C1 := hid c1
      have C2 := hid c2
      clear c1 c2
      clear hv hP
      unfold tx
      go_wp2_with fail
      with_reducible refine (C1.out _).mono ?_
      rintro e w3 ⟨B3, D3, E3, b3, d3, f3, rfl, ho, hb⟩
      have oa : OwnK w3 _ B3 D3 E3 b3 d3 f3 P := ⟨ho, hPl⟩
      clear ho
      replace hB := hB.below hb
      clear hb
      replace hB := hB.alloc (.cells #[.int .i64 P.mx, .slice B3 P.idle.length b3, .slice D3 P.held.length d3, .slice E3 P.wait.length f3] 26)
      replace oa := oa.alloc (.cells #[.int .i64 P.mx, .slice B3 P.idle.length b3, .slice D3 P.held.length d3, .slice E3 P.wait.length f3] 26)
      have xoa := At.new w3 26 #[.int .i64 P.mx, .slice B3 P.idle.length b3, .slice D3 P.held.length d3, .slice E3 P.wait.length f3]
      obtain ⟨xoa0, xoa1, xoa2, xoa3, xoal, xoaf⟩ := xoa.fourP
      go_wp2_with fail
      with_reducible refine (C2.out _).mono ?_
      rintro e w4 ⟨B4, D4, E4, b4, d4, f4, rfl, ho, hb⟩
      have ob : OwnK w4 _ B4 D4 E4 b4 d4 f4 P := ⟨ho, hPl⟩
      clear ho
      replace hB := hB.below hb
      replace oa := oa.below hb
      replace xoa := xoa.below hb xoa.lt
      clear hb
      clear xoa0 xoa1 xoa2 xoa3 xoal xoaf
      replace hB := hB.alloc (.cells #[.int .i64 P.mx, .slice B4 P.idle.length b4, .slice D4 P.held.length d4, .slice E4 P.wait.length f4] 26)
      replace oa := oa.alloc (.cells #[.int .i64 P.mx, .slice B4 P.idle.length b4, .slice D4 P.held.length d4, .slice E4 P.wait.length f4] 26)
      replace ob := ob.alloc (.cells #[.int .i64 P.mx, .slice B4 P.idle.length b4, .slice D4 P.held.length d4, .slice E4 P.wait.length f4] 26)
      replace xoa := xoa.alloc (.cells #[.int .i64 P.mx, .slice B4 P.idle.length b4, .slice D4 P.held.length d4, .slice E4 P.wait.length f4] 26)
      have xob := At.new w4 26 #[.int .i64 P.mx, .slice B4 P.idle.length b4, .slice D4 P.held.length d4, .slice E4 P.wait.length f4]
      obtain ⟨xoa0, xoa1, xoa2, xoa3, xoal, xoaf⟩ := xoa.fourP
      obtain ⟨xob0, xob1, xob2, xob3, xobl, xobf⟩ := xob.fourP
      go_wp2_with fail
      with_reducible refine (equalPool_same B3 D3 E3 B4 D4 E4 b3 d3 f3 b4 d4 f4 P _ oa.sees ob.sees (Nat.le_trans oa.i2 (by decide)) (Nat.le_trans oa.h2 (by decide)) (Nat.le_trans oa.w2 (by decide))).mono ?_
      rintro e w5 ⟨rfl, hb⟩
      replace hB := hB.below hb
      replace oa := oa.below hb
      replace ob := ob.below hb
      replace xoa := xoa.below hb xoa.lt
      replace xob := xob.below hb xob.lt
      clear hb
      clear xoa0 xoa1 xoa2 xoa3 xoal xoaf
      clear xob0 xob1 xob2 xob3 xobl xobf
      obtain ⟨xoa0, xoa1, xoa2, xoa3, xoal, xoaf⟩ := xoa.fourP
      obtain ⟨xob0, xob1, xob2, xob3, xobl, xobf⟩ := xob.fourP
      go_wp2
      go_ret
      exact ⟨by first | rfl | (simp; done) | (simp; omega), hB.bel⟩
    · skip
      rw [hv] at c1 c2
      have C1 := hid c1
      have C2 := hid c2
      clear c1 c2
      obtain ⟨e1, e2⟩ := fmt_fore hv
      rw [← hP] at e1 e2
      have HF := hid e1
      have HV := hid e2
      clear e1 e2
      clear hv hP
      unfold tx
      go_wp2_with fail
      with_reducible refine (C1.out _).mono ?_
      rintro e w3 ⟨B3, D3, E3, b3, d3, f3, rfl, ho, hb⟩
      have oa : OwnK w3 _ B3 D3 E3 b3 d3 f3 P := ⟨ho, hPl⟩
      clear ho
      replace hB := hB.below hb
      clear hb
      replace hB := hB.alloc (.cells #[.int .i64 P.mx, .slice B3 P.idle.length b3, .slice D3 P.held.length d3, .slice E3 P.wait.length f3] 26)
      replace oa := oa.alloc (.cells #[.int .i64 P.mx, .slice B3 P.idle.length b3, .slice D3 P.held.length d3, .slice E3 P.wait.length f3] 26)
      have xoa := At.new w3 26 #[.int .i64 P.mx, .slice B3 P.idle.length b3, .slice D3 P.held.length d3, .slice E3 P.wait.length f3]
      obtain ⟨xoa0, xoa1, xoa2, xoa3, xoal, xoaf⟩ := xoa.fourP
      go_wp2_with fail
      with_reducible refine (C2.out _).mono ?_
      rintro e w4 ⟨B4, D4, E4, b4, d4, f4, rfl, ho, hb⟩
      have ob : OwnK w4 _ B4 D4 E4 b4 d4 f4 P := ⟨ho, hPl⟩
      clear ho
      replace hB := hB.below hb
      replace oa := oa.below hb
      replace xoa := xoa.below hb xoa.lt
      clear hb
      clear xoa0 xoa1 xoa2 xoa3 xoal xoaf
      replace hB := hB.alloc (.cells #[.int .i64 P.mx, .slice B4 P.idle.length b4, .slice D4 P.held.length d4, .slice E4 P.wait.length f4] 26)
      replace oa := oa.alloc (.cells #[.int .i64 P.mx, .slice B4 P.idle.length b4, .slice D4 P.held.length d4, .slice E4 P.wait.length f4] 26)
      replace ob := ob.alloc (.cells #[.int .i64 P.mx, .slice B4 P.idle.length b4, .slice D4 P.held.length d4, .slice E4 P.wait.length f4] 26)
      replace xoa := xoa.alloc (.cells #[.int .i64 P.mx, .slice B4 P.idle.length b4, .slice D4 P.held.length d4, .slice E4 P.wait.length f4] 26)
      have xob := At.new w4 26 #[.int .i64 P.mx, .slice B4 P.idle.length b4, .slice D4 P.held.length d4, .slice E4 P.wait.length f4]
      obtain ⟨xoa0, xoa1, xoa2, xoa3, xoal, xoaf⟩ := xoa.fourP
      obtain ⟨xob0, xob1, xob2, xob3, xobl, xobf⟩ := xob.fourP
      go_wp2_with fail
      with_reducible refine (equalPool_same B3 D3 E3 B4 D4 E4 b3 d3 f3 b4 d4 f4 P _ oa.sees ob.sees (Nat.le_trans oa.i2 (by decide)) (Nat.le_trans oa.h2 (by decide)) (Nat.le_trans oa.w2 (by decide))).mono ?_
      rintro e w5 ⟨rfl, hb⟩
      replace hB := hB.below hb
      replace oa := oa.below hb
      replace ob := ob.below hb
      replace xoa := xoa.below hb xoa.lt
      replace xob := xob.below hb xob.lt
      clear hb
      clear xoa0 xoa1 xoa2 xoa3 xoal xoaf
      clear xob0 xob1 xob2 xob3 xobl xobf
      obtain ⟨xoa0, xoa1, xoa2, xoa3, xoal, xoaf⟩ := xoa.fourP
      obtain ⟨xob0, xob1, xob2, xob3, xobl, xobf⟩ := xob.fourP
      go_wp2_with fail
      with_reducible refine (iFormatPool_any P B3 D3 E3 b3 d3 f3 _ oa.sees oa.i2 oa.h2 oa.w2).mono ?_
      rintro e w6 ⟨he, hb⟩
      rw [HF.out] at he
      subst he
      unfold tx
      replace hB := hB.below hb
      replace oa := oa.below hb
      replace ob := ob.below hb
      replace xoa := xoa.below hb xoa.lt
      replace xob := xob.below hb xob.lt
      clear hb
      clear xoa0 xoa1 xoa2 xoa3 xoal xoaf
      clear xob0 xob1 xob2 xob3 xobl xobf
      obtain ⟨xoa0, xoa1, xoa2, xoa3, xoal, xoaf⟩ := xoa.fourP
      obtain ⟨xob0, xob1, xob2, xob3, xobl, xobf⟩ := xob.fourP
      go_wp2_with fail
      with_reducible refine (iValidPool_any P B3 D3 E3 b3 d3 f3 _ oa.sees oa.i2 oa.h2 (Nat.le_trans oa.w2 (by decide))).mono ?_
      rintro e w7 ⟨he, hb⟩
      rw [HV.out] at he
      subst he
      replace hB := hB.below hb
      replace oa := oa.below hb
      replace ob := ob.below hb
      replace xoa := xoa.below hb xoa.lt
      replace xob := xob.below hb xob.lt
      clear hb
      clear xoa0 xoa1 xoa2 xoa3 xoal xoaf
      clear xob0 xob1 xob2 xob3 xobl xobf
      obtain ⟨xoa0, xoa1, xoa2, xoa3, xoal, xoaf⟩ := xoa.fourP
      obtain ⟨xob0, xob1, xob2, xob3, xobl, xobf⟩ := xob.fourP
      go_wp2
      go_ret
      exact ⟨by first | rfl | (simp; done) | (simp; omega), hB.bel⟩
end Go.Proofs.Ytehdbllpiokbnab

/-
  The walk of the law FnBreakerPath: at every code it returns true and changes nothing that was there. Conditions: none.
-/
import Derived.Test.YtonlepngdlollabLawBk
import Derived.Test.YtonlepngdlollabLawFrame
import Derived.BigQuiet

namespace Go.Proofs.Ytonlepngdlollab
open Go.RowKit Brk

set_option maxHeartbeats 8000000 in
theorem walkBreakerPath (a : Option Addr) (len cap : Nat) (zs : List Int) (w : World) (hn : zs.length = len) (hc : len ≤ cap) (hcc : cap ≤ maxLen) (h : Sees w w.heap.size a (byts zs)) (hz : ∀ y ∈ zs, 0 ≤ y ∧ y ≤ 255) :
    Calls Try.prog 3 #[.slice a len cap] w fun e w' => e = .returned (.bool true) ∧ Below w.heap.size w w' := by
  have HE := hid hn
  have HC := hid hcc
  have HZ := hid hz
  clear hn hcc hz
  by_cases hbig : 1048576 < len
  · go_enter Try.func3, Try.ntmps3
    go_wp2
    go_ret
    exact ⟨rfl, Below.refl _ _⟩
  · go_enter Try.func3, Try.ntmps3
    go_wp2_with fail
    refine (drawBreakerPath_any _ _ _ _ _ h HZ.out HE.out hc (by omega) HC.out).mono ?_
    rintro e w2 ⟨b, A, c, gs, AT, cT, ts, rfl, dl, sg, hts, hct0⟩
    have HT4 := hid (show ts.length ≤ 4194304 from Nat.le_trans hts (by decide))
    have HC2 := hid hct0
    clear hts hct0
    obtain ⟨P, hP⟩ : ∃ P, P = path b gs ts := ⟨_, rfl⟩
    have EP := hid hP.symm
    have HP4 := hid (show P.length ≤ 4194304 by rw [hP]; exact Nat.le_trans (path_len _ _ _) (by decide))
    clear hP
    by_cases h0 : P.length = 0
    · skip
      have hs6 : ((P.length : Int) == 0) = true := by rw [h0]; rfl
      clear h0
      replace dl := dl.alloc (.cells #[.int .i64 b.li, .int .i64 b.re, .int .i64 b.st, .int .i64 b.fa, .int .i64 b.si] 24)
      replace sg := sg.alloc (.cells #[.int .i64 b.li, .int .i64 b.re, .int .i64 b.st, .int .i64 b.fa, .int .i64 b.si] 24)
      have px := At.new w2 24 #[.int .i64 b.li, .int .i64 b.re, .int .i64 b.st, .int .i64 b.fa, .int .i64 b.si]
      obtain ⟨px0, px1, px2, px3, px4, pxl⟩ := px.brk
      go_wp2_with fail
      refine (iBreakerPath_any A AT c cT gs ts b _ dl.sees sg.sees dl.n4 HT4.out).mono ?_
      rintro e w3 ⟨v, rfl, ho1, hb⟩
      rw [EP.out] at ho1
      obtain ⟨A1, c1, rfl, hc1⟩ := own_form ho1.out
      clear hc1
      replace ho1 := (show OwnZ _ _ A1 c1 P from ho1)
      clear px0 px1 px2 px3 px4 pxl
      replace dl := dl.below hb
      replace sg := sg.below hb
      replace px := px.below hb px.lt
      clear hb
      obtain ⟨px0, px1, px2, px3, px4, pxl⟩ := px.brk
      go_wp2_with fail
      refine (sBreakerPath_any A AT c cT gs ts b _ dl.sees sg.sees dl.n4 HT4.out).mono ?_
      rintro e w4 ⟨v, rfl, ho2, hb⟩
      rw [EP.out] at ho2
      obtain ⟨A2, c2, rfl, hc2⟩ := own_form ho2.out
      clear hc2
      replace ho2 := (show OwnZ _ _ A2 c2 P from ho2)
      clear px0 px1 px2 px3 px4 pxl
      replace dl := dl.below hb
      replace sg := sg.below hb
      replace ho1 := ho1.below hb
      replace px := px.below hb px.lt
      clear hb
      obtain ⟨px0, px1, px2, px3, px4, pxl⟩ := px.brk
      go_wp2_with fail
      refine (bEq_same A1 A2 c1 c2 P _ ho1.sees ho2.sees HP4.out).mono ?_
      rintro e w5 ⟨rfl, hb⟩
      clear px0 px1 px2 px3 px4 pxl
      replace dl := dl.below hb
      replace sg := sg.below hb
      replace ho1 := ho1.below hb
      replace ho2 := ho2.below hb
      replace px := px.below hb px.lt
      clear hb
      obtain ⟨px0, px1, px2, px3, px4, pxl⟩ := px.brk
      go_wp2_with fail
      refine (sBreakerPath_any A AT c cT gs ts b _ dl.sees sg.sees dl.n4 HT4.out).mono ?_
      rintro e w6 ⟨v, rfl, ho3, hb⟩
      rw [EP.out] at ho3
      obtain ⟨A3, c3, rfl, hc3⟩ := own_form ho3.out
      clear hc3
      replace ho3 := (show OwnZ _ _ A3 c3 P from ho3)
      clear px0 px1 px2 px3 px4 pxl
      replace dl := dl.below hb
      replace sg := sg.below hb
      replace ho1 := ho1.below hb
      replace ho2 := ho2.below hb
      replace px := px.below hb px.lt
      clear hb
      obtain ⟨px0, px1, px2, px3, px4, pxl⟩ := px.brk
      go_wp2_with fail
      refine (bEq_same A1 A3 c1 c3 P _ ho1.sees ho3.sees HP4.out).mono ?_
      rintro e w7 ⟨rfl, hb⟩
      clear px0 px1 px2 px3 px4 pxl
      replace dl := dl.below hb
      replace sg := sg.below hb
      replace ho1 := ho1.below hb
      replace ho2 := ho2.below hb
      replace ho3 := ho3.below hb
      replace px := px.below hb px.lt
      clear hb
      obtain ⟨px0, px1, px2, px3, px4, pxl⟩ := px.brk
      go_wp2
      go_ret
      exact ⟨rfl, dl.bel⟩
    · skip
      have hs6 : ((P.length : Int) == 0) = false := beq_eq_false_iff_ne.2 (by omega)
      have HB := hid (show pathB b gs ts = true from Classical.byContradiction fun hq => h0 (by rw [← EP.out]; unfold path; rw [if_neg hq]; rfl))
      have H0 := hid h0
      clear h0
      have HPL := hid (show P.length = gs.length by rw [← EP.out]; exact path_len' HB.out)
      have HTL := hid (pathB_iff.1 HB.out).2.1
      have HG12 := hid (pathB_iff.1 HB.out).2.2.1
      replace dl := dl.alloc (.cells #[.int .i64 b.li, .int .i64 b.re, .int .i64 b.st, .int .i64 b.fa, .int .i64 b.si] 24)
      replace sg := sg.alloc (.cells #[.int .i64 b.li, .int .i64 b.re, .int .i64 b.st, .int .i64 b.fa, .int .i64 b.si] 24)
      have px := At.new w2 24 #[.int .i64 b.li, .int .i64 b.re, .int .i64 b.st, .int .i64 b.fa, .int .i64 b.si]
      obtain ⟨px0, px1, px2, px3, px4, pxl⟩ := px.brk
      go_wp2_with fail
      refine (iBreakerPath_any A AT c cT gs ts b _ dl.sees sg.sees dl.n4 HT4.out).mono ?_
      rintro e w3 ⟨v, rfl, ho1, hb⟩
      rw [EP.out] at ho1
      obtain ⟨A1, c1, rfl, hc1⟩ := own_form ho1.out
      clear hc1
      replace ho1 := (show OwnZ _ _ A1 c1 P from ho1)
      clear px0 px1 px2 px3 px4 pxl
      replace dl := dl.below hb
      replace sg := sg.below hb
      replace px := px.below hb px.lt
      clear hb
      obtain ⟨px0, px1, px2, px3, px4, pxl⟩ := px.brk
      go_wp2_with fail
      refine (sBreakerPath_any A AT c cT gs ts b _ dl.sees sg.sees dl.n4 HT4.out).mono ?_
      rintro e w4 ⟨v, rfl, ho2, hb⟩
      rw [EP.out] at ho2
      obtain ⟨A2, c2, rfl, hc2⟩ := own_form ho2.out
      clear hc2
      replace ho2 := (show OwnZ _ _ A2 c2 P from ho2)
      clear px0 px1 px2 px3 px4 pxl
      replace dl := dl.below hb
      replace sg := sg.below hb
      replace ho1 := ho1.below hb
      replace px := px.below hb px.lt
      clear hb
      obtain ⟨px0, px1, px2, px3, px4, pxl⟩ := px.brk
      go_wp2_with fail
      refine (bEq_same A1 A2 c1 c2 P _ ho1.sees ho2.sees HP4.out).mono ?_
      rintro e w5 ⟨rfl, hb⟩
      clear px0 px1 px2 px3 px4 pxl
      replace dl := dl.below hb
      replace sg := sg.below hb
      replace ho1 := ho1.below hb
      replace ho2 := ho2.below hb
      replace px := px.below hb px.lt
      clear hb
      have hPl := HPL.out
      have htl := HTL.out
      have hg12 := HG12.out
      have h0 := H0.out
      obtain ⟨n, hn⟩ : ∃ n, n + 1 = gs.length := ⟨gs.length - 1, by omega⟩
      have EQ := hid (show path b (gs.take n) (ts.take n) = P.take n by rw [path_take HB.out (by omega), EP.out])
      have L1 := hid (show (gs.take n).length = n by rw [List.length_take]; omega)
      have L2 := hid (show (ts.take n).length = n by rw [List.length_take]; omega)
      have L3 := hid (show (P.take n).length = n by rw [List.length_take]; omega)
      have hcg := dl.cap
      have hct := HC2.out
      have hcp := ho1.cap
      have q0 : IntKind.i64.wrap ((gs.length : Int) - 1) = (n : Int) := by rw [IntKind.wrap_i64]; omega
      have q0b : (gs.length : Int) - 1 = (n : Int) := by omega
      have q1 : IntKind.i64.wrap ((n : Int) + 1) = (n : Int) + 1 := by rw [IntKind.wrap_i64]; omega
      have q2 : ((P.length : Int) == (n : Int) + 1) = true := by simp; omega
      have q3 : (n : Int) ≤ (c : Int) := by omega
      have q4 : (n : Int) ≤ (cT : Int) := by omega
      have q5 : (n : Int) ≤ (c1 : Int) := by omega
      have q6 : (0 : Int) ≤ (n : Int) := by omega
      have q7 : IntKind.i64.wrap (n : Int) = (n : Int) := by rw [IntKind.wrap_i64]; omega
      have HN4 := hid (show n ≤ 4194304 by omega)
      clear hcg hct hcp hPl htl hg12 hn h0
      clear ho2
      have ddl := dl.drew
      have dsg := sg.drew
      have dho := ho1.drew
      have dpx := px.drew
      replace px := px.drew
      obtain ⟨px0, px1, px2, px3, px4, pxl⟩ := px.brk
      go_wp2_with fail
      go_region_held3 (fun w' => w'.cell? ⟨w2.heap.size, 0, none⟩ = some (.int .i64 b.li) ∧ w'.cell? ⟨w2.heap.size, 1, none⟩ = some (.int .i64 b.re) ∧ w'.cell? ⟨w2.heap.size, 2, none⟩ = some (.int .i64 b.st) ∧ w'.cell? ⟨w2.heap.size, 3, none⟩ = some (.int .i64 b.fa) ∧ w'.cell? ⟨w2.heap.size, 4, none⟩ = some (.int .i64 b.si))
        (first | with_reducible exact ⟨px0, px1, px2, px3, px4⟩ | with_reducible exact ⟨ypx0, ypx1, ypx2, ypx3, ypx4⟩ | with_reducible exact ⟨zpx0, zpx1, zpx2, zpx3, zpx4⟩ | go_keep)
        (first
          | (go_at_call 7; with_reducible refine (iBreakerPath_len L1.out L2.out (sees_boos_take ddl.sees n) (sees_ints_take dsg.sees n) (by rw [L1.out]; exact HN4.out) (by rw [L2.out]; exact HN4.out)).mono ?_; rintro e wy ⟨v, rfl, ho4, hb⟩; rw [EQ.out] at ho4; obtain ⟨A4, c4, rfl, hc4⟩ := own_form ho4.out; have ydl := ddl.below hb; have yho := dho.below hb; have ypx := dpx.below hb dpx.lt; obtain ⟨ypx0, ypx1, ypx2, ypx3, ypx4, ypxl⟩ := ypx.brk)
          | (go_at_call 8; with_reducible refine (bEq_len (P := P.take n) (Q := P.take n) List.length_take L3.out (Sees.of_own ho4.out) (sees_ints_take yho.sees n) rfl (by rw [L3.out]; exact HN4.out)).mono ?_; rintro e wz ⟨rfl, hb⟩; have zdl := ydl.below hb; have zho := yho.below hb; have zpx := ypx.below hb ypx.lt; obtain ⟨zpx0, zpx1, zpx2, zpx3, zpx4, zpxl⟩ := zpx.brk)
          | fail)
      all_goals
        go_wp2
        go_ret
        exact ⟨by simp, zdl.bel⟩
end Go.Proofs.Ytonlepngdlollab

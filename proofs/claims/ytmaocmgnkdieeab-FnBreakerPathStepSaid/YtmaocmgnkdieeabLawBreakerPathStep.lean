/-
  The walk of the law FnBreakerPathStep: at every code it returns true and changes nothing that was there. Conditions: none.
-/
import Derived.Test.YtmaocmgnkdieeabLawBkS
import Derived.Test.YtmaocmgnkdieeabLawFrame
import Derived.BigQuiet

namespace Go.Proofs.Ytmaocmgnkdieeab
open Go.RowKit Brk

set_option maxHeartbeats 8000000 in
theorem walkBreakerPathStep (a : Option Addr) (len cap : Nat) (zs : List Int) (w : World) (hn : zs.length = len) (hc : len ≤ cap) (hcc : cap ≤ maxLen) (h : Sees w w.heap.size a (byts zs)) (hz : ∀ y ∈ zs, 0 ≤ y ∧ y ≤ 255) :
    Calls Try.prog 3 #[.slice a len cap] w fun e w' => e = .returned (.bool true) ∧ Below w.heap.size w w' := by
  have HE := hid hn
  have HC := hid hcc
  have HZ := hid hz
  clear hn hcc hz
  by_cases hbig : 1048576 < len
  · go_enter Try.func3, Try.ntmps3
    go_wp2
    go_ret
    exact ⟨rfl, Below.refl _ _⟩
  · go_enter Try.func3, Try.ntmps3
    go_wp2_with fail
    refine (drawBreakerPath_any _ _ _ _ _ h HZ.out HE.out hc (by omega) HC.out).mono ?_
    rintro e w2 ⟨b, A, c, gs, AT, cT, ts, rfl, dl, sg, hts, hct0⟩
    have HT4 := hid (show ts.length ≤ 4194304 from Nat.le_trans hts (by decide))
    have HC2 := hid hct0
    clear hts hct0
    obtain ⟨P, hP⟩ : ∃ P, P = path b gs ts := ⟨_, rfl⟩
    have EP := hid hP.symm
    have HP4 := hid (show P.length ≤ 4194304 by rw [hP]; exact Nat.le_trans (path_len _ _ _) (by decide))
    clear hP
    by_cases h0 : P.length = 0
    · skip
      have hs6 : ((P.length : Int) == 0) = true := by rw [h0]; rfl
      clear h0
      replace dl := dl.alloc (.cells #[.int .i64 b.li, .int .i64 b.re, .int .i64 b.st, .int .i64 b.fa, .int .i64 b.si] 24)
      replace sg := sg.alloc (.cells #[.int .i64 b.li, .int .i64 b.re, .int .i64 b.st, .int .i64 b.fa, .int .i64 b.si] 24)
      have px := At.new w2 24 #[.int .i64 b.li, .int .i64 b.re, .int .i64 b.st, .int .i64 b.fa, .int .i64 b.si]
      obtain ⟨px0, px1, px2, px3, px4, pxl⟩ := px.brk
      go_wp2_with fail
      refine (iBreakerPath_any A AT c cT gs ts b _ dl.sees sg.sees dl.n4 HT4.out).mono ?_
      rintro e w3 ⟨v, rfl, ho1, hb⟩
      rw [EP.out] at ho1
      obtain ⟨A1, c1, rfl, hc1⟩ := own_form ho1.out
      clear hc1
      replace ho1 := (show OwnZ _ _ A1 c1 P from ho1)
      clear px0 px1 px2 px3 px4 pxl
      replace dl := dl.below hb
      replace sg := sg.below hb
      replace px := px.below hb px.lt
      clear hb
      obtain ⟨px0, px1, px2, px3, px4, pxl⟩ := px.brk
      go_wp2_with fail
      refine (sBreakerPath_any A AT c cT gs ts b _ dl.sees sg.sees dl.n4 HT4.out).mono ?_
      rintro e w4 ⟨v, rfl, ho2, hb⟩
      rw [EP.out] at ho2
      obtain ⟨A2, c2, rfl, hc2⟩ := own_form ho2.out
      clear hc2
      replace ho2 := (show OwnZ _ _ A2 c2 P from ho2)
      clear px0 px1 px2 px3 px4 pxl
      replace dl := dl.below hb
      replace sg := sg.below hb
      replace ho1 := ho1.below hb
      replace px := px.below hb px.lt
      clear hb
      obtain ⟨px0, px1, px2, px3, px4, pxl⟩ := px.brk
      go_wp2_with fail
      refine (bEq_same A1 A2 c1 c2 P _ ho1.sees ho2.sees HP4.out).mono ?_
      rintro e w5 ⟨rfl, hb⟩
      clear px0 px1 px2 px3 px4 pxl
      replace dl := dl.below hb
      replace sg := sg.below hb
      replace ho1 := ho1.below hb
      replace ho2 := ho2.below hb
      replace px := px.below hb px.lt
      clear hb
      obtain ⟨px0, px1, px2, px3, px4, pxl⟩ := px.brk
      go_wp2_with fail
      refine (sBreakerPath_any A AT c cT gs ts b _ dl.sees sg.sees dl.n4 HT4.out).mono ?_
      rintro e w6 ⟨v, rfl, ho3, hb⟩
      rw [EP.out] at ho3
      obtain ⟨A3, c3, rfl, hc3⟩ := own_form ho3.out
      clear hc3
      replace ho3 := (show OwnZ _ _ A3 c3 P from ho3)
      clear px0 px1 px2 px3 px4 pxl
      replace dl := dl.below hb
      replace sg := sg.below hb
      replace ho1 := ho1.below hb
      replace ho2 := ho2.below hb
      replace px := px.below hb px.lt
      clear hb
      obtain ⟨px0, px1, px2, px3, px4, pxl⟩ := px.brk
      go_wp2_with fail
      refine (bEq_same A1 A3 c1 c3 P _ ho1.sees ho3.sees HP4.out).mono ?_
      rintro e w7 ⟨rfl, hb⟩
      clear px0 px1 px2 px3 px4 pxl
      replace dl := dl.below hb
      replace sg := sg.below hb
      replace ho1 := ho1.below hb
      replace ho2 := ho2.below hb
      replace ho3 := ho3.below hb
      replace px := px.below hb px.lt
      clear hb
      obtain ⟨px0, px1, px2, px3, px4, pxl⟩ := px.brk
      go_wp2
      go_ret
      exact ⟨rfl, dl.bel⟩
    · skip
      have hs6 : ((P.length : Int) == 0) = false := beq_eq_false_iff_ne.2 (by omega)
      have HB := hid (show pathB b gs ts = true from Classical.byContradiction fun hq => h0 (by rw [← EP.out]; unfold path; rw [if_neg hq]; rfl))
      have H0 := hid h0
      clear h0
      have HPL := hid (show P.length = gs.length by rw [← EP.out]; exact path_len' HB.out)
      have HTL := hid (pathB_iff.1 HB.out).2.1
      have HG12 := hid (pathB_iff.1 HB.out).2.2.1
      replace dl := dl.alloc (.cells #[.int .i64 b.li, .int .i64 b.re, .int .i64 b.st, .int .i64 b.fa, .int .i64 b.si] 24)
      replace sg := sg.alloc (.cells #[.int .i64 b.li, .int .i64 b.re, .int .i64 b.st, .int .i64 b.fa, .int .i64 b.si] 24)
      have px := At.new w2 24 #[.int .i64 b.li, .int .i64 b.re, .int .i64 b.st, .int .i64 b.fa, .int .i64 b.si]
      obtain ⟨px0, px1, px2, px3, px4, pxl⟩ := px.brk
      go_wp2_with fail
      refine (iBreakerPath_any A AT c cT gs ts b _ dl.sees sg.sees dl.n4 HT4.out).mono ?_
      rintro e w3 ⟨v, rfl, ho1, hb⟩
      rw [EP.out] at ho1
      obtain ⟨A1, c1, rfl, hc1⟩ := own_form ho1.out
      clear hc1
      replace ho1 := (show OwnZ _ _ A1 c1 P from ho1)
      clear px0 px1 px2 px3 px4 pxl
      replace dl := dl.below hb
      replace sg := sg.below hb
      replace px := px.below hb px.lt
      clear hb
      obtain ⟨px0, px1, px2, px3, px4, pxl⟩ := px.brk
      go_wp2_with fail
      refine (sBreakerPath_any A AT c cT gs ts b _ dl.sees sg.sees dl.n4 HT4.out).mono ?_
      rintro e w4 ⟨v, rfl, ho2, hb⟩
      rw [EP.out] at ho2
      obtain ⟨A2, c2, rfl, hc2⟩ := own_form ho2.out
      clear hc2
      replace ho2 := (show OwnZ _ _ A2 c2 P from ho2)
      clear px0 px1 px2 px3 px4 pxl
      replace dl := dl.below hb
      replace sg := sg.below hb
      replace ho1 := ho1.below hb
      replace px := px.below hb px.lt
      clear hb
      obtain ⟨px0, px1, px2, px3, px4, pxl⟩ := px.brk
      go_wp2_with fail
      refine (bEq_same A1 A2 c1 c2 P _ ho1.sees ho2.sees HP4.out).mono ?_
      rintro e w5 ⟨rfl, hb⟩
      clear px0 px1 px2 px3 px4 pxl
      replace dl := dl.below hb
      replace sg := sg.below hb
      replace ho1 := ho1.below hb
      replace ho2 := ho2.below hb
      replace px := px.below hb px.lt
      clear hb
      clear ho2
      have h0 := H0.out
      have hPl := HPL.out
      have htl := HTL.out
      have hg0 : 0 < gs.length := by omega
      have ht0 : 0 < ts.length := by omega
      have hst := path_step HB.out hg0 ht0
      have hmo := path_mom HB.out ht0
      rw [EP.out] at hst
      obtain ⟨bp, op, rfl, hbp, ep⟩ := ho1.sees.int (by omega : 0 < P.length)
      obtain ⟨bt, ot, rfl, hbt, et⟩ := sg.sees.int ht0
      obtain ⟨bg, og, rfl, hbg, eg⟩ := dl.sees.boo hg0
      obtain ⟨t0, hts⟩ : ∃ t0, t0 = ts[0] := ⟨_, rfl⟩
      obtain ⟨g0, hgs⟩ : ∃ g0, g0 = gs[0] := ⟨_, rfl⟩
      rw [← hts] at et hst hmo
      rw [← hgs] at eg hst
      simp only [Nat.add_zero] at et eg
      clear ep hbp
      have HT0 := hid hts.symm
      have HG0 := hid hgs.symm
      clear hts hgs
      have hcp1 := ho1.cap
      have hcg := dl.cap
      have hct := HC2.out
      have hg12 := HG12.out
      obtain ⟨N, hN⟩ : ∃ N, N = once b g0 t0 := ⟨_, rfl⟩
      rw [← hN] at hst
      have HPD := hid (show path N (gs.drop 1) (ts.drop 1) = P.drop 1 by rw [hst]; rfl)
      have HP0 := hid (fun (h : 0 < P.length) => (show P[0] = N.st by simp [hst]))
      have HLT := hid (show letsB b t0 = lets b t0 by unfold letsB; rw [hmo]; rfl)
      have HMO := hid hmo
      have HNN := hid hN
      clear hst hmo hN
      have HDL5 := hid dl
      have HSG5 := hid sg
      have HHO5 := hid ho1
      obtain ⟨px0, px1, px2, px3, px4, pxl⟩ := px.brk
      replace dl := dl.alloc (.cells #[.int .i64 b.li, .int .i64 b.re, .int .i64 b.st, .int .i64 b.fa, .int .i64 b.si] 24)
      replace sg := sg.alloc (.cells #[.int .i64 b.li, .int .i64 b.re, .int .i64 b.st, .int .i64 b.fa, .int .i64 b.si] 24)
      replace ho1 := ho1.alloc (.cells #[.int .i64 b.li, .int .i64 b.re, .int .i64 b.st, .int .i64 b.fa, .int .i64 b.si] 24)
      replace px := px.alloc (.cells #[.int .i64 b.li, .int .i64 b.re, .int .i64 b.st, .int .i64 b.fa, .int .i64 b.si] 24)
      have pn := At.new w5 24 #[.int .i64 b.li, .int .i64 b.re, .int .i64 b.st, .int .i64 b.fa, .int .i64 b.si]
      obtain ⟨wb, hwb⟩ : ∃ wb, wb = (w5.alloc (.cells #[.int .i64 b.li, .int .i64 b.re, .int .i64 b.st, .int .i64 b.fa, .int .i64 b.si] 24)) := ⟨_, rfl⟩
      obtain ⟨gn, hgn⟩ : ∃ gn, gn = w5.heap.size := ⟨_, rfl⟩
      have HP1 := hid (show Below w5.heap.size w5 wb by rw [hwb]; exact (Below.refl _ _).alloc (Nat.le_refl _) _)
      have HGN5 := hid hgn
      rcases hl : lets b t0 with _ | _
      · skip
        have hs7 : ((gs.length : Int) == 0) = false := beq_eq_false_iff_ne.2 (by omega)
        go_upto_region 8 with fail
        rw [← hwb]
        have HPNN := hid pn
        clear pn px0 px1 px2 px3 px4 pxl
        skip
        have pn := HPNN.out
        rw [← hwb] at dl sg ho1 px pn
        rw [← hgn] at pn
        have hgl : gn < wb.heap.size := pn.lt
        have hxl : w2.heap.size < wb.heap.size := px.lt
        skip
        clear et eg hbt hbg
        have HET := hid (fun (w1 : World) (h : Sees w1 w1.heap.size (some ⟨bt, ot, none⟩) (ints ts)) => sees_head h (x := .int .i64 t0) (by rw [← HT0.out]; simp [ints, ht0]))
        have HEG := hid (fun (w1 : World) (h : Sees w1 w1.heap.size (some ⟨bg, og, none⟩) (boos gs)) => sees_head h (x := .bool g0) (by rw [← HG0.out]; simp [boos, hg0]))
        obtain ⟨et, hbt⟩ := HET.out _ sg.sees
        clear hwb
        clear hcp1 hcg hct hg12 hPl htl h0
        rw [← hgn]
        clear hgn
        obtain ⟨B1, hB1⟩ : ∃ B1, B1 = begR b t0 := ⟨_, rfl⟩
        have EB := hid hB1.symm
        have EL := hid (show letsB b t0 = false by rw [HLT.out]; exact hl)
        clear hB1
        have hW0 := (Below.refl wb.heap.size wb).drew
        have hWz := ((Below.refl wb.heap.size wb).alloc (Nat.le_refl _) (.cells #[.int .i64 0, .int .i64 0, .int .i64 0, .int .i64 0, .int .i64 0] 24)).drew
        obtain ⟨a0, a1, a2, a3, a4, al⟩ := px.brk
        have nz1 : ¬ w2.heap.size = wb.heap.size := by omega
        have nz2 : ¬ wb.heap.size = w2.heap.size := by omega
        have nc0 : ¬ bt = wb.heap.size := by omega
        have nd0 : ¬ wb.heap.size = bt := by omega
        go_cut [8, 9] from 45 to 51 (fun v8 v9 wx => ∃ g8 : Nat, v8 = .pointer (some ⟨g8, 0, none⟩) ∧ v9 = .bool false ∧ At wx g8 24 #[.int .i64 B1.li, .int .i64 B1.re, .int .i64 B1.st, .int .i64 B1.fa, .int .i64 B1.si] ∧ wb.heap.size ≤ g8 ∧ Below wb.heap.size wb wx)
        case first =>
          go_region_held3 (fun w' => w'.cell? ⟨w2.heap.size, 0, none⟩ = some (.int .i64 b.li) ∧ w'.cell? ⟨w2.heap.size, 1, none⟩ = some (.int .i64 b.re) ∧ w'.cell? ⟨w2.heap.size, 2, none⟩ = some (.int .i64 b.st) ∧ w'.cell? ⟨w2.heap.size, 3, none⟩ = some (.int .i64 b.fa) ∧ w'.cell? ⟨w2.heap.size, 4, none⟩ = some (.int .i64 b.si) ∧ w'.cell? ⟨bt, ot, none⟩ = some (.int .i64 t0))
            (first | with_reducible exact ⟨a0, a1, a2, a3, a4, et⟩ | with_reducible exact ⟨b0, b1, b2, b3, b4, det⟩ | go_keep)
            (first
              | (go_at_call 9; (with_reducible refine (iBeginCall_any b t0 _).mono ?_); rintro e wa ⟨he, hba⟩; rw [EB.out, EL.out] at he; subst he; have hWa := (by first | exact hW0.trans (hba.mono hW0.size) | exact hWz.trans (hba.mono hWz.size) : Below wb.heap.size wb wa); obtain ⟨b0, b1, b2, b3, b4, bl⟩ := (px.below hWa px.lt).brk; have det := ((hWa.cell (p := ⟨bt, ot, none⟩) hbt).trans et); have na0 : ¬ bt = wa.heap.size := Nat.ne_of_lt (Nat.lt_of_lt_of_le hbt hWa.size); have nb0 : ¬ wa.heap.size = bt := fun e => na0 e.symm; have ne1 : ¬ w2.heap.size = wa.heap.size := Nat.ne_of_lt bl; have ne2 : ¬ wa.heap.size = w2.heap.size := fun e => ne1 e.symm; (try have pza := ((At.newAt 24 #[.int .i64 0, .int .i64 0, .int .i64 0, .int .i64 0, .int .i64 0] rfl).drew : At ((wb.alloc (.cells #[.int .i64 0, .int .i64 0, .int .i64 0, .int .i64 0, .int .i64 0] 24)).drew) wb.heap.size 24 #[.int .i64 0, .int .i64 0, .int .i64 0, .int .i64 0, .int .i64 0]).below hba (by simp)); (try obtain ⟨z0, z1, z2, z3, z4, zl⟩ := pza.five); (try have pzf := pza.frozen))
              | fail)
          · go_wp2_with fail
            go_meet
            exact ⟨wa.heap.size, rfl, rfl, At.new wa 24 #[.int .i64 B1.li, .int .i64 B1.re, .int .i64 B1.st, .int .i64 B1.fa, .int .i64 B1.si], hWa.size, hWa.alloc hWa.size _⟩
          · go_wp2_with fail
            go_meet
            obtain ⟨hp8, hg8⟩ := brk_put (X := ⟨0, 0, 0, 0, 0⟩) B1 pza
            exact ⟨_, rfl, rfl, hp8, Nat.le_refl _, below_put hWa hg8 (Nat.le_refl _) hWa.size⟩
        case rest =>
          obtain ⟨pbg, rfl, rfl, pb, hpbge, hWx⟩ := hcut
          clear hW0 hWz a0 a1 a2 a3 a4 al nz1 nz2 nc0 nd0
          replace dl := dl.below hWx
          replace sg := sg.below hWx
          replace ho1 := ho1.below hWx
          replace px := px.below hWx px.lt
          replace pn := pn.below hWx pn.lt
          clear et hbt
          have hW8 := hid hWx
          clear hWx
          obtain ⟨wc8, hwc⟩ : ∃ wc8, wc8 = wc := ⟨_, rfl⟩
          subst hwc
          have hNb := HNN.out
          unfold once at hNb
          rw [hl] at hNb
          rw [if_neg (by simp)] at hNb
          subst hNb
          clear hl pb px
          have hcp1 := ho1.cap
          have hcg := dl.cap
          have hct := HC2.out
          have hg12 := HG12.out
          have hPl := HPL.out
          have htl := HTL.out
          have h0 := H0.out
          obtain ⟨ep, hbp⟩ := sees_head ho1.sees (x := .int .i64 N.st) (by rw [← HP0.out (by omega)]; simp [ints])
          have q1 : (1 : Int) ≤ (gs.length : Int) := by omega
          have q2 : (gs.length : Int) ≤ (c : Int) := by omega
          have q3 : (1 : Int) ≤ (c : Int) := by omega
          have q4 : (1 : Int) ≤ (ts.length : Int) := by omega
          have q5 : (ts.length : Int) ≤ (cT : Int) := by omega
          have q6 : (1 : Int) ≤ (cT : Int) := by omega
          have q7 : (1 : Int) ≤ (P.length : Int) := by omega
          have q8 : (P.length : Int) ≤ (c1 : Int) := by omega
          have q9 : (1 : Int) ≤ (c1 : Int) := by omega
          have q0 : (0 : Int) < (P.length : Int) := by omega
          have HLg := hid (show (gs.drop 1).length = gs.length - 1 from List.length_drop)
          have HLt := hid (show (ts.drop 1).length = gs.length - 1 by rw [List.length_drop]; omega)
          have HLp := hid (show (P.drop 1).length = gs.length - 1 by rw [List.length_drop]; omega)
          have HLg4 := hid (show (gs.drop 1).length ≤ 4194304 by rw [List.length_drop]; omega)
          have HLt4 := hid (show (ts.drop 1).length ≤ 4194304 by rw [List.length_drop]; omega)
          have HLp4 := hid (show (P.drop 1).length ≤ 4194304 by rw [List.length_drop]; omega)
          have hW0 := (Below.refl wc8.heap.size wc8).drew
          obtain ⟨XG, hXG⟩ : ∃ X : Option Addr, X = (if c = 1 then some ⟨bg, og, none⟩ else some ⟨bg, og + 1, none⟩) := ⟨_, rfl⟩
          have SXG := hid (fun (w1 : World) (B1 : Nat) (h : Sees w1 B1 (some ⟨bg, og, none⟩) (boos gs)) => (show Sees w1 B1 XG (boos (gs.drop 1)) by rw [hXG]; split; exact sees_boos_end (by omega); exact sees_boos_drop h))
          have rXG : (if c = 1 then some (⟨bg, og, none⟩ : Addr) else some ⟨bg, og + 1, none⟩) = XG := hXG.symm
          have tXG : (if 1 = c then some (⟨bg, og, none⟩ : Addr) else some ⟨bg, og + 1, none⟩) = XG := by rw [hXG]; by_cases e : c = 1 <;> simp [e, eq_comm]
          clear hXG
          obtain ⟨XT, hXT⟩ : ∃ X : Option Addr, X = (if cT = 1 then some ⟨bt, ot, none⟩ else some ⟨bt, ot + 1, none⟩) := ⟨_, rfl⟩
          have SXT := hid (fun (w1 : World) (B1 : Nat) (h : Sees w1 B1 (some ⟨bt, ot, none⟩) (ints ts)) => (show Sees w1 B1 XT (ints (ts.drop 1)) by rw [hXT]; split; exact sees_ints_end (by omega); exact sees_ints_drop h))
          have rXT : (if cT = 1 then some (⟨bt, ot, none⟩ : Addr) else some ⟨bt, ot + 1, none⟩) = XT := hXT.symm
          have tXT : (if 1 = cT then some (⟨bt, ot, none⟩ : Addr) else some ⟨bt, ot + 1, none⟩) = XT := by rw [hXT]; by_cases e : cT = 1 <;> simp [e, eq_comm]
          clear hXT
          obtain ⟨XP, hXP⟩ : ∃ X : Option Addr, X = (if c1 = 1 then some ⟨bp, op, none⟩ else some ⟨bp, op + 1, none⟩) := ⟨_, rfl⟩
          have SXP := hid (fun (w1 : World) (B1 : Nat) (h : Sees w1 B1 (some ⟨bp, op, none⟩) (ints P)) => (show Sees w1 B1 XP (ints (P.drop 1)) by rw [hXP]; split; exact sees_ints_end (by omega); exact sees_ints_drop h))
          have rXP : (if c1 = 1 then some (⟨bp, op, none⟩ : Addr) else some ⟨bp, op + 1, none⟩) = XP := hXP.symm
          have tXP : (if 1 = c1 then some (⟨bp, op, none⟩ : Addr) else some ⟨bp, op + 1, none⟩) = XP := by rw [hXP]; by_cases e : c1 = 1 <;> simp [e, eq_comm]
          clear hXP
          clear htl hPl h0 hcp1 hcg hct hg12
          obtain ⟨a0, a1, a2, a3, a4, al⟩ := pn.brk
          go_wp2_with fail
          go_region_held3 (fun w' => w'.cell? ⟨gn, 0, none⟩ = some (.int .i64 N.li) ∧ w'.cell? ⟨gn, 1, none⟩ = some (.int .i64 N.re) ∧ w'.cell? ⟨gn, 2, none⟩ = some (.int .i64 N.st) ∧ w'.cell? ⟨gn, 3, none⟩ = some (.int .i64 N.fa) ∧ w'.cell? ⟨gn, 4, none⟩ = some (.int .i64 N.si) ∧ w'.cell? ⟨bp, op, none⟩ = some (.int .i64 N.st))
            (first | with_reducible exact ⟨a0, a1, a2, a3, a4, ep⟩ | with_reducible exact ⟨y0, y1, y2, y3, y4, yp⟩ | with_reducible exact ⟨z0, z1, z2, z3, z4, zp⟩ | go_keep)
            (first
              | (go_at_call 6; with_reducible refine (iBreakerPath_len HLg.out HLt.out (SXG.out _ _ (dl.below hW0).sees) (SXT.out _ _ (sg.below hW0).sees) HLg4.out HLt4.out).mono ?_; rintro e wy ⟨v, rfl, ho4, hb⟩; rw [HPD.out] at ho4; obtain ⟨A4, c4, rfl, _⟩ := ho4.form; have hWy := hW0.trans (hb.mono hW0.size); obtain ⟨y0, y1, y2, y3, y4, yl⟩ := (pn.below hWy pn.lt).brk; have yp := (hWy.cell (p := ⟨bp, op, none⟩) hbp).trans ep)
              | (go_at_call 7; with_reducible refine (bEq_len (P := P.drop 1) (Q := P.drop 1) (by first | rfl | exact List.length_drop) HLp.out (Sees.of_own ho4.out) (SXP.out _ _ (ho1.below hWy).sees) rfl HLp4.out).mono ?_; rintro e wz ⟨rfl, hb⟩; have hWz := hWy.trans (hb.mono hWy.size); obtain ⟨z0, z1, z2, z3, z4, zl⟩ := (pn.below hWz pn.lt).brk; have zp := (hWz.cell (p := ⟨bp, op, none⟩) hbp).trans ep)
              | fail)
          all_goals
            go_wp2
            go_ret
            exact ⟨by simp, (dl.below hWz).bel⟩
      · skip
        have hs7 : ((gs.length : Int) == 0) = false := beq_eq_false_iff_ne.2 (by omega)
        go_upto_region 8 with fail
        rw [← hwb]
        have HPNN := hid pn
        clear pn px0 px1 px2 px3 px4 pxl
        skip
        have pn := HPNN.out
        rw [← hwb] at dl sg ho1 px pn
        rw [← hgn] at pn
        have hgl : gn < wb.heap.size := pn.lt
        have hxl : w2.heap.size < wb.heap.size := px.lt
        skip
        clear et eg hbt hbg
        have HET := hid (fun (w1 : World) (h : Sees w1 w1.heap.size (some ⟨bt, ot, none⟩) (ints ts)) => sees_head h (x := .int .i64 t0) (by rw [← HT0.out]; simp [ints, ht0]))
        have HEG := hid (fun (w1 : World) (h : Sees w1 w1.heap.size (some ⟨bg, og, none⟩) (boos gs)) => sees_head h (x := .bool g0) (by rw [← HG0.out]; simp [boos, hg0]))
        obtain ⟨et, hbt⟩ := HET.out _ sg.sees
        clear hwb
        clear hcp1 hcg hct hg12 hPl htl h0
        rw [← hgn]
        clear hgn
        obtain ⟨B1, hB1⟩ : ∃ B1, B1 = begR b t0 := ⟨_, rfl⟩
        have EB := hid hB1.symm
        have EL := hid (show letsB b t0 = true by rw [HLT.out]; exact hl)
        clear hB1
        have hW0 := (Below.refl wb.heap.size wb).drew
        have hWz := ((Below.refl wb.heap.size wb).alloc (Nat.le_refl _) (.cells #[.int .i64 0, .int .i64 0, .int .i64 0, .int .i64 0, .int .i64 0] 24)).drew
        obtain ⟨a0, a1, a2, a3, a4, al⟩ := px.brk
        have nz1 : ¬ w2.heap.size = wb.heap.size := by omega
        have nz2 : ¬ wb.heap.size = w2.heap.size := by omega
        have nc0 : ¬ bt = wb.heap.size := by omega
        have nd0 : ¬ wb.heap.size = bt := by omega
        go_cut [8, 9] from 45 to 51 (fun v8 v9 wx => ∃ g8 : Nat, v8 = .pointer (some ⟨g8, 0, none⟩) ∧ v9 = .bool true ∧ At wx g8 24 #[.int .i64 B1.li, .int .i64 B1.re, .int .i64 B1.st, .int .i64 B1.fa, .int .i64 B1.si] ∧ wb.heap.size ≤ g8 ∧ Below wb.heap.size wb wx)
        case first =>
          go_region_held3 (fun w' => w'.cell? ⟨w2.heap.size, 0, none⟩ = some (.int .i64 b.li) ∧ w'.cell? ⟨w2.heap.size, 1, none⟩ = some (.int .i64 b.re) ∧ w'.cell? ⟨w2.heap.size, 2, none⟩ = some (.int .i64 b.st) ∧ w'.cell? ⟨w2.heap.size, 3, none⟩ = some (.int .i64 b.fa) ∧ w'.cell? ⟨w2.heap.size, 4, none⟩ = some (.int .i64 b.si) ∧ w'.cell? ⟨bt, ot, none⟩ = some (.int .i64 t0))
            (first | with_reducible exact ⟨a0, a1, a2, a3, a4, et⟩ | with_reducible exact ⟨b0, b1, b2, b3, b4, det⟩ | go_keep)
            (first
              | (go_at_call 9; (with_reducible refine (iBeginCall_any b t0 _).mono ?_); rintro e wa ⟨he, hba⟩; rw [EB.out, EL.out] at he; subst he; have hWa := (by first | exact hW0.trans (hba.mono hW0.size) | exact hWz.trans (hba.mono hWz.size) : Below wb.heap.size wb wa); obtain ⟨b0, b1, b2, b3, b4, bl⟩ := (px.below hWa px.lt).brk; have det := ((hWa.cell (p := ⟨bt, ot, none⟩) hbt).trans et); have na0 : ¬ bt = wa.heap.size := Nat.ne_of_lt (Nat.lt_of_lt_of_le hbt hWa.size); have nb0 : ¬ wa.heap.size = bt := fun e => na0 e.symm; have ne1 : ¬ w2.heap.size = wa.heap.size := Nat.ne_of_lt bl; have ne2 : ¬ wa.heap.size = w2.heap.size := fun e => ne1 e.symm; (try have pza := ((At.newAt 24 #[.int .i64 0, .int .i64 0, .int .i64 0, .int .i64 0, .int .i64 0] rfl).drew : At ((wb.alloc (.cells #[.int .i64 0, .int .i64 0, .int .i64 0, .int .i64 0, .int .i64 0] 24)).drew) wb.heap.size 24 #[.int .i64 0, .int .i64 0, .int .i64 0, .int .i64 0, .int .i64 0]).below hba (by simp)); (try obtain ⟨z0, z1, z2, z3, z4, zl⟩ := pza.five); (try have pzf := pza.frozen))
              | fail)
          · go_wp2_with fail
            go_meet
            exact ⟨wa.heap.size, rfl, rfl, At.new wa 24 #[.int .i64 B1.li, .int .i64 B1.re, .int .i64 B1.st, .int .i64 B1.fa, .int .i64 B1.si], hWa.size, hWa.alloc hWa.size _⟩
          · go_wp2_with fail
            go_meet
            obtain ⟨hp8, hg8⟩ := brk_put (X := ⟨0, 0, 0, 0, 0⟩) B1 pza
            exact ⟨_, rfl, rfl, hp8, Nat.le_refl _, below_put hWa hg8 (Nat.le_refl _) hWa.size⟩
        case rest =>
          obtain ⟨pbg, rfl, rfl, pb, hpbge, hWx⟩ := hcut
          clear hW0 hWz a0 a1 a2 a3 a4 al nz1 nz2 nc0 nd0
          replace dl := dl.below hWx
          replace sg := sg.below hWx
          replace ho1 := ho1.below hWx
          replace px := px.below hWx px.lt
          replace pn := pn.below hWx pn.lt
          clear et hbt
          have hW8 := hid hWx
          clear hWx
          obtain ⟨wc8, hwc⟩ : ∃ wc8, wc8 = wc := ⟨_, rfl⟩
          subst hwc
          obtain ⟨et, hbt⟩ := HET.out _ sg.sees
          obtain ⟨eg, hbg⟩ := HEG.out _ dl.sees
          have hxl2 : gn < wc8.heap.size := pn.lt
          have hpl : pbg < wc8.heap.size := pb.lt
          have HBB := hid (show B1 = beg b t0 by rw [← EB.out]; unfold begR; rw [if_pos EL.out])
          have EM := hid (show momB B1 t0 = true by rw [HBB.out]; exact mom_beg HMO.out)
          have EF := hid (show finR B1 g0 t0 = N by unfold finR; rw [if_pos EM.out, HBB.out, HNN.out]; unfold once; rw [if_pos hl])
          clear hl
          have hW0 := (Below.refl wc8.heap.size wc8).drew
          have hWz := ((Below.refl wc8.heap.size wc8).alloc (Nat.le_refl _) (.cells #[.int .i64 0, .int .i64 0, .int .i64 0, .int .i64 0, .int .i64 0] 24)).drew
          obtain ⟨a0, a1, a2, a3, a4, al⟩ := pb.brk
          have nz1 : ¬ pbg = wc8.heap.size := by omega
          have nz2 : ¬ wc8.heap.size = pbg := by omega
          have nc0 : ¬ bg = wc8.heap.size := by omega
          have nd0 : ¬ wc8.heap.size = bg := by omega
          have nc1 : ¬ bt = wc8.heap.size := by omega
          have nd1 : ¬ wc8.heap.size = bt := by omega
          go_upto_region 10 with fail
          go_cut [10, 11] from 54 to 63 (fun v10 v11 wx => ∃ g8 : Nat, v10 = .pointer (some ⟨g8, 0, none⟩) ∧ v11 = .bool true ∧ At wx g8 24 #[.int .i64 N.li, .int .i64 N.re, .int .i64 N.st, .int .i64 N.fa, .int .i64 N.si] ∧ wc8.heap.size ≤ g8 ∧ Below wc8.heap.size wc8 wx)
          case first =>
            go_region_held3 (fun w' => w'.cell? ⟨pbg, 0, none⟩ = some (.int .i64 B1.li) ∧ w'.cell? ⟨pbg, 1, none⟩ = some (.int .i64 B1.re) ∧ w'.cell? ⟨pbg, 2, none⟩ = some (.int .i64 B1.st) ∧ w'.cell? ⟨pbg, 3, none⟩ = some (.int .i64 B1.fa) ∧ w'.cell? ⟨pbg, 4, none⟩ = some (.int .i64 B1.si) ∧ w'.cell? ⟨bg, og, none⟩ = some (.bool g0) ∧ w'.cell? ⟨bt, ot, none⟩ = some (.int .i64 t0))
              (first | with_reducible exact ⟨a0, a1, a2, a3, a4, eg, et⟩ | with_reducible exact ⟨b0, b1, b2, b3, b4, deg, det⟩ | go_keep)
              (first
                | (go_at_call 10; (with_reducible refine (iEndCall_any B1 g0 t0 _).mono ?_); rintro e wa ⟨he, hba⟩; rw [EF.out, EM.out] at he; subst he; have hWa := (by first | exact hW0.trans (hba.mono hW0.size) | exact hWz.trans (hba.mono hWz.size) : Below wc8.heap.size wc8 wa); obtain ⟨b0, b1, b2, b3, b4, bl⟩ := (pb.below hWa pb.lt).brk; have deg := ((hWa.cell (p := ⟨bg, og, none⟩) hbg).trans eg); have det := ((hWa.cell (p := ⟨bt, ot, none⟩) hbt).trans et); have na0 : ¬ bg = wa.heap.size := Nat.ne_of_lt (Nat.lt_of_lt_of_le hbg hWa.size); have nb0 : ¬ wa.heap.size = bg := fun e => na0 e.symm; have na1 : ¬ bt = wa.heap.size := Nat.ne_of_lt (Nat.lt_of_lt_of_le hbt hWa.size); have nb1 : ¬ wa.heap.size = bt := fun e => na1 e.symm; have ne1 : ¬ pbg = wa.heap.size := Nat.ne_of_lt bl; have ne2 : ¬ wa.heap.size = pbg := fun e => ne1 e.symm; (try have pza := ((At.newAt 24 #[.int .i64 0, .int .i64 0, .int .i64 0, .int .i64 0, .int .i64 0] rfl).drew : At ((wc8.alloc (.cells #[.int .i64 0, .int .i64 0, .int .i64 0, .int .i64 0, .int .i64 0] 24)).drew) wc8.heap.size 24 #[.int .i64 0, .int .i64 0, .int .i64 0, .int .i64 0, .int .i64 0]).below hba (by simp)); (try obtain ⟨z0, z1, z2, z3, z4, zl⟩ := pza.five); (try have pzf := pza.frozen))
                | fail)
            · go_wp2_with fail
              go_meet
              exact ⟨wa.heap.size, rfl, rfl, At.new wa 24 #[.int .i64 N.li, .int .i64 N.re, .int .i64 N.st, .int .i64 N.fa, .int .i64 N.si], hWa.size, hWa.alloc hWa.size _⟩
            · go_wp2_with fail
              go_meet
              obtain ⟨hp8, hg8⟩ := brk_put (X := ⟨0, 0, 0, 0, 0⟩) N pza
              exact ⟨_, rfl, rfl, hp8, Nat.le_refl _, below_put hWa hg8 (Nat.le_refl _) hWa.size⟩
          case rest =>
            obtain ⟨peg, rfl, rfl, pe, hpege, hWx⟩ := hcut
            clear hW0 hWz a0 a1 a2 a3 a4 al nz1 nz2 nc0 nd0 nc1 nd1
            replace dl := dl.below hWx
            replace sg := sg.below hWx
            replace ho1 := ho1.below hWx
            replace px := px.below hWx px.lt
            replace pn := pn.below hWx pn.lt
            replace pb := pb.below hWx pb.lt
            clear eg et hbg hbt
            have hW10 := hid hWx
            clear hWx
            obtain ⟨wc10, hwc⟩ : ∃ wc10, wc10 = wc := ⟨_, rfl⟩
            subst hwc
            have hgl3 : gn < wc10.heap.size := pn.lt
            obtain ⟨hp9, hg9⟩ := brk_put N pn
            obtain ⟨e0, e1, e2, e3, e4, el⟩ := pe.brk
            obtain ⟨n0, n1, n2, n3, n4, nl⟩ := pn.brk
            have nf := pn.frozen
            have hP3 := (HP1.out.trans (hW8.out.mono HP1.out.size)).trans (hW10.out.mono (HP1.out.trans (hW8.out.mono HP1.out.size)).size)
            have hP4 := below_put hP3 hg9 (by rw [HGN5.out]; exact Nat.le_refl _) hP3.size
            have HPN := hid hp9
            have HP4 := hid hP4
            clear hp9 hP3 hP4 hg9 dl sg ho1 px pb pn
            go_upto_region 14 with fail
            clear e0 e1 e2 e3 e4 el n0 n1 n2 n3 n4 nl nf pe
            have dl := HDL5.out.below HP4.out
            have sg := HSG5.out.below HP4.out
            have ho1 := HHO5.out.below HP4.out
            have pn := HPN.out
            obtain ⟨wd, hwd⟩ : ∃ wd, wd = (((((wc10.setCell ⟨gn, 0, none⟩ (.int .i64 N.li)).setCell ⟨gn, 1, none⟩ (.int .i64 N.re)).setCell ⟨gn, 2, none⟩ (.int .i64 N.st)).setCell ⟨gn, 3, none⟩ (.int .i64 N.fa)).setCell ⟨gn, 4, none⟩ (.int .i64 N.si)) := ⟨_, rfl⟩
            rw [← hwd] at dl sg ho1 pn ⊢
            clear hwd HP4 HPN HP1 hW8 hW10 HDL5 HSG5 HHO5
            have hcp1 := ho1.cap
            have hcg := dl.cap
            have hct := HC2.out
            have hg12 := HG12.out
            have hPl := HPL.out
            have htl := HTL.out
            have h0 := H0.out
            obtain ⟨ep, hbp⟩ := sees_head ho1.sees (x := .int .i64 N.st) (by rw [← HP0.out (by omega)]; simp [ints])
            have q1 : (1 : Int) ≤ (gs.length : Int) := by omega
            have q2 : (gs.length : Int) ≤ (c : Int) := by omega
            have q3 : (1 : Int) ≤ (c : Int) := by omega
            have q4 : (1 : Int) ≤ (ts.length : Int) := by omega
            have q5 : (ts.length : Int) ≤ (cT : Int) := by omega
            have q6 : (1 : Int) ≤ (cT : Int) := by omega
            have q7 : (1 : Int) ≤ (P.length : Int) := by omega
            have q8 : (P.length : Int) ≤ (c1 : Int) := by omega
            have q9 : (1 : Int) ≤ (c1 : Int) := by omega
            have q0 : (0 : Int) < (P.length : Int) := by omega
            have HLg := hid (show (gs.drop 1).length = gs.length - 1 from List.length_drop)
            have HLt := hid (show (ts.drop 1).length = gs.length - 1 by rw [List.length_drop]; omega)
            have HLp := hid (show (P.drop 1).length = gs.length - 1 by rw [List.length_drop]; omega)
            have HLg4 := hid (show (gs.drop 1).length ≤ 4194304 by rw [List.length_drop]; omega)
            have HLt4 := hid (show (ts.drop 1).length ≤ 4194304 by rw [List.length_drop]; omega)
            have HLp4 := hid (show (P.drop 1).length ≤ 4194304 by rw [List.length_drop]; omega)
            have hW0 := (Below.refl wd.heap.size wd).drew
            obtain ⟨XG, hXG⟩ : ∃ X : Option Addr, X = (if c = 1 then some ⟨bg, og, none⟩ else some ⟨bg, og + 1, none⟩) := ⟨_, rfl⟩
            have SXG := hid (fun (w1 : World) (B1 : Nat) (h : Sees w1 B1 (some ⟨bg, og, none⟩) (boos gs)) => (show Sees w1 B1 XG (boos (gs.drop 1)) by rw [hXG]; split; exact sees_boos_end (by omega); exact sees_boos_drop h))
            have rXG : (if c = 1 then some (⟨bg, og, none⟩ : Addr) else some ⟨bg, og + 1, none⟩) = XG := hXG.symm
            have tXG : (if 1 = c then some (⟨bg, og, none⟩ : Addr) else some ⟨bg, og + 1, none⟩) = XG := by rw [hXG]; by_cases e : c = 1 <;> simp [e, eq_comm]
            clear hXG
            obtain ⟨XT, hXT⟩ : ∃ X : Option Addr, X = (if cT = 1 then some ⟨bt, ot, none⟩ else some ⟨bt, ot + 1, none⟩) := ⟨_, rfl⟩
            have SXT := hid (fun (w1 : World) (B1 : Nat) (h : Sees w1 B1 (some ⟨bt, ot, none⟩) (ints ts)) => (show Sees w1 B1 XT (ints (ts.drop 1)) by rw [hXT]; split; exact sees_ints_end (by omega); exact sees_ints_drop h))
            have rXT : (if cT = 1 then some (⟨bt, ot, none⟩ : Addr) else some ⟨bt, ot + 1, none⟩) = XT := hXT.symm
            have tXT : (if 1 = cT then some (⟨bt, ot, none⟩ : Addr) else some ⟨bt, ot + 1, none⟩) = XT := by rw [hXT]; by_cases e : cT = 1 <;> simp [e, eq_comm]
            clear hXT
            obtain ⟨XP, hXP⟩ : ∃ X : Option Addr, X = (if c1 = 1 then some ⟨bp, op, none⟩ else some ⟨bp, op + 1, none⟩) := ⟨_, rfl⟩
            have SXP := hid (fun (w1 : World) (B1 : Nat) (h : Sees w1 B1 (some ⟨bp, op, none⟩) (ints P)) => (show Sees w1 B1 XP (ints (P.drop 1)) by rw [hXP]; split; exact sees_ints_end (by omega); exact sees_ints_drop h))
            have rXP : (if c1 = 1 then some (⟨bp, op, none⟩ : Addr) else some ⟨bp, op + 1, none⟩) = XP := hXP.symm
            have tXP : (if 1 = c1 then some (⟨bp, op, none⟩ : Addr) else some ⟨bp, op + 1, none⟩) = XP := by rw [hXP]; by_cases e : c1 = 1 <;> simp [e, eq_comm]
            clear hXP
            clear htl hPl h0 hcp1 hcg hct hg12
            obtain ⟨a0, a1, a2, a3, a4, al⟩ := pn.brk
            go_wp2_with fail
            go_region_held3 (fun w' => w'.cell? ⟨gn, 0, none⟩ = some (.int .i64 N.li) ∧ w'.cell? ⟨gn, 1, none⟩ = some (.int .i64 N.re) ∧ w'.cell? ⟨gn, 2, none⟩ = some (.int .i64 N.st) ∧ w'.cell? ⟨gn, 3, none⟩ = some (.int .i64 N.fa) ∧ w'.cell? ⟨gn, 4, none⟩ = some (.int .i64 N.si) ∧ w'.cell? ⟨bp, op, none⟩ = some (.int .i64 N.st))
              (first | with_reducible exact ⟨a0, a1, a2, a3, a4, ep⟩ | with_reducible exact ⟨y0, y1, y2, y3, y4, yp⟩ | with_reducible exact ⟨z0, z1, z2, z3, z4, zp⟩ | go_keep)
              (first
                | (go_at_call 6; with_reducible refine (iBreakerPath_len HLg.out HLt.out (SXG.out _ _ (dl.below hW0).sees) (SXT.out _ _ (sg.below hW0).sees) HLg4.out HLt4.out).mono ?_; rintro e wy ⟨v, rfl, ho4, hb⟩; rw [HPD.out] at ho4; obtain ⟨A4, c4, rfl, _⟩ := ho4.form; have hWy := hW0.trans (hb.mono hW0.size); obtain ⟨y0, y1, y2, y3, y4, yl⟩ := (pn.below hWy pn.lt).brk; have yp := (hWy.cell (p := ⟨bp, op, none⟩) hbp).trans ep)
                | (go_at_call 7; with_reducible refine (bEq_len (P := P.drop 1) (Q := P.drop 1) (by first | rfl | exact List.length_drop) HLp.out (Sees.of_own ho4.out) (SXP.out _ _ (ho1.below hWy).sees) rfl HLp4.out).mono ?_; rintro e wz ⟨rfl, hb⟩; have hWz := hWy.trans (hb.mono hWy.size); obtain ⟨z0, z1, z2, z3, z4, zl⟩ := (pn.below hWz pn.lt).brk; have zp := (hWz.cell (p := ⟨bp, op, none⟩) hbp).trans ep)
                | fail)
            all_goals
              go_wp2
              go_ret
              exact ⟨by simp, (dl.below hWz).bel⟩
end Go.Proofs.Ytmaocmgnkdieeab

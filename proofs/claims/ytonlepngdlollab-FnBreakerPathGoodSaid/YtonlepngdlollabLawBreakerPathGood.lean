/-
  The walk of the law FnBreakerPathGood: at every code it returns true and changes nothing that was there. Conditions: none.
-/
import Derived.Test.YtonlepngdlollabLawBk
import Derived.Test.YtonlepngdlollabLawFrame
import Derived.BigQuiet
import Derived.Test.YtonlepngdlollabBrkGoodMath
namespace Go.Proofs.Ytonlepngdlollab
open Go.RowKit Brk

set_option maxHeartbeats 8000000 in
theorem walkBreakerPathGood (a : Option Addr) (len cap : Nat) (zs : List Int) (w : World) (hn : zs.length = len) (hc : len ≤ cap) (hcc : cap ≤ maxLen) (h : Sees w w.heap.size a (byts zs)) (hz : ∀ y ∈ zs, 0 ≤ y ∧ y ≤ 255) :
    Calls Try.prog 5 #[.slice a len cap] w fun e w' => e = .returned (.bool true) ∧ Below w.heap.size w w' := by
  have HE := hid hn
  have HC := hid hcc
  have HZ := hid hz
  clear hn hcc hz
  by_cases hbig : 1048576 < len
  · go_enter Try.func5, Try.ntmps5
    go_wp2
    go_ret
    exact ⟨rfl, Below.refl _ _⟩
  · go_enter Try.func5, Try.ntmps5
    go_wp2_with fail
    refine (drawBreakerPath_any _ _ _ _ _ h HZ.out HE.out hc (by omega) HC.out).mono ?_
    rintro e w2 ⟨b, A, c, gs, AT, cT, ts, rfl, dl, sg, hts, hct0⟩
    have HT4 := hid (show ts.length ≤ 4194304 from Nat.le_trans hts (by decide))
    have HC2 := hid hct0
    clear hts hct0
    obtain ⟨P, hP⟩ : ∃ P, P = path b gs ts := ⟨_, rfl⟩
    have EP := hid hP.symm
    have HP4 := hid (show P.length ≤ 4194304 by rw [hP]; exact Nat.le_trans (path_len _ _ _) (by decide))
    clear hP
    by_cases h0 : P.length = 0
    · skip
      have hs6 : ((P.length : Int) == 0) = true := by rw [h0]; rfl
      clear h0
      replace dl := dl.alloc (.cells #[.int .i64 b.li, .int .i64 b.re, .int .i64 b.st, .int .i64 b.fa, .int .i64 b.si] 24)
      replace sg := sg.alloc (.cells #[.int .i64 b.li, .int .i64 b.re, .int .i64 b.st, .int .i64 b.fa, .int .i64 b.si] 24)
      have px := At.new w2 24 #[.int .i64 b.li, .int .i64 b.re, .int .i64 b.st, .int .i64 b.fa, .int .i64 b.si]
      obtain ⟨px0, px1, px2, px3, px4, pxl⟩ := px.brk
      go_wp2_with fail
      refine (iBreakerPath_any A AT c cT gs ts b _ dl.sees sg.sees dl.n4 HT4.out).mono ?_
      rintro e w3 ⟨v, rfl, ho1, hb⟩
      rw [EP.out] at ho1
      obtain ⟨A1, c1, rfl, hc1⟩ := own_form ho1.out
      clear hc1
      replace ho1 := (show OwnZ _ _ A1 c1 P from ho1)
      clear px0 px1 px2 px3 px4 pxl
      replace dl := dl.below hb
      replace sg := sg.below hb
      replace px := px.below hb px.lt
      clear hb
      obtain ⟨px0, px1, px2, px3, px4, pxl⟩ := px.brk
      go_wp2_with fail
      refine (sBreakerPath_any A AT c cT gs ts b _ dl.sees sg.sees dl.n4 HT4.out).mono ?_
      rintro e w4 ⟨v, rfl, ho2, hb⟩
      rw [EP.out] at ho2
      obtain ⟨A2, c2, rfl, hc2⟩ := own_form ho2.out
      clear hc2
      replace ho2 := (show OwnZ _ _ A2 c2 P from ho2)
      clear px0 px1 px2 px3 px4 pxl
      replace dl := dl.below hb
      replace sg := sg.below hb
      replace ho1 := ho1.below hb
      replace px := px.below hb px.lt
      clear hb
      obtain ⟨px0, px1, px2, px3, px4, pxl⟩ := px.brk
      go_wp2_with fail
      refine (bEq_same A1 A2 c1 c2 P _ ho1.sees ho2.sees HP4.out).mono ?_
      rintro e w5 ⟨rfl, hb⟩
      clear px0 px1 px2 px3 px4 pxl
      replace dl := dl.below hb
      replace sg := sg.below hb
      replace ho1 := ho1.below hb
      replace ho2 := ho2.below hb
      replace px := px.below hb px.lt
      clear hb
      obtain ⟨px0, px1, px2, px3, px4, pxl⟩ := px.brk
      go_wp2_with fail
      refine (sBreakerPath_any A AT c cT gs ts b _ dl.sees sg.sees dl.n4 HT4.out).mono ?_
      rintro e w6 ⟨v, rfl, ho3, hb⟩
      rw [EP.out] at ho3
      obtain ⟨A3, c3, rfl, hc3⟩ := own_form ho3.out
      clear hc3
      replace ho3 := (show OwnZ _ _ A3 c3 P from ho3)
      clear px0 px1 px2 px3 px4 pxl
      replace dl := dl.below hb
      replace sg := sg.below hb
      replace ho1 := ho1.below hb
      replace ho2 := ho2.below hb
      replace px := px.below hb px.lt
      clear hb
      obtain ⟨px0, px1, px2, px3, px4, pxl⟩ := px.brk
      go_wp2_with fail
      refine (bEq_same A1 A3 c1 c3 P _ ho1.sees ho3.sees HP4.out).mono ?_
      rintro e w7 ⟨rfl, hb⟩
      clear px0 px1 px2 px3 px4 pxl
      replace dl := dl.below hb
      replace sg := sg.below hb
      replace ho1 := ho1.below hb
      replace ho2 := ho2.below hb
      replace ho3 := ho3.below hb
      replace px := px.below hb px.lt
      clear hb
      obtain ⟨px0, px1, px2, px3, px4, pxl⟩ := px.brk
      go_wp2
      go_ret
      exact ⟨rfl, dl.bel⟩
    · skip
      have hs6 : ((P.length : Int) == 0) = false := beq_eq_false_iff_ne.2 (by omega)
      have HB := hid (show pathB b gs ts = true from Classical.byContradiction fun hq => h0 (by rw [← EP.out]; unfold path; rw [if_neg hq]; rfl))
      have H0 := hid h0
      clear h0
      have HPL := hid (show P.length = gs.length by rw [← EP.out]; exact path_len' HB.out)
      have HTL := hid (pathB_iff.1 HB.out).2.1
      have HG12 := hid (pathB_iff.1 HB.out).2.2.1
      replace dl := dl.alloc (.cells #[.int .i64 b.li, .int .i64 b.re, .int .i64 b.st, .int .i64 b.fa, .int .i64 b.si] 24)
      replace sg := sg.alloc (.cells #[.int .i64 b.li, .int .i64 b.re, .int .i64 b.st, .int .i64 b.fa, .int .i64 b.si] 24)
      have px := At.new w2 24 #[.int .i64 b.li, .int .i64 b.re, .int .i64 b.st, .int .i64 b.fa, .int .i64 b.si]
      obtain ⟨px0, px1, px2, px3, px4, pxl⟩ := px.brk
      go_wp2_with fail
      refine (iBreakerPath_any A AT c cT gs ts b _ dl.sees sg.sees dl.n4 HT4.out).mono ?_
      rintro e w3 ⟨v, rfl, ho1, hb⟩
      rw [EP.out] at ho1
      obtain ⟨A1, c1, rfl, hc1⟩ := own_form ho1.out
      clear hc1
      replace ho1 := (show OwnZ _ _ A1 c1 P from ho1)
      clear px0 px1 px2 px3 px4 pxl
      replace dl := dl.below hb
      replace sg := sg.below hb
      replace px := px.below hb px.lt
      clear hb
      obtain ⟨px0, px1, px2, px3, px4, pxl⟩ := px.brk
      go_wp2_with fail
      refine (sBreakerPath_any A AT c cT gs ts b _ dl.sees sg.sees dl.n4 HT4.out).mono ?_
      rintro e w4 ⟨v, rfl, ho2, hb⟩
      rw [EP.out] at ho2
      obtain ⟨A2, c2, rfl, hc2⟩ := own_form ho2.out
      clear hc2
      replace ho2 := (show OwnZ _ _ A2 c2 P from ho2)
      clear px0 px1 px2 px3 px4 pxl
      replace dl := dl.below hb
      replace sg := sg.below hb
      replace ho1 := ho1.below hb
      replace px := px.below hb px.lt
      clear hb
      obtain ⟨px0, px1, px2, px3, px4, pxl⟩ := px.brk
      go_wp2_with fail
      refine (bEq_same A1 A2 c1 c2 P _ ho1.sees ho2.sees HP4.out).mono ?_
      rintro e w5 ⟨rfl, hb⟩
      clear px0 px1 px2 px3 px4 pxl
      replace dl := dl.below hb
      replace sg := sg.below hb
      replace ho1 := ho1.below hb
      replace ho2 := ho2.below hb
      replace px := px.below hb px.lt
      clear hb
      clear ho2
      obtain ⟨i0, hi0, hz0, hz1, hz2⟩ := info_parts booInfo
      have hg12 := HG12.out
      have ot0 : OwnT (w5.alloc (.cells #[] 4)) w5.heap.size (.slice (some ⟨w5.heap.size, 0, none⟩) 0 0) [] := made_at 4 1 rfl (Nat.le_refl _)
      have hb0 := (Below.refl w5.heap.size w5).alloc (Nat.le_refl _) (.cells #[] 4)
      obtain ⟨px0, px1, px2, px3, px4, pxl⟩ := px.brk
      go_wp2_with fail
      go_loopw [7, 8] (fun v i wr => ∃ (A3 : Option Addr) (c3 : Nat) (l : List Bool), l.length ≤ gs.length ∧ i = .int .i64 l.length ∧ v = .slice A3 l.length c3 ∧ OwnT wr w5.heap.size v l ∧ Hid (∀ x ∈ l, x = true) ∧ Below w5.heap.size w5 wr) (fun _ i _ => gs.length - (intOf i).toNat)
      case atStart => exact ⟨_, _, [], Nat.zero_le _, rfl, rfl, ot0, hid (by simp), hb0⟩
      case round =>
        clear px0 px1 px2 px3 px4 pxl
        clear ot0 hb0
        obtain ⟨A3, c3, l, hk, rfl, rfl, ot, HA, hb⟩ := hrel
        have hz := hb.size
        by_cases hlt : l.length < gs.length
        · skip
          have hi : (l.length : Int) < (gs.length : Int) := by omega
          have hlow := ot.out.lt
          go_wp2_with (at_builtin; refine wpList_append_own _ rfl _ _ 25 rfl w5.heap.size 4 i0 (.bool false) 1 1 Try.underlying25 hi0 hz0 hz1 hz2 rfl (by decide) _ _ _ rfl (own_alloc ot.out _) ⟨wr.heap.size, 0, none⟩ 1 1 [.bool true] rfl rfl (by simpa using cells_new wr [.bool true] _) ?c2 ?c3 ?c4 ?c5 ?_)
          case c2 => simp [Value.oneCell']
          case c3 => unfold maxLen; omega
          case c4 => omega
          case c5 => simp; omega
          case _ =>
            intro v6 w6 h6 hg7 _
            have ot6 : OwnT w6 w5.heap.size v6 (l ++ [true]) := by unfold OwnT; rw [boos_app, List.length_append]; exact h6
            have hb6 : Below w5.heap.size (wr.alloc (.cells #[.bool true] 4)) w6 := (Below.refl _ _).grown hg7 (by simp; omega) (fun q hq => (hlow q hq).1)
            have hbw := (hb.alloc hb.size (.cells #[.bool true] 4)).trans hb6
            obtain ⟨A6, c6, rfl, _, _, _⟩ := OwnT.form ot6
            have e6 : (l ++ [true]).length = l.length + 1 := by simp
            clear h6 hg7 hlow ot hb hb6
            go_wp2
            go_roundw
            case rel => exact ⟨A6, c6, l ++ [true], by rw [e6]; omega, by rw [e6]; go_num, by rw [e6], ot6, hid (fun x hx => (List.mem_append.1 hx).elim (HA.out x) (fun h => by simpa using h)), hbw⟩
            case measure => simp [intOf]; omega
        · skip
          have hi : ¬ (l.length : Int) < (gs.length : Int) := by omega
          have hle : l.length = gs.length := by omega
          have HLE := hid hle
          have hpg := path_good HB.out hle HA.out
          obtain ⟨Q, hQ⟩ : ∃ Q, Q = path ⟨b.li, b.re, 0, 0, b.si⟩ l ts := ⟨_, rfl⟩
          rw [← hQ] at hpg
          have EQ := hid hQ.symm
          have HQL := hid hpg.1
          have HQ0 := hid hpg.2
          clear hQ hpg hle
          have HL4 := hid (show l.length ≤ 4194304 by omega)
          replace dl := dl.below hb
          replace sg := sg.below hb
          replace ho1 := ho1.below hb
          replace px := px.below hb px.lt
          obtain ⟨px0, px1, px2, px3, px4, pxl⟩ := px.brk
          go_wp2_with fail
          refine (iBreakerPath_any A3 AT c3 cT l ts ⟨b.li, b.re, 0, 0, b.si⟩ _ ot.sees sg.sees HL4.out HT4.out).mono ?_
          rintro e w6 ⟨v, rfl, ho4, hb⟩
          rw [EQ.out] at ho4
          obtain ⟨A4, c4, rfl, hc4⟩ := own_form ho4.out
          clear hc4
          replace ho4 := (show OwnZ _ _ A4 c4 Q from ho4)
          clear px0 px1 px2 px3 px4 pxl
          replace dl := dl.below hb
          replace sg := sg.below hb
          replace ho1 := ho1.below hb
          replace px := px.below hb px.lt
          clear hb
          clear ot hz hi hlt hk
          have hq12 : Q.length ≤ 12 := by have := HQL.out; omega
          go_wp2
          go_loopw [10] (fun i wr => ∃ k : Nat, k ≤ Q.length ∧ i = .int .i64 k ∧ Below w6.heap.size w6 wr) (fun i _ => Q.length - (intOf i).toNat)
          case atStart => exact ⟨0, Nat.zero_le _, rfl, Below.refl _ _⟩
          case round =>
            obtain ⟨k, hk, rfl, hbr⟩ := hrel
            replace dl := dl.below hbr
            replace sg := sg.below hbr
            replace ho1 := ho1.below hbr
            replace ho4 := ho4.below hbr
            by_cases hlt : k < Q.length
            · skip
              have hi : (k : Int) < (Q.length : Int) := by omega
              have hi0 : (0 : Int) ≤ (k : Int) := by omega
              obtain ⟨bb, o, rfl, hbl, e0⟩ := ho4.sees.int hlt
              rw [HQ0.out _ (List.getElem_mem hlt)] at e0
              go_wp2
              go_roundw
              case rel => exact ⟨k + 1, by omega, by go_num, hbr⟩
              case measure => simp [intOf]; omega
            · skip
              have hi : ¬ (k : Int) < (Q.length : Int) := by omega
              have qe : ((Q.length : Int) == (gs.length : Int)) = true := by have := HQL.out; simp; omega
              go_wp2
              go_ret
              exact ⟨by simp, dl.bel⟩
end Go.Proofs.Ytonlepngdlollab

/-
  What the program's BreakerPath answers. Condition: the lists lie in memory.
-/
import Derived.Test.YtmaocmgnkdieeabBrkP
import Derived.Test.YtmaocmgnkdieeabBrkQ0
import Derived.Deep.RegionLaw
namespace Go.Proofs.Ytmaocmgnkdieeab
open Go.RowKit Brk

theorem Own.past5 {w w' : World} {base g : Nat} {v : Value} {ys : List Int} {t : TypeId} {cs : Array Value} (h : Own w base v ys) (ha : At w g t cs) (ht : t ≠ 3) (hg : w.grownBy w' (some g)) : Own w' base v ys :=
  h.out.kept hg (.inr (h.ne5 ha ht))

set_option maxHeartbeats 4000000 in
theorem iBreakerPath_any (A1 A2 : Option Addr) (c1 c2 : Nat) (gs : List Bool) (ts : List Int) (b : Br) (w : World) (h1 : Sees w w.heap.size A1 (boos gs)) (h2 : Sees w w.heap.size A2 (ints ts)) (n1 : gs.length ≤ 4194304) (n2 : ts.length ≤ 4194304) :
    Calls Try.prog 6 #[.agg #[.int .i64 b.li, .int .i64 b.re, .int .i64 b.st, .int .i64 b.fa, .int .i64 b.si], .slice A1 gs.length c1, .slice A2 ts.length c2] w fun e w' => ∃ v, e = .returned v ∧ Own w' w.heap.size v (path b gs ts) ∧ Below w.heap.size w w' := by
  obtain ⟨i0, hi0, hz0, hz1, hz2⟩ := info_parts intInfo
  have H1 := hid n1
  have H2 := hid n2
  clear n1 n2
  have px0 := At.new w 24 #[.int .i64 b.li, .int .i64 b.re, .int .i64 b.st, .int .i64 b.fa, .int .i64 b.si]
  have hB0 := (Below.refl w.heap.size w).alloc (Nat.le_refl _) (.cells #[.int .i64 b.li, .int .i64 b.re, .int .i64 b.st, .int .i64 b.fa, .int .i64 b.si] 24)
  by_cases hl : gs.length ≤ 12
  · by_cases hm : ts.length = gs.length
    · have hli : ¬ (gs.length : Int) > 12 := by omega
      have hmi : ((ts.length : Int) != (gs.length : Int)) = false := by simp [hm]
      have HE := hid hm
      clear hm
      rcases hv : okB b with _ | _
      · have HV := hid hv
        have E0 := hid (path_no (b := b) (gs := gs) (ts := ts) (fun h => by rw [okB_iff.2 h.1] at hv; cases hv))
        clear hv
        go_enter Try.func6, Try.ntmps6
        go_wp2_with fail
        with_reducible refine (iValidBreaker_any b _).mono ?_
        rintro e w1 ⟨he, hb1⟩
        rw [HV.out] at he
        subst he
        have px1 := px0.below hb1 px0.lt
        have hB1 := hB0.trans (hb1.mono hB0.size)
        clear px0 hB0 hb1
        obtain ⟨p0, p1, p2, p3, p4, pl⟩ := px1.brk
        have h1w := (h1.below hB1).more hB1.size
        have h2w := (h2.below hB1).more hB1.size
        go_wp2
        go_ret
        exact ⟨_, rfl, by rw [E0.out]; exact Own.none_ _ _, hB1⟩
      · have HV := hid hv
        rcases hw : allB ts b.si 1000 with _ | _
        · have HW := hid hw
          have E0 := hid (path_no (b := b) (gs := gs) (ts := ts) (fun h => by rw [allB_iff.2 h.2.2.2.1] at hw; cases hw))
          clear hv hw
          go_enter Try.func6, Try.ntmps6
          go_wp2_with fail
          with_reducible refine (iValidBreaker_any b _).mono ?_
          rintro e w1 ⟨he, hb1⟩
          rw [HV.out] at he
          subst he
          have px1 := px0.below hb1 px0.lt
          have hB1 := hB0.trans (hb1.mono hB0.size)
          clear px0 hB0 hb1
          obtain ⟨p0, p1, p2, p3, p4, pl⟩ := px1.brk
          have h1w := (h1.below hB1).more hB1.size
          have h2w := (h2.below hB1).more hB1.size
          go_wp2_with fail
          with_reducible refine (allWithin_any A2 c2 ts b.si 1000 _ h2w H2.out).mono ?_
          rintro e w' ⟨he, rfl⟩
          rw [HW.out] at he
          subst he
          go_wp2
          go_ret
          exact ⟨_, rfl, by rw [E0.out]; exact Own.none_ _ _, hB1⟩
        · have HW := hid hw
          rcases hf : nofall ts with _ | _
          · have HF := hid hf
            have E0 := hid (path_no (b := b) (gs := gs) (ts := ts) (fun h => by rw [h.2.2.2.2] at hf; cases hf))
            clear hv hw hf
            go_enter Try.func6, Try.ntmps6
            go_wp2_with fail
            with_reducible refine (iValidBreaker_any b _).mono ?_
            rintro e w1 ⟨he, hb1⟩
            rw [HV.out] at he
            subst he
            have px1 := px0.below hb1 px0.lt
            have hB1 := hB0.trans (hb1.mono hB0.size)
            clear px0 hB0 hb1
            obtain ⟨p0, p1, p2, p3, p4, pl⟩ := px1.brk
            have h1w := (h1.below hB1).more hB1.size
            have h2w := (h2.below hB1).more hB1.size
            go_wp2_with fail
            with_reducible refine (allWithin_any A2 c2 ts b.si 1000 _ h2w H2.out).mono ?_
            rintro e w' ⟨he, rfl⟩
            rw [HW.out] at he
            subst he
            go_wp2_with fail
            with_reducible refine (neverFalls_any A2 c2 ts _ h2w H2.out).mono ?_
            rintro e w2 ⟨he, hb2⟩
            rw [HF.out] at he
            subst he
            have px2 := px1.below hb2 px1.lt
            have hB2 := hB1.trans (hb2.mono hB1.size)
            clear px1 hB1 hb2 h1w h2w p0 p1 p2 p3 p4 pl
            obtain ⟨p0, p1, p2, p3, p4, pl⟩ := px2.brk
            go_wp2
            go_ret
            exact ⟨_, rfl, by rw [E0.out]; exact Own.none_ _ _, hB2⟩
          · have HF := hid hf
            have hp : PathOk b gs ts := ⟨okB_iff.1 hv, HE.out, hl, allB_iff.1 hw, hf⟩
            have HP := hid hp
            have E0 := hid (path_yes hp)
            clear hv hw hf hp
            go_enter Try.func6, Try.ntmps6
            go_wp2_with fail
            with_reducible refine (iValidBreaker_any b _).mono ?_
            rintro e w1 ⟨he, hb1⟩
            rw [HV.out] at he
            subst he
            have px1 := px0.below hb1 px0.lt
            have hB1 := hB0.trans (hb1.mono hB0.size)
            clear px0 hB0 hb1
            obtain ⟨p0, p1, p2, p3, p4, pl⟩ := px1.brk
            have h1w := (h1.below hB1).more hB1.size
            have h2w := (h2.below hB1).more hB1.size
            go_wp2_with fail
            with_reducible refine (allWithin_any A2 c2 ts b.si 1000 _ h2w H2.out).mono ?_
            rintro e w' ⟨he, rfl⟩
            rw [HW.out] at he
            subst he
            go_wp2_with fail
            with_reducible refine (neverFalls_any A2 c2 ts _ h2w H2.out).mono ?_
            rintro e w2 ⟨he, hb2⟩
            rw [HF.out] at he
            subst he
            have px2 := px1.below hb2 px1.lt
            have hB2 := hB1.trans (hb2.mono hB1.size)
            clear px1 hB1 hb2 h1w h2w p0 p1 p2 p3 p4 pl
            obtain ⟨p0, p1, p2, p3, p4, pl⟩ := px2.brk
            have po := At.new w2 24 #[.int .i64 b.li, .int .i64 b.re, .int .i64 b.st, .int .i64 b.fa, .int .i64 b.si]
            have hB3 := hB2.alloc hB2.size (.cells #[.int .i64 b.li, .int .i64 b.re, .int .i64 b.st, .int .i64 b.fa, .int .i64 b.si] 24)
            have hzw := hB2.size
            go_wp2
            go_loopw [7, 39] (fun v i wr => ∃ k : Nat, k ≤ gs.length ∧ i = .int .i64 k ∧ Own wr w.heap.size v (states b gs ts k) ∧ At wr w2.heap.size 24 #[.int .i64 (brAt b gs ts k).li, .int .i64 (brAt b gs ts k).re, .int .i64 (brAt b gs ts k).st, .int .i64 (brAt b gs ts k).fa, .int .i64 (brAt b gs ts k).si] ∧ Below w.heap.size w wr) (fun _ i _ => gs.length - (intOf i).toNat)
            case atStart => exact ⟨0, Nat.zero_le _, rfl, Own.none_ _ _, po, hB3⟩
            case round =>
              clear po hB3 hB2 px2 p0 p1 p2 p3 p4 pl
              obtain ⟨k, hk, rfl, ho, hat, hb⟩ := hrel
              have hl12 := hl
              by_cases hlt : k < gs.length
              · have hi : (k : Int) < (gs.length : Int) := by omega
                have hlt2 : k < ts.length := by have := HE.out; omega
                have hi2 : (k : Int) < (ts.length : Int) := by omega
                obtain ⟨a1, o1, rfl, hl1, e1⟩ := (h1.below hb).boo hlt
                obtain ⟨a2, o2, rfl, hl2, e2⟩ := (h2.below hb).int hlt2
                have HM := hid (brAt_mom HP.out hlt hlt2)
                have HS := hid (brAt_step (b := b) (gs := gs) (ts := ts) hlt hlt2)
                have HT := hid (states_succ b gs ts k)
                have HL := hid (states_len b gs ts k)
                obtain ⟨X, hX⟩ : ∃ X, X = brAt b gs ts k := ⟨_, rfl⟩
                obtain ⟨g, hg⟩ : ∃ g, g = gs[k] := ⟨_, rfl⟩
                obtain ⟨t, ht⟩ : ∃ t, t = ts[k] := ⟨_, rfl⟩
                rw [← hX, ← ht] at HM
                rw [← hX, ← hg, ← ht] at HS
                rw [← hX] at hat
                rw [← hg] at e1
                rw [← ht] at e2
                obtain ⟨Y, hY⟩ : ∃ Y, Y = once X g t := ⟨_, rfl⟩
                rw [← hY] at HS
                have HY : Hid (once X g t = Y) := hid hY.symm
                rw [HS.out] at HT
                obtain ⟨R, hR⟩ : ∃ R, R = states b gs ts k := ⟨_, rfl⟩
                rw [← hR] at HT HL ho
                clear hX hg ht hY hR
                obtain ⟨p0, p1, p2, p3, p4, pl⟩ := hat.brk
                have hbd := hb.drew
                have had := hat.drew
                have hod := ho.below (Below.refl wr.heap.size wr).drew
                have hz := hb.size
                go_wp2_with fail
                go_region_law
                  (first
                    | (go_simp; go_at_call 21; (with_reducible refine (callOnce_any X g t _ HM.out).mono ?_); rintro e w3 ⟨he, hb3⟩; rw [HY.out] at he; subst he; have hat3 := had.below hb3 had.lt; have ho3 := hod.below hb3; have hbw3 := hbd.trans (hb3.mono hbd.size); have e3 := (hb3.cell (p := ⟨a2, o2 + k, none⟩) (Nat.lt_of_lt_of_le hl2 hbd.size)).trans e2; obtain ⟨q0, q1, q2, q3, q4, ql⟩ := hat3.brk; have qf := hat3.frozen)
                    | fail)
                all_goals
                  obtain ⟨hat4, hg4⟩ := brk_put Y hat3
                  have ho4 := ho3.past5 hat3 (by decide) hg4
                  have hbw4 := hbw3.grown hg4 hbw3.size (fun q hq => by injection hq with hq; omega)
                  obtain ⟨W4, hW4⟩ : ∃ W4, W4 = (((((w3.setCell ⟨w2.heap.size, 0, none⟩ (.int .i64 Y.li)).setCell ⟨w2.heap.size, 1, none⟩ (.int .i64 Y.re)).setCell ⟨w2.heap.size, 2, none⟩ (.int .i64 Y.st)).setCell ⟨w2.heap.size, 3, none⟩ (.int .i64 Y.fa)).setCell ⟨w2.heap.size, 4, none⟩ (.int .i64 Y.si)) := ⟨_, rfl⟩
                  rw [← hW4] at hat4 ho4 hbw4 ⊢
                  clear hW4 hg4 hat3 ho3 hbw3 e3 q0 q1 q2 q3 q4 ql qf hat ho hb hbd had hod p0 p1 p2 p3 p4 pl e1 e2
                  obtain ⟨p0, p1, p2, p3, p4, pl⟩ := hat4.brk
                  have hL := HL.out
                  have hz4 := hbw4.size
                  go_wp2_with (at_builtin; refine wpList_append_own _ rfl _ _ 26 rfl w.heap.size 3 i0 (.int .i64 0) 1 8 Try.underlying26 hi0 hz0 hz1 hz2 rfl (by decide) _ _ _ rfl (ho4.alloc5 _).out ⟨W4.heap.size, 0, none⟩ 1 1 [.int .i64 Y.st] rfl rfl (cell_one_new _ _ _) ?c2 ?c3 ?c4 ?c5 ?_)
                  case c2 => simp [Value.oneCell']
                  case c3 => unfold maxLen; omega
                  case c4 => omega
                  case c5 => simp; omega
                  case _ =>
                    intro v1 w5 h5 hg5 _
                    have hne4 := ho4.ne5 hat4 (by decide)
                    have hat5 := (hat4.alloc (.cells #[.int .i64 Y.st] 3)).grown hg5 (fun e => hne4 e.symm)
                    obtain ⟨ho5, hb5⟩ := ho4.snoc (x := Y.st) hbw4 (Nat.le_refl _) (by rw [HL.out]; exact h5) hg5
                    clear h5 hg5 hne4 hat4 ho4 hbw4 p0 p1 p2 p3 p4 pl
                    go_wp2
                    go_roundw
                    case rel => exact ⟨k + 1, by omega, by go_num, by rw [HT.out]; exact ho5, by rw [HS.out]; exact hat5, hb5⟩
                    case measure => simp [intOf]; omega
              · have hi : ¬ (k : Int) < (gs.length : Int) := by omega
                have hke : k = gs.length := by omega
                rw [hke, ← E0.out] at ho
                clear hke
                go_wp2
                go_ret
                exact ⟨_, rfl, ho, hb⟩
    · have hmi : ((ts.length : Int) != (gs.length : Int)) = true := by simpa using (show ¬ (ts.length : Int) = (gs.length : Int) by omega)
      have hli : ¬ (gs.length : Int) > 12 := by omega
      have E0 := hid (path_no (b := b) (gs := gs) (ts := ts) (fun h => hm h.2.1))
      go_enter Try.func6, Try.ntmps6
      go_wp2
      go_ret
      exact ⟨_, rfl, by rw [E0.out]; exact Own.none_ _ _, hB0⟩
  · have hli : (gs.length : Int) > 12 := by omega
    have E0 := hid (path_no (b := b) (gs := gs) (ts := ts) (fun h => hl h.2.2.1))
    go_enter Try.func6, Try.ntmps6
    go_wp2
    go_ret
    exact ⟨_, rfl, by rw [E0.out]; exact Own.none_ _ _, hB0⟩

end Go.Proofs.Ytmaocmgnkdieeab

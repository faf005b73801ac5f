/-
  What the model's BreakerPath answers. Condition: the lists lie in memory.
-/
import Derived.Test.YtmaocmgnkdieeabBrkQ
import Derived.Deep.RegionHeld3
import Derived.Deep.CutRange
namespace Go.Proofs.Ytmaocmgnkdieeab
open Go.RowKit Brk

set_option maxHeartbeats 4000000 in
theorem sBreakerPath_any (A1 A2 : Option Addr) (c1 c2 : Nat) (gs : List Bool) (ts : List Int) (b : Br) (w : World) (h1 : Sees w w.heap.size A1 (boos gs)) (h2 : Sees w w.heap.size A2 (ints ts)) (n1 : gs.length ≤ 4194304) (n2 : ts.length ≤ 4194304) :
    Calls Try.prog 8 #[.agg #[.int .i64 b.li, .int .i64 b.re, .int .i64 b.st, .int .i64 b.fa, .int .i64 b.si], .slice A1 gs.length c1, .slice A2 ts.length c2] w fun e w' => ∃ v, e = .returned v ∧ Own w' w.heap.size v (path b gs ts) ∧ Below w.heap.size w w' := by
  obtain ⟨i0, hi0, hz0, hz1, hz2⟩ := info_parts intInfo
  have H1 := hid n1
  have H2 := hid n2
  clear n1 n2
  have px0 := At.new w 24 #[.int .i64 b.li, .int .i64 b.re, .int .i64 b.st, .int .i64 b.fa, .int .i64 b.si]
  have hB0 := (Below.refl w.heap.size w).alloc (Nat.le_refl _) (.cells #[.int .i64 b.li, .int .i64 b.re, .int .i64 b.st, .int .i64 b.fa, .int .i64 b.si] 24)
  have ho0 := (Own.made (w.alloc (.cells #[.int .i64 b.li, .int .i64 b.re, .int .i64 b.st, .int .i64 b.fa, .int .i64 b.si] 24)) w.heap.size (by simp)).out
  rcases hv : okB b with _ | _
  · have HV := hid hv
    have E0 := hid (path_no (b := b) (gs := gs) (ts := ts) (fun h => by rw [okB_iff.2 h.1] at hv; cases hv))
    clear hv
    go_enter Try.func8, Try.ntmps8
    have px0b := px0.alloc (.cells #[] 3)
    have hB0b := hB0.alloc hB0.size (.cells #[] 3)
    go_wp2_with fail
    with_reducible refine (svalidBreaker_any b _).mono ?_
    rintro e w1 ⟨he, hb1⟩
    rw [HV.out] at he
    subst he
    have ho1 := own_below ho0 hb1
    have px1 := px0b.below hb1 px0b.lt
    have hB1 := hB0b.trans (hb1.mono hB0b.size)
    clear px0 hB0 hb1 px0b hB0b ho0
    obtain ⟨p0, p1, p2, p3, p4, pl⟩ := px1.brk
    have h1w := (h1.below hB1).more hB1.size
    have h2w := (h2.below hB1).more hB1.size
    go_wp2
    go_ret
    exact ⟨_, rfl, by rw [E0.out]; exact Own.none_ _ _, hB1⟩
  · have HV := hid hv
    by_cases hm : ts.length = gs.length
    · have hmi : ((gs.length : Int) != (ts.length : Int)) = false := by simp [hm]
      have HE := hid hm
      by_cases hl : gs.length ≤ 12
      · have hli : ¬ (gs.length : Int) > 12 := by omega
        rcases hw : allB ts b.si 1000 with _ | _
        · have HW := hid hw
          have E0 := hid (path_no (b := b) (gs := gs) (ts := ts) (fun h => by rw [allB_iff.2 h.2.2.2.1] at hw; cases hw))
          clear hv hw hm
          go_enter Try.func8, Try.ntmps8
          have px0b := px0.alloc (.cells #[] 3)
          have hB0b := hB0.alloc hB0.size (.cells #[] 3)
          go_wp2_with fail
          with_reducible refine (svalidBreaker_any b _).mono ?_
          rintro e w1 ⟨he, hb1⟩
          rw [HV.out] at he
          subst he
          have ho1 := own_below ho0 hb1
          have px1 := px0b.below hb1 px0b.lt
          have hB1 := hB0b.trans (hb1.mono hB0b.size)
          clear px0 hB0 hb1 px0b hB0b ho0
          obtain ⟨p0, p1, p2, p3, p4, pl⟩ := px1.brk
          have h1w := (h1.below hB1).more hB1.size
          have h2w := (h2.below hB1).more hB1.size
          go_wp2_with fail
          with_reducible refine (allIn_any A2 c2 ts b.si 1000 _ h2w (Nat.le_trans H2.out (by decide))).mono ?_
          rintro e w' ⟨he, rfl⟩
          rw [HW.out] at he
          subst he
          go_wp2
          go_ret
          exact ⟨_, rfl, by rw [E0.out]; exact Own.none_ _ _, hB1⟩
        · have HW := hid hw
          have HP := hid (fun (hf : nofall ts = true) => (show PathOk b gs ts from ⟨okB_iff.1 hv, hm, hl, allB_iff.1 hw, hf⟩))
          have HNo := hid (fun (hf : nofall ts = false) => path_no (b := b) (gs := gs) (ts := ts) (fun h => by rw [h.2.2.2.2] at hf; cases hf))
          clear hv hw hm
          go_enter Try.func8, Try.ntmps8
          have px0b := px0.alloc (.cells #[] 3)
          have hB0b := hB0.alloc hB0.size (.cells #[] 3)
          go_wp2_with fail
          with_reducible refine (svalidBreaker_any b _).mono ?_
          rintro e w1 ⟨he, hb1⟩
          rw [HV.out] at he
          subst he
          have ho1 := own_below ho0 hb1
          have px1 := px0b.below hb1 px0b.lt
          have hB1 := hB0b.trans (hb1.mono hB0b.size)
          clear px0 hB0 hb1 px0b hB0b ho0
          obtain ⟨p0, p1, p2, p3, p4, pl⟩ := px1.brk
          have h1w := (h1.below hB1).more hB1.size
          have h2w := (h2.below hB1).more hB1.size
          go_wp2_with fail
          with_reducible refine (allIn_any A2 c2 ts b.si 1000 _ h2w (Nat.le_trans H2.out (by decide))).mono ?_
          rintro e w' ⟨he, rfl⟩
          rw [HW.out] at he
          subst he
          go_wp2
          go_loopw [8] (fun i wr => ∃ k : Nat, 1 ≤ k ∧ (k = 1 ∨ k ≤ ts.length) ∧ i = .int .i64 k ∧ Hid (∀ j, j + 1 < k → ts.getD j 0 ≤ ts.getD (j + 1) 0) ∧ wr.ownsRow w.heap.size 3 1 (.slice (some ⟨w.heap.size + 1, 0, none⟩) 0 0) 0 [] ∧ At wr w.heap.size 24 #[.int .i64 b.li, .int .i64 b.re, .int .i64 b.st, .int .i64 b.fa, .int .i64 b.si] ∧ Below w.heap.size w wr) (fun i _ => ts.length - (intOf i).toNat)
          case atStart => exact ⟨1, Nat.le_refl _, .inl rfl, rfl, hid (by omega), by simpa [ints] using ho1, px1, hB1⟩
          case round =>
            clear px1 hB1 ho1 h1w h2w p0 p1 p2 p3 p4 pl
            obtain ⟨k, hk1, hk, rfl, HA, ho, hat, hb⟩ := hrel
            by_cases hlt : k < ts.length
            · have hi : (k : Int) < (ts.length : Int) := by omega
              obtain ⟨m, rfl⟩ : ∃ m, k = m + 1 := ⟨k - 1, by omega⟩
              obtain ⟨a2, o2, rfl, hl2, hc1⟩ := (h2.below hb).int hlt
              obtain ⟨a2', o2', e1, _, hc2⟩ := (h2.below hb).int (show m < ts.length by omega)
              injection e1 with e1
              injection e1 with e1 e2
              subst e1 e2
              have HS := hid (fun (hh : ts[m + 1] < ts[m]) => HNo.out (nofall_no hlt hh))
              have HM := hid (fun (hh : ¬ ts[m + 1] < ts[m]) => nofall_next hlt hh HA.out)
              obtain ⟨x, hx⟩ : ∃ x, x = ts[m + 1] := ⟨_, rfl⟩
              obtain ⟨y, hy⟩ : ∃ y, y = ts[m] := ⟨_, rfl⟩
              rw [← hx] at hc1 HS HM
              rw [← hy] at hc2 HS HM
              clear hx hy HA
              have hm1 : (m : Int) < (ts.length : Int) := by omega
              have hk0 : (0 : Int) ≤ (m : Int) + 1 := by omega
              have hk2 : (m : Int) + 1 < (ts.length : Int) := by omega
              have hkn : ((m : Int) + 1).toNat = m + 1 := by omega
              have hw1 : IntKind.i64.wrap ((m : Int) + 1 - 1) = (m : Int) := by rw [IntKind.wrap_i64]; have := H2.out; omega
              have hw2 : IntKind.i64.wrap (m : Int) = (m : Int) := by rw [IntKind.wrap_i64]; have := H2.out; omega
              have hm0 : (0 : Int) ≤ (m : Int) := by omega
              have hn2 := H2.out
              by_cases hxy : x < y
              · have E0 := hid (HS.out hxy)
                go_wp2
                go_quiet (fail)
                go_wp2
                go_ret
                exact ⟨_, rfl, by rw [E0.out]; exact Own.none_ _ _, below_drewN hb _⟩
              · have HX := hid (HM.out hxy)
                go_wp2
                go_quiet (fail)
                go_wp2
                go_roundw
                case rel => exact ⟨m + 1 + 1, by omega, .inr (by omega), by go_num, HX, ho, hat, below_drewN hb _⟩
                case measure => simp [intOf]; omega
            · have hi : ¬ (k : Int) < (ts.length : Int) := by omega
              have hp := HP.out (nofall_iff.2 fun j hj => HA.out j (by omega))
              have HP2 := hid hp
              have E0 := hid (path_yes hp)
              clear hp HA HP HNo
              go_wp2
              go_loopw [7, 9] (fun v i wr => ∃ k : Nat, k ≤ gs.length ∧ i = .int .i64 k ∧ Own wr w.heap.size v (states b gs ts k) ∧ At wr w.heap.size 24 #[.int .i64 (brAt b gs ts k).li, .int .i64 (brAt b gs ts k).re, .int .i64 (brAt b gs ts k).st, .int .i64 (brAt b gs ts k).fa, .int .i64 (brAt b gs ts k).si] ∧ Below w.heap.size w wr) (fun _ i _ => gs.length - (intOf i).toNat)
              case atStart => exact ⟨0, Nat.zero_le _, rfl, ho, hat, hb⟩
              case round =>
                clear ho hat hb hk hk1 hlt hi
                obtain ⟨k, hk, rfl, ho, hat, hb⟩ := hrel
                by_cases hlt : k < gs.length
                · have hi : (k : Int) < (gs.length : Int) := by omega
                  have hlt2 : k < ts.length := by have := HE.out; omega
                  have hi2 : (k : Int) < (ts.length : Int) := by omega
                  obtain ⟨a1, o1, rfl, hl1, e1⟩ := (h1.below hb).boo hlt
                  obtain ⟨a2, o2, rfl, hl2, e2⟩ := (h2.below hb).int hlt2
                  have hm := brAt_mom HP2.out hlt hlt2
                  have HS := hid (brAt_step (b := b) (gs := gs) (ts := ts) hlt hlt2)
                  have HT := hid (states_succ b gs ts k)
                  have HL := hid (states_len b gs ts k)
                  obtain ⟨X, hX⟩ : ∃ X, X = brAt b gs ts k := ⟨_, rfl⟩
                  obtain ⟨g, hg⟩ : ∃ g, g = gs[k] := ⟨_, rfl⟩
                  obtain ⟨t, ht⟩ : ∃ t, t = ts[k] := ⟨_, rfl⟩
                  rw [← hX, ← ht] at hm
                  rw [← hX, ← hg, ← ht] at HS
                  rw [← hX] at hat
                  rw [← hg] at e1
                  rw [← ht] at e2
                  have HM := hid hm
                  rw [HS.out] at HT
                  obtain ⟨R, hR⟩ : ∃ R, R = states b gs ts k := ⟨_, rfl⟩
                  rw [← hR] at HT HL ho
                  clear hX hg ht hR
                  obtain ⟨p0, p1, p2, p3, p4, pl⟩ := hat.brk
                  have hbd := hb.drew
                  have had := hat.drew
                  have hod := ho.below (Below.refl wr.heap.size wr).drew
                  have hz := hb.size
                  rcases hlx : lets X t with _ | _
                  · have HT2 := hid hlx
                    have HY := once_no (g := g) hlx
                    rw [HY] at HS HT
                    clear hlx HY hm
                    go_wp2_with fail
                    go_region_held3 (fun w' => w'.cell? ⟨w.heap.size, 0, none⟩ = some (.int .i64 X.li) ∧ w'.cell? ⟨w.heap.size, 1, none⟩ = some (.int .i64 X.re) ∧ w'.cell? ⟨w.heap.size, 2, none⟩ = some (.int .i64 X.st) ∧ w'.cell? ⟨w.heap.size, 3, none⟩ = some (.int .i64 X.fa) ∧ w'.cell? ⟨w.heap.size, 4, none⟩ = some (.int .i64 X.si) ∧ w'.cell? ⟨a2, o2 + k, none⟩ = some (.int .i64 t))
                      (first | with_reducible exact ⟨p0, p1, p2, p3, p4, e2⟩ | with_reducible exact ⟨q0, q1, q2, q3, q4, e3⟩ | go_keep)
                      (first
                        | (go_at_call 24; (with_reducible refine (slets_any X t _ HM.out).mono ?_); rintro e w3 ⟨he, hb3⟩; rw [HT2.out] at he; subst he; have hat3 := had.below hb3 had.lt; have ho3 := hod.below hb3; have hbw3 := hbd.trans (hb3.mono hbd.size); have e3 := (hb3.cell (p := ⟨a2, o2 + k, none⟩) (Nat.lt_of_lt_of_le hl2 hbd.size)).trans e2; have e4 := (hb3.cell (p := ⟨a1, o1 + k, none⟩) (Nat.lt_of_lt_of_le hl1 hbd.size)).trans e1; obtain ⟨q0, q1, q2, q3, q4, ql⟩ := hat3.brk)
                        | fail)
                    clear hat ho hb hbd had hod p0 p1 p2 p3 p4 pl e1 e2
                    have hat4 := hat3
                    have ho4 := ho3
                    have hbw4 := hbw3
                    clear hat3 ho3 hbw3 e3 e4 q0 q1 q2 q3 q4 ql
                    obtain ⟨s0, s1, s2, s3, s4, sl⟩ := hat4.brk
                    have hL := HL.out
                    have hz4 := hbw4.size
                    go_wp2_with (at_builtin; refine wpList_append_own _ rfl _ _ 26 rfl w.heap.size 3 i0 (.int .i64 0) 1 8 Try.underlying26 hi0 hz0 hz1 hz2 rfl (by decide) _ _ _ rfl (ho4.alloc5 _).out ⟨w3.heap.size, 0, none⟩ 1 1 [.int .i64 X.st] rfl rfl (cell_one_new _ _ _) ?c2 ?c3 ?c4 ?c5 ?_)
                    case c2 => simp [Value.oneCell']
                    case c3 => unfold maxLen; omega
                    case c4 => omega
                    case c5 => simp; omega
                    case _ =>
                      intro v1 w5 h5 hg5 _
                      have hne4 := ho4.ne5 hat4 (by decide)
                      have hat5 := (hat4.alloc (.cells #[.int .i64 X.st] 3)).grown hg5 (fun e => hne4 e.symm)
                      obtain ⟨ho5, hb5⟩ := ho4.snoc (x := X.st) hbw4 (Nat.le_refl _) (by rw [HL.out]; exact h5) hg5
                      clear h5 hg5 hne4 hat4 ho4 hbw4 s0 s1 s2 s3 s4 sl
                      go_wp2
                      go_roundw
                      case rel => exact ⟨k + 1, by omega, by go_num, by rw [HT.out]; exact ho5, by rw [HS.out]; exact hat5, hb5⟩
                      case measure => simp [intOf]; omega
                  · have HT2 := hid hlx
                    have HY := once_yes (g := g) hlx
                    have hm2 := mom_beg hm
                    obtain ⟨Z, hZ⟩ : ∃ Z, Z = beg X t := ⟨_, rfl⟩
                    rw [← hZ] at HY hm2
                    have HZ : Hid (beg X t = Z) := hid hZ.symm
                    have HM2 := hid hm2
                    obtain ⟨Y, hY⟩ : ∃ Y, Y = fin Z g t := ⟨_, rfl⟩
                    rw [← hY] at HY
                    have HYY : Hid (fin Z g t = Y) := hid hY.symm
                    rw [HY] at HS HT
                    clear hlx HY hm hm2 hZ hY
                    go_wp2_with fail
                    go_region_held3 (fun w' => w'.cell? ⟨w.heap.size, 0, none⟩ = some (.int .i64 X.li) ∧ w'.cell? ⟨w.heap.size, 1, none⟩ = some (.int .i64 X.re) ∧ w'.cell? ⟨w.heap.size, 2, none⟩ = some (.int .i64 X.st) ∧ w'.cell? ⟨w.heap.size, 3, none⟩ = some (.int .i64 X.fa) ∧ w'.cell? ⟨w.heap.size, 4, none⟩ = some (.int .i64 X.si) ∧ w'.cell? ⟨a2, o2 + k, none⟩ = some (.int .i64 t))
                      (first | with_reducible exact ⟨p0, p1, p2, p3, p4, e2⟩ | with_reducible exact ⟨q0, q1, q2, q3, q4, e3⟩ | go_keep)
                      (first
                        | (go_at_call 24; (with_reducible refine (slets_any X t _ HM.out).mono ?_); rintro e w3 ⟨he, hb3⟩; rw [HT2.out] at he; subst he; have hat3 := had.below hb3 had.lt; have ho3 := hod.below hb3; have hbw3 := hbd.trans (hb3.mono hbd.size); have e3 := (hb3.cell (p := ⟨a2, o2 + k, none⟩) (Nat.lt_of_lt_of_le hl2 hbd.size)).trans e2; have e4 := (hb3.cell (p := ⟨a1, o1 + k, none⟩) (Nat.lt_of_lt_of_le hl1 hbd.size)).trans e1; obtain ⟨q0, q1, q2, q3, q4, ql⟩ := hat3.brk)
                        | fail)
                    clear hat ho hb hbd had hod p0 p1 p2 p3 p4 pl e1 e2
                    go_upto_region 13 with fail
                    go_cut [] from 49 to 80 (fun wx => At wx w.heap.size 24 #[.int .i64 Y.li, .int .i64 Y.re, .int .i64 Y.st, .int .i64 Y.fa, .int .i64 Y.si] ∧ Own wx w.heap.size u7 R ∧ Below w.heap.size w wx)
                    case first =>
                      have hat3d := hat3.drew
                      have ho3d := ho3.below (Below.refl _ _).drew
                      have hbw3d := hbw3.drew
                      go_region_law (first
                        | (go_simp; go_at_call 26; (with_reducible refine (sbegin_any X t _).mono ?_); rintro e w5 ⟨he, hb5⟩; rw [HZ.out] at he; subst he; have hat5 := hat3d.below hb5 hat3d.lt; have ho5 := ho3d.below hb5; have hbw5 := hbw3d.trans (hb5.mono hbw3d.size); have e5 := (hb5.cell (p := ⟨a2, o2 + k, none⟩) (Nat.lt_of_lt_of_le hl2 hbw3d.size)).trans e3; have e6 := (hb5.cell (p := ⟨a1, o1 + k, none⟩) (Nat.lt_of_lt_of_le hl1 hbw3d.size)).trans e4)
                        | (go_simp; go_at_call 25; (with_reducible refine (send_any Z g t _ HM2.out).mono ?_); rintro e w6 ⟨he, hb6⟩; rw [HYY.out] at he; subst he; have hat6 := hat5.below hb6 hat5.lt; have ho6 := ho5.below hb6; have hbw6 := hbw5.trans (hb6.mono hbw5.size); have p0 := hat6.brk; have hfr := hat6.frozen)
                        | fail)
                      all_goals
                        obtain ⟨hat7, hg7⟩ := brk_put Y hat6
                        have ho7 := ho6.past5 hat6 (by decide) hg7
                        have hbw7 := hbw6.grown hg7 hbw6.size (fun q hq => by injection hq with hq; omega)
                        go_wp2_with fail
                        go_meet
                        exact ⟨hat7, ho7, hbw7⟩
                    case rest =>
                      obtain ⟨hat4, ho4, hbw4⟩ := hcut
                      clear hat3 ho3 hbw3 e3 e4 q0 q1 q2 q3 q4 ql
                      obtain ⟨s0, s1, s2, s3, s4, sl⟩ := hat4.brk
                      have hL := HL.out
                      have hz4 := hbw4.size
                      go_wp2_with (at_builtin; refine wpList_append_own _ rfl _ _ 26 rfl w.heap.size 3 i0 (.int .i64 0) 1 8 Try.underlying26 hi0 hz0 hz1 hz2 rfl (by decide) _ _ _ rfl (ho4.alloc5 _).out ⟨wc.heap.size, 0, none⟩ 1 1 [.int .i64 Y.st] rfl rfl (cell_one_new _ _ _) ?c2 ?c3 ?c4 ?c5 ?_)
                      case c2 => simp [Value.oneCell']
                      case c3 => unfold maxLen; omega
                      case c4 => omega
                      case c5 => simp; omega
                      case _ =>
                        intro v1 w5 h5 hg5 _
                        have hne4 := ho4.ne5 hat4 (by decide)
                        have hat5 := (hat4.alloc (.cells #[.int .i64 Y.st] 3)).grown hg5 (fun e => hne4 e.symm)
                        obtain ⟨ho5, hb5⟩ := ho4.snoc (x := Y.st) hbw4 (Nat.le_refl _) (by rw [HL.out]; exact h5) hg5
                        clear h5 hg5 hne4 hat4 ho4 hbw4 s0 s1 s2 s3 s4 sl
                        go_wp2
                        go_roundw
                        case rel => exact ⟨k + 1, by omega, by go_num, by rw [HT.out]; exact ho5, by rw [HS.out]; exact hat5, hb5⟩
                        case measure => simp [intOf]; omega
                · have hi : ¬ (k : Int) < (gs.length : Int) := by omega
                  have hke : k = gs.length := by omega
                  rw [hke, ← E0.out] at ho
                  clear hke
                  go_wp2
                  go_ret
                  exact ⟨_, rfl, ho, hb⟩
      · have hli : (gs.length : Int) > 12 := by omega
        have E0 := hid (path_no (b := b) (gs := gs) (ts := ts) (fun h => hl h.2.2.1))
        clear hv hm
        go_enter Try.func8, Try.ntmps8
        have px0b := px0.alloc (.cells #[] 3)
        have hB0b := hB0.alloc hB0.size (.cells #[] 3)
        go_wp2_with fail
        with_reducible refine (svalidBreaker_any b _).mono ?_
        rintro e w1 ⟨he, hb1⟩
        rw [HV.out] at he
        subst he
        have ho1 := own_below ho0 hb1
        have px1 := px0b.below hb1 px0b.lt
        have hB1 := hB0b.trans (hb1.mono hB0b.size)
        clear px0 hB0 hb1 px0b hB0b ho0
        obtain ⟨p0, p1, p2, p3, p4, pl⟩ := px1.brk
        have h1w := (h1.below hB1).more hB1.size
        have h2w := (h2.below hB1).more hB1.size
        go_wp2
        go_ret
        exact ⟨_, rfl, by rw [E0.out]; exact Own.none_ _ _, hB1⟩
    · have hmi : ((gs.length : Int) != (ts.length : Int)) = true := by simpa using (show ¬ (gs.length : Int) = (ts.length : Int) by omega)
      have E0 := hid (path_no (b := b) (gs := gs) (ts := ts) (fun h => hm h.2.1))
      clear hv
      go_enter Try.func8, Try.ntmps8
      have px0b := px0.alloc (.cells #[] 3)
      have hB0b := hB0.alloc hB0.size (.cells #[] 3)
      go_wp2_with fail
      with_reducible refine (svalidBreaker_any b _).mono ?_
      rintro e w1 ⟨he, hb1⟩
      rw [HV.out] at he
      subst he
      have ho1 := own_below ho0 hb1
      have px1 := px0b.below hb1 px0b.lt
      have hB1 := hB0b.trans (hb1.mono hB0b.size)
      clear px0 hB0 hb1 px0b hB0b ho0
      obtain ⟨p0, p1, p2, p3, p4, pl⟩ := px1.brk
      have h1w := (h1.below hB1).more hB1.size
      have h2w := (h2.below hB1).more hB1.size
      go_wp2
      go_ret
      exact ⟨_, rfl, by rw [E0.out]; exact Own.none_ _ _, hB1⟩

end Go.Proofs.Ytmaocmgnkdieeab

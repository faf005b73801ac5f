/-
  What the model's GiveShare and TakeShare answer. Condition: the lists lie in memory.
-/
import Derived.Test.YtmpiigjkmodekaaShG
namespace Go.Proofs.Ytmpiigjkmodekaa
open Go.RowKit Sha

set_option maxHeartbeats 8000000 in
theorem sGiveShare_any (s : Shr) (o : Int) (A1 A2 : Option Addr) (c1 c2 : Nat) (w : World) (h : SeesR w w.heap.size A1 A2 s) (h1 : s.m.length ≤ 4194304) (h2 : s.h.length ≤ 4194304) :
    Calls Try.prog 6 #[.agg #[.int .i64 s.t, .slice A1 s.m.length c1, .slice A2 s.h.length c2], .int .i64 o] w (ChgAns (giveS s o 1) (giveB s o 1) w) := by
  have H1 := hid h1
  have H2 := hid h2
  have px0 := (At.new w 25 #[.int .i64 s.t, .slice A1 s.m.length c1, .slice A2 s.h.length c2]).alloc (.cells #[.int .i64 0, .slice none 0 0, .slice none 0 0] 25)
  have pr0 : At ((w.alloc (.cells #[.int .i64 s.t, .slice A1 s.m.length c1, .slice A2 s.h.length c2] 25)).alloc (.cells #[.int .i64 0, .slice none 0 0, .slice none 0 0] 25)) (w.heap.size + 1) 25 #[.int .i64 0, .slice none 0 0, .slice none 0 0] := At.newAt _ _ (by simp)
  have hB0 := ((Below.refl w.heap.size w).alloc (Nat.le_refl _) (.cells #[.int .i64 s.t, .slice A1 s.m.length c1, .slice A2 s.h.length c2] 25)).alloc (by simp) (.cells #[.int .i64 0, .slice none 0 0, .slice none 0 0] 25)
  have hs0 := h.on hB0
  have hz0 : w.heap.size + 2 ≤ ((w.alloc (.cells #[.int .i64 s.t, .slice A1 s.m.length c1, .slice A2 s.h.length c2] 25)).alloc (.cells #[.int .i64 0, .slice none 0 0, .slice none 0 0] 25)).heap.size := by simp
  clear h1 h2

  rcases hv : shareB s with _ | _
  · have E := hid (give_no1 (s := s) (o := o) (d := 1) (by simp [hv]))
    have E2 := hid (giveS_no E.out)
    have HV := hid hv
    clear hv
    go_enter Try.func6, Try.ntmps6
    go_wp2_with fail
    with_reducible refine (svalidShare_any s A1 A2 c1 c2 _ hs0 H1.out H2.out).mono ?_
    rintro e w1 ⟨he, hb1⟩
    rw [HV.out] at he
    subst he
    have hB1 := hB0.trans (hb1.mono hB0.size)
    have px1 := px0.below hb1 px0.lt
    have pr1 := pr0.below hb1 pr0.lt
    have hs1 := hs0.on hb1
    have hz1 := Nat.le_trans hz0 hb1.size
    obtain ⟨p0, p1, p2, pl, pf⟩ := px1.three
    clear px0 pr0 hs0 hB0 hb1 hz0
    obtain ⟨hp2, hg2⟩ := three_put (.int .i64 0) (.slice none 0 0) (.slice none 0 0) pr1 rfl
    have hBz := below_put hB1 hg2 (Nat.le_succ _) hB1.size
    obtain ⟨q0, q1, q2, ql, qf⟩ := pr1.three
    go_wp2
    refine bodyPost_ret (v := .tuple #[.agg #[.int .i64 0, .slice none 0 0, .slice none 0 0], .bool false]) (by simp [results, Try.results6, go_sem, hp2.cell]) rfl ?_
    exact ⟨none, none, 0, 0, by rw [E.out, E2.out]; rfl, by rw [E2.out]; exact OwnR.zero _ _, hBz⟩
  have HV := hid hv
  rcases hr : inB o 0 4 with _ | _
  · have E := hid (give_no1 (s := s) (o := o) (d := 1) (fun hh => by rw [inB_iff.2 ⟨hh.2.1, by omega⟩] at hr; cases hr))
    have E2 := hid (giveS_no E.out)
    have HR := hid hr
    clear hv hr
    go_enter Try.func6, Try.ntmps6
    go_wp2_with fail
    with_reducible refine (svalidShare_any s A1 A2 c1 c2 _ hs0 H1.out H2.out).mono ?_
    rintro e w1 ⟨he, hb1⟩
    rw [HV.out] at he
    subst he
    have hB1 := hB0.trans (hb1.mono hB0.size)
    have px1 := px0.below hb1 px0.lt
    have pr1 := pr0.below hb1 pr0.lt
    have hs1 := hs0.on hb1
    have hz1 := Nat.le_trans hz0 hb1.size
    obtain ⟨p0, p1, p2, pl, pf⟩ := px1.three
    clear px0 pr0 hs0 hB0 hb1 hz0
    go_wp2_with fail
    with_reducible refine (inRange_any _ _ _ _).mono ?_
    rintro e w' ⟨he, rfl⟩
    rw [HR.out] at he
    subst he
    obtain ⟨hp2, hg2⟩ := three_put (.int .i64 0) (.slice none 0 0) (.slice none 0 0) pr1 rfl
    have hBz := below_put hB1 hg2 (Nat.le_succ _) hB1.size
    obtain ⟨q0, q1, q2, ql, qf⟩ := pr1.three
    go_wp2
    refine bodyPost_ret (v := .tuple #[.agg #[.int .i64 0, .slice none 0 0, .slice none 0 0], .bool false]) (by simp [results, Try.results6, go_sem, hp2.cell]) rfl ?_
    exact ⟨none, none, 0, 0, by rw [E.out, E2.out]; rfl, by rw [E2.out]; exact OwnR.zero _ _, hBz⟩
  have HR := hid hr
  have ho := inB_iff.1 hr
  have HE := hid (give_at (o := o) (d := 1) hv (by omega) (by omega))
  have hbd := share_und hv (o := o) (by omega) (by omega)
  have hbm := share_most hv (o := o) (by omega) (by omega)
  have HHL := hid (share_h hv)
  have HTV := hid (take_valid hv (o := o) (by omega) (by omega))
  obtain ⟨j, rfl⟩ : ∃ j : Nat, o = j := ⟨o.toNat, by omega⟩
  have HBD := hid (show 0 ≤ nth s.h j ∧ nth s.h j ≤ 1000 by omega)
  have HJ5 := hid (show j < 5 by omega)
  have HGY := hid (fun (hb : giveB s j 1 = true) => giveS_yes hb)
  obtain ⟨Y, hY⟩ : ∃ Y, Y = chg s j 1 := ⟨_, rfl⟩
  have HYl := hid (show Y.m.length = s.m.length by rw [hY]; rfl)
  have HYh := hid (show Y.h.length = s.h.length by rw [hY]; exact addO_len _ _ _)
  have HM2 := hid (show Y.m.length ≤ 4194304 by rw [HYl.out]; exact H1.out)
  have HH2 := hid (show Y.h.length ≤ 4194304 by rw [HYh.out]; exact H2.out)
  have HG := hid (fun (w : World) (h : SeesR w w.heap.size A1 A2 s) => give_any s j 1 A1 A2 c1 c2 w h H1.out HHL.out HJ5.out (by decide) HBD.out)
  rw [← hY] at HE HGY HG
  clear hr hY hbm hbd ho hv
  rcases hvy : shareB Y with _ | _
  · have E := hid (show giveB s j 1 = false by rw [HE.out, hvy])
    have E2 := hid (giveS_no E.out)
    have HVY := hid hvy
    clear hvy
    go_enter Try.func6, Try.ntmps6
    go_wp2_with fail
    with_reducible refine (svalidShare_any s A1 A2 c1 c2 _ hs0 H1.out H2.out).mono ?_
    rintro e w1 ⟨he, hb1⟩
    rw [HV.out] at he
    subst he
    have hB1 := hB0.trans (hb1.mono hB0.size)
    have px1 := px0.below hb1 px0.lt
    have pr1 := pr0.below hb1 pr0.lt
    have hs1 := hs0.on hb1
    have hz1 := Nat.le_trans hz0 hb1.size
    obtain ⟨p0, p1, p2, pl, pf⟩ := px1.three
    clear px0 pr0 hs0 hB0 hb1 hz0
    go_wp2_with fail
    with_reducible refine (inRange_any _ _ _ _).mono ?_
    rintro e w' ⟨he, rfl⟩
    rw [HR.out] at he
    subst he
    go_wp2_with fail
    with_reducible refine (HG.out _ hs1).mono ?_
    rintro e w2 ⟨B1, B2, d1, d2, rfl, hO, hb2⟩
    have hB2 := hB1.trans (hb2.mono hB1.size)
    have px2 := px1.below hb2 px1.lt
    have pr2 := pr1.below hb2 pr1.lt
    have hs2 := hs1.on hb2
    have hsY := hO.sees
    clear p0 p1 p2 pl pf px1 pr1 hs1 hb2 hB1 hO
    go_wp2_with fail
    with_reducible refine (svalidShare_any Y B1 B2 d1 d2 _ hsY HM2.out HH2.out).mono ?_
    rintro e w3 ⟨he, hb3⟩
    rw [HVY.out] at he
    subst he
    have hB3 := hB2.trans (hb3.mono hB2.size)
    have px3 := px2.below hb3 px2.lt
    have pr3 := pr2.below hb3 pr2.lt
    have hs3 := hs2.on hb3
    clear px2 pr2 hs2 hb3 hB2 hsY
    obtain ⟨hp2, hg2⟩ := three_put (.int .i64 0) (.slice none 0 0) (.slice none 0 0) pr3 rfl
    have hBz := below_put hB3 hg2 (Nat.le_succ _) hB3.size
    obtain ⟨q0, q1, q2, ql, qf⟩ := pr3.three
    go_wp2
    refine bodyPost_ret (v := .tuple #[.agg #[.int .i64 0, .slice none 0 0, .slice none 0 0], .bool false]) (by simp [results, Try.results6, go_sem, hp2.cell]) rfl ?_
    exact ⟨none, none, 0, 0, by rw [E.out, E2.out]; rfl, by rw [E2.out]; exact OwnR.zero _ _, hBz⟩
  · have E := hid (show giveB s j 1 = true by rw [HE.out, hvy])
    have E2 := hid (HGY.out E.out)
    have HVY := hid hvy
    clear hvy
    go_enter Try.func6, Try.ntmps6
    go_wp2_with fail
    with_reducible refine (svalidShare_any s A1 A2 c1 c2 _ hs0 H1.out H2.out).mono ?_
    rintro e w1 ⟨he, hb1⟩
    rw [HV.out] at he
    subst he
    have hB1 := hB0.trans (hb1.mono hB0.size)
    have px1 := px0.below hb1 px0.lt
    have pr1 := pr0.below hb1 pr0.lt
    have hs1 := hs0.on hb1
    have hz1 := Nat.le_trans hz0 hb1.size
    obtain ⟨p0, p1, p2, pl, pf⟩ := px1.three
    clear px0 pr0 hs0 hB0 hb1 hz0
    go_wp2_with fail
    with_reducible refine (inRange_any _ _ _ _).mono ?_
    rintro e w' ⟨he, rfl⟩
    rw [HR.out] at he
    subst he
    go_wp2_with fail
    with_reducible refine (HG.out _ hs1).mono ?_
    rintro e w2 ⟨B1, B2, d1, d2, rfl, hO, hb2⟩
    have hB2 := hB1.trans (hb2.mono hB1.size)
    have px2 := px1.below hb2 px1.lt
    have pr2 := pr1.below hb2 pr1.lt
    have hs2 := hs1.on hb2
    have hsY := hO.sees
    clear p0 p1 p2 pl pf px1 pr1 hs1 hb2 hB1 hO
    go_wp2_with fail
    with_reducible refine (svalidShare_any Y B1 B2 d1 d2 _ hsY HM2.out HH2.out).mono ?_
    rintro e w3 ⟨he, hb3⟩
    rw [HVY.out] at he
    subst he
    have hB3 := hB2.trans (hb3.mono hB2.size)
    have px3 := px2.below hb3 px2.lt
    have pr3 := pr2.below hb3 pr2.lt
    have hs3 := hs2.on hb3
    clear px2 pr2 hs2 hb3 hB2 hsY
    obtain ⟨p0, p1, p2, pl, pf⟩ := px3.three
    go_wp2_with fail
    with_reducible refine (HG.out _ hs3).mono ?_
    rintro e w4 ⟨B3, B4, d3, d4, rfl, hO, hb4⟩
    have hB4 := hB3.trans (hb4.mono hB3.size)
    have pr4 := pr3.below hb4 pr3.lt
    have hO4 := hO.mono hB3.size
    obtain ⟨hp2, hg2⟩ := three_put (.int .i64 Y.t) (.slice B3 Y.m.length d3) (.slice B4 Y.h.length d4) pr4 rfl
    have hBz := below_put hB4 hg2 (Nat.le_succ _) hB4.size
    have hO5 := hO4.past pr4 (by decide) hg2
    obtain ⟨q0, q1, q2, ql, qf⟩ := pr4.three
    go_wp2
    refine bodyPost_ret (v := .tuple #[.agg #[.int .i64 Y.t, .slice B3 Y.m.length d3, .slice B4 Y.h.length d4], .bool true]) (by simp [results, Try.results6, go_sem, hp2.cell]) rfl ?_
    exact ⟨B3, B4, d3, d4, by rw [E.out, E2.out], by rw [E2.out]; exact hO5, hBz⟩

end Go.Proofs.Ytmpiigjkmodekaa

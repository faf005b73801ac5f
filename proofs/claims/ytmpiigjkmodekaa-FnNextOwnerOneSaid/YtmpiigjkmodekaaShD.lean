/-
  What the program's changeShare, GiveShare and TakeShare answer. Condition: the lists lie in memory.
-/
import Derived.Test.YtmpiigjkmodekaaShC
import Derived.Deep.RegionHeld3
import Derived.Deep.CutRange
namespace Go.Proofs.Ytmpiigjkmodekaa
open Go.RowKit Sha

/-- Shares with one more or less, of the call's own, and whether that can be. -/
def ChgAns (out : Shr) (ok : Bool) (w : World) (e : Ending) (w' : World) : Prop := ∃ B1 B2 d1 d2, e = .returned (.tuple #[.agg #[.int .i64 out.t, .slice B1 out.m.length d1, .slice B2 out.h.length d2], .bool ok]) ∧ OwnR w' w.heap.size B1 B2 d1 d2 out ∧ Below w.heap.size w w'
theorem give_no1 {s : Shr} {o d : Int} (h : ¬ (shareB s = true ∧ 0 ≤ o ∧ o < 5)) : giveB s o d = false := Bool.eq_false_iff.2 fun e => h ⟨(giveB_iff.1 e).1, (giveB_iff.1 e).2.1.1, (giveB_iff.1 e).2.1.2⟩
theorem give_at {s : Shr} {o d : Int} (h : shareB s = true) (h0 : 0 ≤ o) (h5 : o < 5) : giveB s o d = shareB (chg s o d) := by
  unfold giveB; rw [h, okO_iff.2 ⟨h0, h5⟩]; simp
set_option maxHeartbeats 8000000 in
theorem changeShare_any (s : Shr) (o d : Int) (A1 A2 : Option Addr) (c1 c2 : Nat) (w : World) (h : SeesR w w.heap.size A1 A2 s) (h1 : s.m.length ≤ 4194304) (h2 : s.h.length ≤ 4194304) (hd : -1 ≤ d ∧ d ≤ 1) :
    Calls Try.prog 12 #[.agg #[.int .i64 s.t, .slice A1 s.m.length c1, .slice A2 s.h.length c2], .int .i64 o, .int .i64 d] w (ChgAns (giveS s o d) (giveB s o d) w) := by
  have H1 := hid h1
  have H2 := hid h2
  have HD := hid hd
  clear h1 h2 hd
  have px0 := (At.new w 25 #[.int .i64 s.t, .slice A1 s.m.length c1, .slice A2 s.h.length c2]).alloc (.cells #[.int .i64 0, .slice none 0 0, .slice none 0 0] 25)
  have pr0 : At ((w.alloc (.cells #[.int .i64 s.t, .slice A1 s.m.length c1, .slice A2 s.h.length c2] 25)).alloc (.cells #[.int .i64 0, .slice none 0 0, .slice none 0 0] 25)) (w.heap.size + 1) 25 #[.int .i64 0, .slice none 0 0, .slice none 0 0] := At.newAt _ _ (by simp)
  have hB0 := ((Below.refl w.heap.size w).alloc (Nat.le_refl _) (.cells #[.int .i64 s.t, .slice A1 s.m.length c1, .slice A2 s.h.length c2] 25)).alloc (by simp) (.cells #[.int .i64 0, .slice none 0 0, .slice none 0 0] 25)
  have hs0 := h.on hB0
  have hz0 : w.heap.size + 2 ≤ ((w.alloc (.cells #[.int .i64 s.t, .slice A1 s.m.length c1, .slice A2 s.h.length c2] 25)).alloc (.cells #[.int .i64 0, .slice none 0 0, .slice none 0 0] 25)).heap.size := by simp
  rcases hv : shareB s with _ | _
  · have E := hid (give_no1 (s := s) (o := o) (d := d) (by simp [hv]))
    have E2 := hid (giveS_no E.out)
    have HV := hid hv
    clear hv
    go_enter Try.func12, Try.ntmps12
    go_wp2_with fail
    with_reducible refine (iValidShare_any s A1 A2 c1 c2 _ hs0 H1.out H2.out).mono ?_
    rintro e w1 ⟨he, hb1⟩
    rw [HV.out] at he
    subst he
    have hB1 := hB0.trans (hb1.mono hB0.size)
    have pr1 := pr0.below hb1 pr0.lt
    obtain ⟨hp2, hg2⟩ := three_put (.int .i64 0) (.slice none 0 0) (.slice none 0 0) pr1 rfl
    have hB2 := below_put hB1 hg2 (Nat.le_succ _) hB1.size
    obtain ⟨q0, q1, q2, ql, qf⟩ := pr1.three
    clear px0 pr0 hs0 hB0 hb1 pr1
    go_wp2
    refine bodyPost_ret (v := .tuple #[.agg #[.int .i64 0, .slice none 0 0, .slice none 0 0], .bool false]) (by simp [results, Try.results12, go_sem, hp2.cell]) rfl ?_
    exact ⟨none, none, 0, 0, by rw [E.out, E2.out]; rfl, by rw [E2.out]; exact OwnR.zero _ _, hB2⟩
  have HV := hid hv
  by_cases o1 : o < 0
  · have E := hid (give_no1 (s := s) (o := o) (d := d) (fun hh => by have := hh.2; omega))
    have E2 := hid (giveS_no E.out)
    clear hv
    go_enter Try.func12, Try.ntmps12
    go_wp2_with fail
    with_reducible refine (iValidShare_any s A1 A2 c1 c2 _ hs0 H1.out H2.out).mono ?_
    rintro e w1 ⟨he, hb1⟩
    rw [HV.out] at he
    subst he
    have hB1 := hB0.trans (hb1.mono hB0.size)
    have pr1 := pr0.below hb1 pr0.lt
    obtain ⟨hp2, hg2⟩ := three_put (.int .i64 0) (.slice none 0 0) (.slice none 0 0) pr1 rfl
    have hB2 := below_put hB1 hg2 (Nat.le_succ _) hB1.size
    obtain ⟨q0, q1, q2, ql, qf⟩ := pr1.three
    clear px0 pr0 hs0 hB0 hb1 pr1
    go_wp2
    refine bodyPost_ret (v := .tuple #[.agg #[.int .i64 0, .slice none 0 0, .slice none 0 0], .bool false]) (by simp [results, Try.results12, go_sem, hp2.cell]) rfl ?_
    exact ⟨none, none, 0, 0, by rw [E.out, E2.out]; rfl, by rw [E2.out]; exact OwnR.zero _ _, hB2⟩
  by_cases o2 : o ≥ 5
  · have E := hid (give_no1 (s := s) (o := o) (d := d) (fun hh => by have := hh.2; omega))
    have E2 := hid (giveS_no E.out)
    clear hv
    go_enter Try.func12, Try.ntmps12
    go_wp2_with fail
    with_reducible refine (iValidShare_any s A1 A2 c1 c2 _ hs0 H1.out H2.out).mono ?_
    rintro e w1 ⟨he, hb1⟩
    rw [HV.out] at he
    subst he
    have hB1 := hB0.trans (hb1.mono hB0.size)
    have pr1 := pr0.below hb1 pr0.lt
    obtain ⟨hp2, hg2⟩ := three_put (.int .i64 0) (.slice none 0 0) (.slice none 0 0) pr1 rfl
    have hB2 := below_put hB1 hg2 (Nat.le_succ _) hB1.size
    obtain ⟨q0, q1, q2, ql, qf⟩ := pr1.three
    clear px0 pr0 hs0 hB0 hb1 pr1
    go_wp2
    refine bodyPost_ret (v := .tuple #[.agg #[.int .i64 0, .slice none 0 0, .slice none 0 0], .bool false]) (by simp [results, Try.results12, go_sem, hp2.cell]) rfl ?_
    exact ⟨none, none, 0, 0, by rw [E.out, E2.out]; rfl, by rw [E2.out]; exact OwnR.zero _ _, hB2⟩
  have HE := hid (give_at (o := o) (d := d) hv (by omega) (by omega))
  have hbd := share_und hv (o := o) (by omega) (by omega)
  have hbm := share_most hv (o := o) (by omega) (by omega)
  have HML := hid (share_m hv)
  have HHL := hid (share_h hv)
  obtain ⟨j, rfl⟩ : ∃ j : Nat, o = j := ⟨o.toNat, by omega⟩
  have hj0 : (0 : Int) ≤ (j : Int) := by omega
  have hjh : (j : Int) < (s.h.length : Int) := by rw [HHL.out]; omega
  have HJ := hid (show j < s.h.length by omega)
  have HAD := hid (show addO s.h j d = s.h.set j (nth s.h j + d) by rw [addO_set HJ.out, nth_at HJ.out])
  clear hv
  go_enter Try.func12, Try.ntmps12
  go_wp2_with fail
  with_reducible refine (iValidShare_any s A1 A2 c1 c2 _ hs0 H1.out H2.out).mono ?_
  rintro e w1 ⟨he, hb1⟩
  rw [HV.out] at he
  subst he
  have hB1 := hB0.trans (hb1.mono hB0.size)
  have px1 := px0.below hb1 px0.lt
  have pr1 := pr0.below hb1 pr0.lt
  have hs1 := hs0.on hb1
  have hz1 := Nat.le_trans hz0 hb1.size
  clear px0 pr0 hs0 hB0 hb1 hz0
  obtain ⟨p0, p1, p2, pl, pf⟩ := px1.three
  have hsd := hs1.drew
  have hpxd := px1.drew
  have hprd := pr1.drew
  have hbd1 := hB1.drew
  have n11 : ¬ w.heap.size = w1.heap.size := by omega
  have n12 : ¬ w1.heap.size = w.heap.size := by omega
  go_upto_region 3 with fail
  go_cut [8] from 21 to 29 (fun v8 wx => ∃ (g8 : Nat) (Aa : Option Addr) (ca gb cb : Nat), v8 = .pointer (some ⟨g8, 0, none⟩) ∧ At wx g8 25 #[.int .i64 s.t, .slice Aa s.m.length ca, .slice (some ⟨gb, 0, none⟩) s.h.length cb] ∧ At wx (w.heap.size + 1) 25 #[.int .i64 0, .slice none 0 0, .slice none 0 0] ∧ OwnR wx w.heap.size Aa (some ⟨gb, 0, none⟩) ca cb s ∧ Below w.heap.size w wx ∧ w.heap.size + 2 ≤ g8)
  case first =>
    go_region_held3 (fun w' => w'.cell? ⟨w.heap.size, 0, none⟩ = some (.int .i64 s.t) ∧ w'.cell? ⟨w.heap.size, 1, none⟩ = some (.slice A1 s.m.length c1) ∧ w'.cell? ⟨w.heap.size, 2, none⟩ = some (.slice A2 s.h.length c2))
      (first | with_reducible exact ⟨p0, p1, p2⟩ | with_reducible exact ⟨a0, a1, a2⟩ | with_reducible exact ⟨b0, b1, b2⟩ | go_keep)
      (first
        | (go_at_call 22; (with_reducible refine (copyNumbers_any A1 c1 s.m _ (by first | exact hsd.most | exact ((hs1.alloc _).drew).most) H1.out).mono ?_); rintro e wa ⟨va, rfl, hoa, hba⟩; obtain ⟨Aa, ca, rfl, _⟩ := hoa.form; have pxa := (by first | exact hpxd.below hba hpxd.lt | exact ((px1.alloc _).drew).below hba ((px1.alloc _).drew).lt : At wa w.heap.size 25 #[.int .i64 s.t, .slice A1 s.m.length c1, .slice A2 s.h.length c2]); have pra := (by first | exact hprd.below hba hprd.lt | exact ((pr1.alloc _).drew).below hba ((pr1.alloc _).drew).lt : At wa (w.heap.size + 1) 25 #[.int .i64 0, .slice none 0 0, .slice none 0 0]); have hsa := (by first | exact hsd.on hba | exact ((hs1.alloc _).drew).on hba : SeesR wa wa.heap.size A1 A2 s); have hoam := (by first | exact hoa | exact hoa.mono (Nat.le_of_lt (by simp)) : Own wa w1.heap.size (.slice Aa s.m.length ca) s.m); have hbA := (by first | exact hbd1.trans (hba.mono hbd1.size) | exact ((hB1.alloc hB1.size _).drew).trans (hba.mono ((hB1.alloc hB1.size _).drew).size) : Below w.heap.size w wa); have hza := (by first | exact hba.size | exact Nat.le_trans (Nat.le_of_lt (by simp)) hba.size : w1.heap.size ≤ wa.heap.size); obtain ⟨a0, a1, a2, al, af⟩ := pxa.three; have na1 : ¬ w.heap.size = wa.heap.size := Nat.ne_of_lt al; have na2 : ¬ wa.heap.size = w.heap.size := fun e => Nat.ne_of_lt al e.symm; (try have pza := ((At.newAt 25 #[.int .i64 0, .slice none 0 0, .slice none 0 0] rfl).drew : At ((w1.alloc (.cells #[.int .i64 0, .slice none 0 0, .slice none 0 0] 25)).drew) w1.heap.size 25 #[.int .i64 0, .slice none 0 0, .slice none 0 0]).below hba (by simp)))
        | (go_at_call 22; (with_reducible refine (copyNumbers_any A2 c2 s.h _ (by first | exact hsa.has | exact (hsa.alloc _).has) H2.out).mono ?_); rintro e wb ⟨vb, rfl, hob, hbb⟩; obtain ⟨gb, cb, rfl, hcb⟩ := own_rowS hob (by have := HHL.out; omega); have pxb := (by first | exact pxa.below hbb pxa.lt | exact (pxa.alloc _).below hbb (pxa.alloc _).lt : At wb w.heap.size 25 #[.int .i64 s.t, .slice A1 s.m.length c1, .slice A2 s.h.length c2]); have prb := (by first | exact pra.below hbb pra.lt | exact (pra.alloc _).below hbb (pra.alloc _).lt : At wb (w.heap.size + 1) 25 #[.int .i64 0, .slice none 0 0, .slice none 0 0]); have hoa2 := (by first | exact hoam.below hbb | exact (hoam.alloc4 _).below hbb : Own wb w1.heap.size (.slice Aa s.m.length ca) s.m); have hobm := (by first | exact hob | exact hob.mono (Nat.le_of_lt (by simp)) : Own wb wa.heap.size (.slice (some ⟨gb, 0, none⟩) s.h.length cb) s.h); have hbB := (by first | exact hbA.trans (hbb.mono hbA.size) | exact (hbA.alloc hbA.size _).trans (hbb.mono (hbA.alloc hbA.size _).size) : Below w.heap.size w wb); have hzb := (by first | exact hbb.size | exact Nat.le_trans (Nat.le_of_lt (by simp)) hbb.size : wa.heap.size ≤ wb.heap.size); obtain ⟨b0, b1, b2, bl, bf⟩ := pxb.three; (try have pzb := pza.below hbb pza.lt); (try have pzb := (At.newAt 25 #[.int .i64 0, .slice none 0 0, .slice none 0 0] rfl : At (wa.alloc (.cells #[.int .i64 0, .slice none 0 0, .slice none 0 0] 25)) wa.heap.size 25 #[.int .i64 0, .slice none 0 0, .slice none 0 0]).below hbb (by simp)); (try have pzc := pzb.cell); (try have pzf := pzb.frozen))
        | fail)
    all_goals
      go_wp2_with fail
      have hfar := afar_of hoam.out.lt hobm.out.lt (.inl (Nat.le_refl _))
      have hOw : OwnR wb w.heap.size Aa (some ⟨gb, 0, none⟩) ca cb s := ⟨hoa2.mono hB1.size, hobm.mono (by omega), hfar⟩
      clear p0 p1 p2 pf a0 a1 a2 af b0 b1 b2 bf hoa hob hoam hoa2 hobm hfar
      go_meet
      first
        | exact ⟨_, _, _, _, _, rfl, At.newAt _ _ rfl, prb.alloc _, hOw.alloc _, hbB.alloc hbB.size _, by omega⟩
        | (obtain ⟨hp8, hg8⟩ := three_put (.int .i64 s.t) (.slice Aa s.m.length ca) (.slice (some ⟨gb, 0, none⟩) s.h.length cb) pzb rfl
           exact ⟨_, _, _, _, _, rfl, hp8, prb.past hg8 (by omega), hOw.past pzb (by decide) hg8, below_put hbB hg8 (by omega) hbB.size, by omega⟩)
  case rest =>
    obtain ⟨g8, Aa, ca, gb, cb, rfl, px8, pr8, hO, hB, hz8⟩ := hcut
    obtain ⟨p0', p1', p2', pl', pf'⟩ := px8.three
    have hr := hO.2.1.out
    have e1 := row_int hr HJ.out
    rw [← nth_at HJ.out] at e1
    have hfr := row_thaw hr
    have hbg := row_base hr
    have hput := row_put hr j (.int .i64 (nth s.h j + d))
    rw [ints_set, ← HAD.out] at hput
    have hne := row_ne hr px8 (by decide)
    have hn8 : g8 ≠ gb := fun e => hne (by rw [e]; rfl)
    have hnr := row_ne hr pr8 (by decide)
    have hnr' : w.heap.size + 1 ≠ gb := fun e => hnr (by rw [e]; rfl)
    have hfar := hO.2.2
    have hnm : (Value.slice Aa s.m.length ca).ownBlock ≠ some gb := fun e => hfar gb e rfl
    have hgs := grown_set wc gb j (.int .i64 (nth s.h j + d))
    have hl2 : (chg s j d).h.length = s.h.length := addO_len _ _ _
    have hO2 : OwnR (wc.setCell ⟨gb, j, none⟩ (.int .i64 (nth s.h j + d))) w.heap.size Aa (some ⟨gb, 0, none⟩) ca cb (chg s j d) := by
      refine ⟨row_kept hO.1.out hgs (fun q hq e => hnm (hq.trans e.symm)), ?_, ?_⟩
      · unfold Own; rw [hl2]; exact hput
      · rw [hl2]; exact hfar
    have px9 := px8.past hgs hn8
    have pr9 := pr8.past hgs hnr'
    have hB9 := below_put hB hgs hbg.1 hB.size
    have hs9 := hO2.sees
    have hw : IntKind.i64.wrap (nth s.h j + d) = nth s.h j + d := by have := HD.out; rw [IntKind.wrap_i64]; omega
    have HL2 := hid hl2
    have HO2 := hid hO2
    obtain ⟨x, hx⟩ : ∃ x, x = nth s.h j := ⟨_, rfl⟩
    rw [← hx] at e1 hw px9 pr9 hB9 hs9 HO2
    have HM2 := hid (show (chg s j d).m.length ≤ 4194304 from H1.out)
    have HH2 := hid (show (chg s j d).h.length ≤ 4194304 by rw [HL2.out]; exact H2.out)
    have hn8a : ¬ g8 = gb := hn8
    have hn8b : ¬ gb = g8 := fun e => hn8 e.symm
    clear hl2 hO2 hput hgs hr hne hn8 hnr hnr' hfar hnm hO px8 pr8 hB hx hsd hpxd hprd hbd1 px1 pr1 hs1 hB1 p0 p1 p2 pf hbd hbm
    have HGY := hid (fun (hb : giveB s j d = true) => giveS_yes hb)
    obtain ⟨Y, hY⟩ : ∃ Y, Y = chg s j d := ⟨_, rfl⟩
    have HYt := hid (show Y.t = s.t by rw [hY]; rfl)
    have HYm := hid (show Y.m = s.m by rw [hY]; rfl)
    have HYl := hid (show Y.m.length = s.m.length by rw [HYm.out])
    rw [← hY] at hs9 HO2 HE HL2 HM2 HH2 HGY
    clear hY
    rcases hv2 : shareB Y with _ | _
    · have E := hid (show giveB s j d = false by rw [HE.out, hv2])
      have E2 := hid (giveS_no E.out)
      have HV2 := hid hv2
      clear hv2
      go_wp2_with fail
      with_reducible refine (iValidShare_len (s := Y) HYt.out HYl.out HL2.out hs9 HM2.out HH2.out).mono ?_
      rintro e w3 ⟨he, hb3⟩
      rw [HV2.out] at he
      subst he
      have hB3 := hB9.trans (hb3.mono hB9.size)
      have pr3 := pr9.below hb3 pr9.lt
      obtain ⟨hp2, hg2⟩ := three_put (.int .i64 0) (.slice none 0 0) (.slice none 0 0) pr3 rfl
      have hB4 := below_put hB3 hg2 (Nat.le_succ _) hB3.size
      obtain ⟨q0, q1, q2, ql, qf⟩ := pr3.three
      clear px9 pr9 hs9 hB9 hb3 pr3 p0' p1' p2' pf' e1
      go_wp2
      refine bodyPost_ret (v := .tuple #[.agg #[.int .i64 0, .slice none 0 0, .slice none 0 0], .bool false]) (by simp [results, Try.results12, go_sem, hp2.cell]) rfl ?_
      exact ⟨none, none, 0, 0, by rw [E.out, E2.out]; rfl, by rw [E2.out]; exact OwnR.zero _ _, hB4⟩
    · have E := hid (show giveB s j d = true by rw [HE.out, hv2])
      have E2 := hid (HGY.out E.out)
      have HV2 := hid hv2
      clear hv2
      go_wp2_with fail
      with_reducible refine (iValidShare_len (s := Y) HYt.out HYl.out HL2.out hs9 HM2.out HH2.out).mono ?_
      rintro e w3 ⟨he, hb3⟩
      rw [HV2.out] at he
      subst he
      have hB3 := hB9.trans (hb3.mono hB9.size)
      have px3 := px9.below hb3 px9.lt
      have pr3 := pr9.below hb3 pr9.lt
      have hO3 := HO2.out.below hb3
      obtain ⟨hp2, hg2⟩ := three_put (.int .i64 s.t) (.slice Aa s.m.length ca) (.slice (some ⟨gb, 0, none⟩) s.h.length cb) pr3 rfl
      have hB4 := below_put hB3 hg2 (Nat.le_succ _) hB3.size
      have hO4 := hO3.past pr3 (by decide) hg2
      obtain ⟨q0, q1, q2, ql, qf⟩ := pr3.three
      obtain ⟨s0, s1, s2, sl, sf⟩ := px3.three
      have hn1 : ¬ g8 = w.heap.size + 1 := by omega
      have hn2 : ¬ w.heap.size + 1 = g8 := by omega
      clear px9 pr9 hs9 hB9 hb3 pr3 px3 p0' p1' p2' pf' e1 hO3
      go_wp2
      refine bodyPost_ret (v := .tuple #[.agg #[.int .i64 s.t, .slice Aa s.m.length ca, .slice (some ⟨gb, 0, none⟩) s.h.length cb], .bool true]) (by simp [results, Try.results12, go_sem, hp2.cell]) rfl ?_
      exact ⟨Aa, some ⟨gb, 0, none⟩, ca, cb, by rw [E.out, E2.out, HL2.out, HYt.out, HYl.out], by rw [E2.out]; exact hO4, hB4⟩

set_option maxHeartbeats 2000000 in
theorem iGiveShare_any (s : Shr) (o : Int) (A1 A2 : Option Addr) (c1 c2 : Nat) (w : World) (h : SeesR w w.heap.size A1 A2 s) (h1 : s.m.length ≤ 4194304) (h2 : s.h.length ≤ 4194304) :
    Calls Try.prog 5 #[.agg #[.int .i64 s.t, .slice A1 s.m.length c1, .slice A2 s.h.length c2], .int .i64 o] w (ChgAns (giveS s o 1) (giveB s o 1) w) := by
  have pr0 : At ((w.alloc (.cells #[.int .i64 s.t, .slice A1 s.m.length c1, .slice A2 s.h.length c2] 25)).alloc (.cells #[.int .i64 0, .slice none 0 0, .slice none 0 0] 25)) (w.heap.size + 1) 25 #[.int .i64 0, .slice none 0 0, .slice none 0 0] := At.newAt _ _ (by simp)
  have hB0 := ((Below.refl w.heap.size w).alloc (Nat.le_refl _) (.cells #[.int .i64 s.t, .slice A1 s.m.length c1, .slice A2 s.h.length c2] 25)).alloc (by simp) (.cells #[.int .i64 0, .slice none 0 0, .slice none 0 0] 25)
  have hs0 := h.on hB0
  obtain ⟨V, hV⟩ : ∃ V, V = giveS s o 1 := ⟨_, rfl⟩
  obtain ⟨b, hb⟩ : ∃ b, b = giveB s o 1 := ⟨_, rfl⟩
  have HC := hid (changeShare_any s o 1 A1 A2 c1 c2 _ hs0 h1 h2 (by decide))
  rw [← hV, ← hb] at HC ⊢
  clear hV hb
  go_enter Try.func5, Try.ntmps5
  go_wp2_with fail
  with_reducible refine HC.out.mono ?_
  rintro e w1 ⟨B1, B2, d1, d2, rfl, hO, hb1⟩
  have hB1 := hB0.trans (hb1.mono hB0.size)
  have pr1 := pr0.below hb1 pr0.lt
  have hO1 := hO.mono hB0.size
  obtain ⟨hp2, hg2⟩ := three_put (.int .i64 V.t) (.slice B1 V.m.length d1) (.slice B2 V.h.length d2) pr1 rfl
  have hB2 := below_put hB1 hg2 (Nat.le_succ _) hB1.size
  have hO2 := hO1.past pr1 (by decide) hg2
  obtain ⟨q0, q1, q2, ql, qf⟩ := pr1.three
  clear pr0 hB0 hs0 hb1 hO hO1 pr1
  go_wp2
  refine bodyPost_ret (v := .tuple #[.agg #[.int .i64 V.t, .slice B1 V.m.length d1, .slice B2 V.h.length d2], .bool b]) (by simp [results, Try.results5, go_sem, hp2.cell]) rfl ?_
  exact ⟨B1, B2, d1, d2, rfl, hO2, hB2⟩

end Go.Proofs.Ytmpiigjkmodekaa

/-
  What the model's give, GiveShare and TakeShare answer. Condition: the lists lie in memory.
-/
import Derived.Test.YtmpiigjkmodekaaShE
import Derived.Test.YtmpiigjkmodekaaShD
import Derived.Deep.RegionHeld3
import Derived.Deep.CutRange
import Derived.StillTailTactics
namespace Go.Proofs.Ytmpiigjkmodekaa
open Go.RowKit Sha

/-- Shares of the call's own. -/
def ShrAns (out : Shr) (w : World) (e : Ending) (w' : World) : Prop := ∃ B1 B2 d1 d2, e = .returned (.agg #[.int .i64 out.t, .slice B1 out.m.length d1, .slice B2 out.h.length d2]) ∧ OwnR w' w.heap.size B1 B2 d1 d2 out ∧ Below w.heap.size w w'
set_option maxHeartbeats 8000000 in
theorem give_any (s : Shr) (j : Nat) (d : Int) (A1 A2 : Option Addr) (c1 c2 : Nat) (w : World) (h : SeesR w w.heap.size A1 A2 s) (h1 : s.m.length ≤ 4194304) (hh5 : s.h.length = 5) (hj : j < 5) (hd : -1 ≤ d ∧ d ≤ 1) (hb20 : 0 ≤ nth s.h j ∧ nth s.h j ≤ 1000) :
    Calls Try.prog 15 #[.agg #[.int .i64 s.t, .slice A1 s.m.length c1, .slice A2 s.h.length c2], .int .i64 j, .int .i64 d] w (ShrAns (chg s j d) w) := by
  have H1 := hid h1
  have HHL := hid hh5
  have H2 := hid (show s.h.length ≤ 4194304 by omega)
  have HD := hid hd
  have HBD := hid hb20
  have px0 := (At.new w 25 #[.int .i64 s.t, .slice A1 s.m.length c1, .slice A2 s.h.length c2]).alloc (.cells #[.int .i64 0, .slice none 0 0, .slice none 0 0] 25)
  have pr0 : At ((w.alloc (.cells #[.int .i64 s.t, .slice A1 s.m.length c1, .slice A2 s.h.length c2] 25)).alloc (.cells #[.int .i64 0, .slice none 0 0, .slice none 0 0] 25)) (w.heap.size + 1) 25 #[.int .i64 0, .slice none 0 0, .slice none 0 0] := At.newAt _ _ (by simp)
  have hB0 := ((Below.refl w.heap.size w).alloc (Nat.le_refl _) (.cells #[.int .i64 s.t, .slice A1 s.m.length c1, .slice A2 s.h.length c2] 25)).alloc (by simp) (.cells #[.int .i64 0, .slice none 0 0, .slice none 0 0] 25)
  have hs0 := h.on hB0
  have hz0 : w.heap.size + 2 ≤ ((w.alloc (.cells #[.int .i64 s.t, .slice A1 s.m.length c1, .slice A2 s.h.length c2] 25)).alloc (.cells #[.int .i64 0, .slice none 0 0, .slice none 0 0] 25)).heap.size := by simp
  have hj0 : (0 : Int) ≤ (j : Int) := by omega
  have hjh : (j : Int) < (s.h.length : Int) := by omega
  have HJ := hid (show j < s.h.length by omega)
  have HAD := hid (show addO s.h j d = s.h.set j (nth s.h j + d) by rw [addO_set HJ.out, nth_at HJ.out])
  clear h1 hh5 hd hb20 hj
  go_enter Try.func15, Try.ntmps15
  go_wp2_with fail
  obtain ⟨w1, hw1⟩ : ∃ w1, w1 = (w.alloc (.cells #[.int .i64 s.t, .slice A1 s.m.length c1, .slice A2 s.h.length c2] 25)).alloc (.cells #[.int .i64 0, .slice none 0 0, .slice none 0 0] 25) := ⟨_, rfl⟩
  rw [← hw1] at px0 pr0 hB0 hs0 hz0 ⊢
  clear hw1
  have px1 := px0
  have pr1 := pr0
  have hs1 := hs0
  have hz1 := hz0
  have hB1 := hB0
  clear px0 pr0 hs0 hB0 hz0
  obtain ⟨p0, p1, p2, pl, pf⟩ := px1.three
  have hsd := hs1.drew
  have hpxd := px1.drew
  have hprd := pr1.drew
  have hbd1 := hB1.drew
  have n11 : ¬ w.heap.size = w1.heap.size := by omega
  have n12 : ¬ w1.heap.size = w.heap.size := by omega
  go_cut [7] from 8 to 16 (fun v7 wx => ∃ (g8 : Nat) (Aa : Option Addr) (ca gb cb : Nat), v7 = .pointer (some ⟨g8, 0, none⟩) ∧ At wx g8 25 #[.int .i64 s.t, .slice Aa s.m.length ca, .slice (some ⟨gb, 0, none⟩) s.h.length cb] ∧ At wx (w.heap.size + 1) 25 #[.int .i64 0, .slice none 0 0, .slice none 0 0] ∧ OwnR wx w.heap.size Aa (some ⟨gb, 0, none⟩) ca cb s ∧ Below w.heap.size w wx ∧ w.heap.size + 2 ≤ g8)
  case first =>
    go_region_held3 (fun w' => w'.cell? ⟨w.heap.size, 0, none⟩ = some (.int .i64 s.t) ∧ w'.cell? ⟨w.heap.size, 1, none⟩ = some (.slice A1 s.m.length c1) ∧ w'.cell? ⟨w.heap.size, 2, none⟩ = some (.slice A2 s.h.length c2))
      (first | with_reducible exact ⟨p0, p1, p2⟩ | with_reducible exact ⟨a0, a1, a2⟩ | with_reducible exact ⟨b0, b1, b2⟩ | go_keep)
      (first
        | (go_at_call 18; (with_reducible refine (copyInts_any A1 c1 s.m _ (by first | exact hsd.most | exact ((hs1.alloc _).drew).most) H1.out).mono ?_); rintro e wa ⟨va, rfl, hoa, hba⟩; obtain ⟨Aa, ca, rfl, _⟩ := hoa.form; have pxa := (by first | exact hpxd.below hba hpxd.lt | exact ((px1.alloc _).drew).below hba ((px1.alloc _).drew).lt : At wa w.heap.size 25 #[.int .i64 s.t, .slice A1 s.m.length c1, .slice A2 s.h.length c2]); have pra := (by first | exact hprd.below hba hprd.lt | exact ((pr1.alloc _).drew).below hba ((pr1.alloc _).drew).lt : At wa (w.heap.size + 1) 25 #[.int .i64 0, .slice none 0 0, .slice none 0 0]); have hsa := (by first | exact hsd.on hba | exact ((hs1.alloc _).drew).on hba : SeesR wa wa.heap.size A1 A2 s); have hoam := (by first | exact hoa | exact hoa.mono (Nat.le_of_lt (by simp)) : Own wa w1.heap.size (.slice Aa s.m.length ca) s.m); have hbA := (by first | exact hbd1.trans (hba.mono hbd1.size) | exact ((hB1.alloc hB1.size _).drew).trans (hba.mono ((hB1.alloc hB1.size _).drew).size) : Below w.heap.size w wa); have hza := (by first | exact hba.size | exact Nat.le_trans (Nat.le_of_lt (by simp)) hba.size : w1.heap.size ≤ wa.heap.size); obtain ⟨a0, a1, a2, al, af⟩ := pxa.three; have na1 : ¬ w.heap.size = wa.heap.size := Nat.ne_of_lt al; have na2 : ¬ wa.heap.size = w.heap.size := fun e => Nat.ne_of_lt al e.symm; (try have pza := ((At.newAt 25 #[.int .i64 0, .slice none 0 0, .slice none 0 0] rfl).drew : At ((w1.alloc (.cells #[.int .i64 0, .slice none 0 0, .slice none 0 0] 25)).drew) w1.heap.size 25 #[.int .i64 0, .slice none 0 0, .slice none 0 0]).below hba (by simp)))
        | (go_at_call 18; (with_reducible refine (copyInts_any A2 c2 s.h _ (by first | exact hsa.has | exact (hsa.alloc _).has) H2.out).mono ?_); rintro e wb ⟨vb, rfl, hob, hbb⟩; obtain ⟨gb, cb, rfl, hcb⟩ := own_rowS hob (by have := HHL.out; omega); have pxb := (by first | exact pxa.below hbb pxa.lt | exact (pxa.alloc _).below hbb (pxa.alloc _).lt : At wb w.heap.size 25 #[.int .i64 s.t, .slice A1 s.m.length c1, .slice A2 s.h.length c2]); have prb := (by first | exact pra.below hbb pra.lt | exact (pra.alloc _).below hbb (pra.alloc _).lt : At wb (w.heap.size + 1) 25 #[.int .i64 0, .slice none 0 0, .slice none 0 0]); have hoa2 := (by first | exact hoam.below hbb | exact (hoam.alloc4 _).below hbb : Own wb w1.heap.size (.slice Aa s.m.length ca) s.m); have hobm := (by first | exact hob | exact hob.mono (Nat.le_of_lt (by simp)) : Own wb wa.heap.size (.slice (some ⟨gb, 0, none⟩) s.h.length cb) s.h); have hbB := (by first | exact hbA.trans (hbb.mono hbA.size) | exact (hbA.alloc hbA.size _).trans (hbb.mono (hbA.alloc hbA.size _).size) : Below w.heap.size w wb); have hzb := (by first | exact hbb.size | exact Nat.le_trans (Nat.le_of_lt (by simp)) hbb.size : wa.heap.size ≤ wb.heap.size); obtain ⟨b0, b1, b2, bl, bf⟩ := pxb.three; (try have pzb := pza.below hbb pza.lt); (try have pzb := (At.newAt 25 #[.int .i64 0, .slice none 0 0, .slice none 0 0] rfl : At (wa.alloc (.cells #[.int .i64 0, .slice none 0 0, .slice none 0 0] 25)) wa.heap.size 25 #[.int .i64 0, .slice none 0 0, .slice none 0 0]).below hbb (by simp)); (try have pzc := pzb.cell); (try have pzf := pzb.frozen))
        | fail)
    all_goals
      go_wp2_with fail
      have hfar := afar_of hoam.out.lt hobm.out.lt (.inl (Nat.le_refl _))
      have hOw : OwnR wb w.heap.size Aa (some ⟨gb, 0, none⟩) ca cb s := ⟨hoa2.mono hB1.size, hobm.mono (by omega), hfar⟩
      clear p0 p1 p2 pf a0 a1 a2 af b0 b1 b2 bf hoa hob hoam hoa2 hobm hfar
      go_meet
      first
        | exact ⟨_, _, _, _, _, rfl, At.newAt _ _ rfl, prb.alloc _, hOw.alloc _, hbB.alloc hbB.size _, by omega⟩
        | (obtain ⟨hp8, hg8⟩ := three_put (.int .i64 s.t) (.slice Aa s.m.length ca) (.slice (some ⟨gb, 0, none⟩) s.h.length cb) pzb rfl
           exact ⟨_, _, _, _, _, rfl, hp8, prb.past hg8 (by omega), hOw.past pzb (by decide) hg8, below_put hbB hg8 (by omega) hbB.size, by omega⟩)
  case rest =>
    obtain ⟨g8, Aa, ca, gb, cb, rfl, px8, pr8, hO, hB, hz8⟩ := hcut
    clear p0 p1 p2 pl pf hsd hpxd hprd hbd1 n11 n12 px1 pr1 hs1 hB1
    have px9 := px8.drew
    have pr9 := pr8.drew
    have hO9 := hO.drew
    have hB9 := hB.drew
    go_wp2_with fail
    refine wp_region_still_tail 11 (by kernel_rfl) (by kernel_rfl) ?_
    simp only [List.take_succ_cons, List.take_zero, List.drop_succ_cons, List.drop_zero]
    change wpStill _ _ (World.drew wc) (fun a' => wpList _ _ _ _ a' (World.drew wc)) _ _
    obtain ⟨wd, hwd⟩ : ∃ wd, wd = World.drew wc := ⟨_, rfl⟩
    rw [← hwd] at px9 pr9 hO9 hB9 ⊢
    clear hwd px8 pr8 hO hB
    obtain ⟨p0, p1, p2, pl, pf⟩ := px9.three
    have hr := hO9.2.1.out
    have e1 := row_int hr HJ.out
    rw [← nth_at HJ.out] at e1
    have hfr := row_thaw hr
    have hbg := row_base hr
    have hput := row_put hr j (.int .i64 (nth s.h j + d))
    rw [ints_set, ← HAD.out] at hput
    have hne := row_ne hr px9 (by decide)
    have hn8 : g8 ≠ gb := fun e => hne (by rw [e]; rfl)
    have hnr := row_ne hr pr9 (by decide)
    have hnr' : w.heap.size + 1 ≠ gb := fun e => hnr (by rw [e]; rfl)
    have hfar := hO9.2.2
    have hnm : (Value.slice Aa s.m.length ca).ownBlock ≠ some gb := fun e => hfar gb e rfl
    have hgs := grown_set wd gb j (.int .i64 (nth s.h j + d))
    have hl2 : (chg s j d).h.length = s.h.length := addO_len _ _ _
    have hO2 : OwnR (wd.setCell ⟨gb, j, none⟩ (.int .i64 (nth s.h j + d))) w.heap.size Aa (some ⟨gb, 0, none⟩) ca cb (chg s j d) := by
      refine ⟨row_kept hO9.1.out hgs (fun q hq e => hnm (hq.trans e.symm)), ?_, ?_⟩
      · unfold Own; rw [hl2]; exact hput
      · rw [hl2]; exact hfar
    have px3 := px9.past hgs hn8
    have pr3 := pr9.past hgs hnr'
    have hB3 := below_put hB9 hgs hbg.1 hB9.size
    obtain ⟨hp2, hg2⟩ := three_put (.int .i64 s.t) (.slice Aa s.m.length ca) (.slice (some ⟨gb, 0, none⟩) s.h.length cb) pr3 rfl
    have hB4 := below_put hB3 hg2 (Nat.le_succ _) hB3.size
    have hO4 := hO2.past pr3 (by decide) hg2
    have hw : IntKind.i64.wrap (nth s.h j + d) = nth s.h j + d := by have := HD.out; have := HBD.out; rw [IntKind.wrap_i64]; omega
    have HL2 := hid hl2
    have HO4 := hid hO4
    have HB4 := hid hB4
    have HP2 := hid hp2.cell
    have hn8a : ¬ g8 = gb := hn8
    have hn8b : ¬ gb = g8 := fun e => hn8 e.symm
    have hn1 : ¬ g8 = w.heap.size + 1 := by omega
    have hn2 : ¬ w.heap.size + 1 = g8 := by omega
    have hn3 : ¬ gb = w.heap.size + 1 := fun e => hnr' e.symm
    have hn4 : ¬ w.heap.size + 1 = gb := hnr'
    obtain ⟨q0, q1, q2, ql, qf⟩ := pr9.three
    obtain ⟨x, hx⟩ : ∃ x, x = nth s.h j := ⟨_, rfl⟩
    rw [← hx] at e1 hw HO4 HB4 HP2
    clear hx hl2 hO2 hput hgs hr hne hn8 hnr hnr' hfar hnm hO9 px9 pr9 hB9 px3 pr3 hB3 hp2 hg2 hB4 hO4
    repeat still_step
    refine wpStill_nil ?_
    go_wp2
    refine bodyPost_ret (v := .agg #[.int .i64 s.t, .slice Aa s.m.length ca, .slice (some ⟨gb, 0, none⟩) s.h.length cb]) (by simp [results, Try.results15, go_sem, HP2.out]) rfl ?_
    exact ⟨Aa, some ⟨gb, 0, none⟩, ca, cb, by rw [HL2.out]; rfl, HO4.out, HB4.out⟩

end Go.Proofs.Ytmpiigjkmodekaa

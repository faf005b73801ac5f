/-
  The walk of the law FnLeaveLine: at every code it returns true and changes nothing that was there. Conditions: none.
-/
import Derived.Test.YtcfijijpcafncaaLawFrameB
import Derived.Test.YtcfijijpcafncaaLineDrawB
import Derived.Test.YtcfijijpcafncaaLineE
import Derived.Test.YtcfijijpcafncaaLineI
import Derived.Test.YtcfijijpcafncaaLineK
import Derived.Deep.RegionHeld3
namespace Go.Proofs.Ytcfijijpcafncaa
open Go.RowKit

set_option maxHeartbeats 2000000 in
theorem walkLeaveLine (a : Option Addr) (len cap : Nat) (zs : List Int) (w : World) (hn : zs.length = len) (hc : len ≤ cap) (hcc : cap ≤ maxLen) (h : Sees w w.heap.size a (byts zs)) (hz : ∀ y ∈ zs, 0 ≤ y ∧ y ≤ 255) :
    Calls Try.prog 7 #[.slice a len cap] w fun e w' => e = .returned (.bool true) ∧ Below w.heap.size w w' := by
  have HE := hid hn
  have HC := hid hcc
  have HZ := hid hz
  clear hn hcc hz
  by_cases hbig : 1048576 < len
  · go_enter Try.func7, Try.ntmps7
    go_wp2
    go_ret
    exact ⟨rfl, Below.refl _ _⟩
  · go_enter Try.func7, Try.ntmps7
    go_wp2_with fail
    refine (drawLeaveLine_any _ _ _ _ _ h HZ.out HE.out hc (by omega) HC.out).mono ?_
    rintro e w1 ⟨s, n, A, c, l, t, rfl, ho, k1, k2, k3, k4, hl, hb1⟩
    have HL := hid (show l.length ≤ 4194304 by omega)
    clear hl
    have ls := LS.start (s := s) (n := n) ho hb1
    rcases hb : Line.leaveB s n l t with _ | _
    · go_wp2_with fail
      refine (iLeaveLine_any _ _ _ _ _ _ _ ls.sees HL.out).mono ?_
      rintro e w2 ⟨⟨hf, _⟩ | ⟨_, rfl⟩, hb2⟩
      · rw [hb] at hf; cases hf
      have ls2 := ls.below hb2
      obtain ⟨c0, c1, c2, cl⟩ := ls2.cells
      have lo := LS.zero w2
      have ls3 := ls2.alloc (.cells #[.int .i64 0, .int .i64 0, .slice none 0 0] 25)
      go_wp2_with fail
      refine (sLeaveLine_any _ _ _ _ _ _ _ ls3.sees HL.out).mono ?_
      rintro e w3 ⟨⟨hf, _⟩ | ⟨_, rfl⟩, hb3⟩
      · rw [hb] at hf; cases hf
      have ls4 := ls3.below hb3
      have lo4 := lo.below hb3
      clear c0 c1 c2 cl
      obtain ⟨c0, c1, c2, cl⟩ := lo4.cells
      go_wp2_with fail
      refine (equalLine_zero _).mono ?_
      rintro e w4 ⟨rfl, hb4⟩
      have ls5 := (ls4.alloc (.cells #[.int .i64 0, .int .i64 0, .slice none 0 0] 25)).below hb4
      have lo5 := (lo4.alloc (.cells #[.int .i64 0, .int .i64 0, .slice none 0 0] 25)).below hb4
      have lw5 := (LS.zero w3).below hb4
      clear c0 c1 c2 cl
      obtain ⟨d0, d1, d2, dl⟩ := lo5.cells
      obtain ⟨e0, e1, e2, el⟩ := lw5.cells
      go_wp2_with fail
      refine (equalLine_zero _).mono ?_
      rintro e w6 ⟨rfl, hb6⟩
      have ls7 := ls5.below hb6
      go_wp2
      go_ret
      exact ⟨rfl, ls7.2.2.1⟩
    · obtain ⟨hok, p1, p2, p3⟩ := Line.leave_parts hb
      have HB := hid hb
      have hgl := hid (show (Line.leaveG s n l t).length ≤ 4194304 by have := Line.gone_len (Line.leave_ok hb); omega)
      go_wp2_with fail
      refine (iLeaveLine_any _ _ _ _ _ _ _ ls.sees HL.out).mono ?_
      rintro e w2 ⟨⟨_, v2, rfl, ho2⟩ | ⟨hf, _⟩, hb2⟩
      rotate_left
      · rw [hb] at hf; cases hf
      obtain ⟨A2, cc2, rfl, _⟩ := ho2.form
      have ls2 := ls.below hb2
      obtain ⟨c0, c1, c2, cl⟩ := ls2.cells
      have lo := LS.start (s := Line.leaveS s n l t) (n := n) ho2 hb2
      have ls3 := ls2.alloc (.cells #[.int .i64 (Line.leaveS s n l t), .int .i64 n, .slice A2 (Line.leaveG s n l t).length cc2] 25)
      go_wp2_with fail
      refine (sLeaveLine_any _ _ _ _ _ _ _ ls3.sees HL.out).mono ?_
      rintro e w3 ⟨⟨_, v3, rfl, ho3⟩ | ⟨hf, _⟩, hb3⟩
      rotate_left
      · rw [hb] at hf; cases hf
      obtain ⟨A3, cc3, rfl, _⟩ := ho3.form
      have ls4 := ls3.below hb3
      have lo4 := lo.below hb3
      have lw4 := LS.start (s := Line.leaveS s n l t) (n := n) ho3 hb3
      clear c0 c1 c2 cl
      obtain ⟨c0, c1, c2, cl⟩ := lo4.cells
      go_wp2_with fail
      refine (equalLine_same _ _ _ _ _ _ _ _ (lo4.alloc _).sees lw4.sees hgl.out).mono ?_
      rintro e w4 ⟨rfl, hb4⟩
      have ls5 := (ls4.alloc (.cells #[.int .i64 (Line.leaveS s n l t), .int .i64 n, .slice A3 (Line.leaveG s n l t).length cc3] 25)).below hb4
      have lo5 := (lo4.alloc (.cells #[.int .i64 (Line.leaveS s n l t), .int .i64 n, .slice A3 (Line.leaveG s n l t).length cc3] 25)).below hb4
      clear c0 c1 c2 cl
      obtain ⟨c0, c1, c2, cl⟩ := ls5.cells
      have hok' := Line.leave_ok hb
      have hagain := Line.leave_again (s := s) (n := n) (t := t) (g := l)
      have hww : (Line.waitV s n l).filter (fun y => !(y == t)) = Line.waitV (Line.leaveS s n l t) n (Line.leaveG s n l t) := by
        rw [Line.waitV_yes hok', Line.waitV_yes hok, Line.leave_waits]
      have hw12 := hid (show (Line.waitV s n l).length ≤ 4194304 by have := waitV_len s n l; omega)
      clear c0 c1 c2 cl
      obtain ⟨S, hS⟩ : ∃ S, S = Line.leaveS s n l t := ⟨_, rfl⟩
      obtain ⟨G, hG⟩ : ∃ G, G = Line.leaveG s n l t := ⟨_, rfl⟩
      rw [← hS, ← hG] at lo5 hww hagain hok'
      rw [← hG] at hgl
      rw [← hS, ← hG]
      clear hS hG
      have HWW := hid hww
      have hw13 := hid (show (Line.waitV S n G).length ≤ 4194304 by have := waitV_len S n G; omega)
      obtain ⟨c0, c1, c2, cl⟩ := lo5.cells
      go_wp2_with fail
      refine (iLeaveLine_any _ _ _ _ _ _ _ lo5.sees hgl.out).mono ?_
      rintro e w5 ⟨⟨hf, _⟩ | ⟨_, rfl⟩, hb5⟩
      · rw [hagain] at hf; cases hf
      have ls6 := (ls5.below hb5).alloc (.cells #[.int .i64 0, .int .i64 0, .slice none 0 0] 25)
      have lx6 := (lo5.below hb5).alloc (.cells #[.int .i64 0, .int .i64 0, .slice none 0 0] 25)
      have HOK := hid hok'
      clear hww hagain hok' hok hb2 hb3 hb4 hb5 ho2 ho3 lo lo4 lo5 lw4 ls2 ls3 ls4 ls5 c0 c1 c2 cl p1 p2 p3
      have lsd := ls6.below ((Below.refl _ _).drew)
      have lxd := lx6.below ((Below.refl _ _).drew)
      obtain ⟨y0, y1, y2, yl⟩ := ls6.cells
      obtain ⟨x0, x1, x2, xl⟩ := lx6.cells
      go_wp2_with fail
      go_region_held3 (fun w' => w'.cell? ⟨w1.heap.size, 0, none⟩ = some (.int .i64 s) ∧ w'.cell? ⟨w1.heap.size, 1, none⟩ = some (.int .i64 n) ∧ w'.cell? ⟨w1.heap.size, 2, none⟩ = some (.slice A l.length c) ∧ w'.cell? ⟨w2.heap.size, 0, none⟩ = some (.int .i64 S) ∧ w'.cell? ⟨w2.heap.size, 1, none⟩ = some (.int .i64 n) ∧ w'.cell? ⟨w2.heap.size, 2, none⟩ = some (.slice A2 G.length cc2))
        (first | with_reducible exact ⟨y0, y1, y2, x0, x1, x2⟩ | with_reducible exact ⟨a0, a1, a2, a3, a4, a5⟩ | with_reducible exact ⟨b0, b1, b2, b3, b4, b5⟩ | with_reducible exact ⟨d0, d1, d2, d3, d4, d5⟩ | with_reducible exact ⟨e0, e1, e2, e3, e4, e5⟩ | with_reducible exact ⟨f0, f1, f2, f3, f4, f5⟩ | go_keep)
        (first
          | (go_at_call 17; with_reducible refine (iWaitingTickets_any A2 cc2 S n G _ lxb.sees hgl.out).mono ?_; rintro e wd ⟨vd, rfl, hod, hbd⟩; obtain ⟨Ad, cd, rfl, _⟩ := hod.form; have hobd := hob.below hbd; have lsd' := lsb.below hbd; have lxd' := lxb.below hbd; obtain ⟨d0, d1, d2, dl⟩ := lsd'.cells; obtain ⟨d3, d4, d5, dm⟩ := lxd'.cells)
          | (go_at_call 17; with_reducible refine (iWaitingTickets_any A2 cc2 S n G _ lxa.sees hgl.out).mono ?_; rintro e wd ⟨vd, rfl, hod, hbd⟩; obtain ⟨Ad, cd, rfl, _⟩ := hod.form; have hoad := hoa.below hbd; have lsd' := lsa.below hbd; have lxd' := lxa.below hbd; obtain ⟨d0, d1, d2, dl⟩ := lsd'.cells; obtain ⟨d3, d4, d5, dm⟩ := lxd'.cells)
          | (go_at_call 17; with_reducible refine (iWaitingTickets_any A2 cc2 S n G _ lxd.sees hgl.out).mono ?_; rintro e wd ⟨vd, rfl, hod, hbd⟩; obtain ⟨Ad, cd, rfl, _⟩ := hod.form; have lsd' := lsd.below hbd; have lxd' := lxd.below hbd; obtain ⟨d0, d1, d2, dl⟩ := lsd'.cells; obtain ⟨d3, d4, d5, dm⟩ := lxd'.cells)
          | (go_at_call 17; with_reducible refine (iWaitingTickets_any A c s n l _ lsd'.sees HL.out).mono ?_; rintro e wa ⟨va, rfl, hoa, hba⟩; obtain ⟨Aa, ca, rfl, _⟩ := hoa.form; have hoda := hod.below hba; have lsa := lsd'.below hba; have lxa := lxd'.below hba; obtain ⟨a0, a1, a2, al⟩ := lsa.cells; obtain ⟨a3, a4, a5, am⟩ := lxa.cells)
          | (go_at_call 17; with_reducible refine (iWaitingTickets_any A c s n l _ lsd.sees HL.out).mono ?_; rintro e wa ⟨va, rfl, hoa, hba⟩; obtain ⟨Aa, ca, rfl, _⟩ := hoa.form; have lsa := lsd.below hba; have lxa := lxd.below hba; obtain ⟨a0, a1, a2, al⟩ := lsa.cells; obtain ⟨a3, a4, a5, am⟩ := lxa.cells)
          | (go_at_call 25; with_reducible refine (without_any Aa ca (Line.waitV s n l) t _ (Sees.of_own hoad.out) hw12.out).mono ?_; rintro e wb ⟨vb, rfl, hob, hbb⟩; rw [HWW.out] at hob; obtain ⟨Ab, cb, rfl, _⟩ := hob.form; have hodb := hod.below hbb; have lsb := lsd'.below hbb; have lxb := lxd'.below hbb; obtain ⟨b0, b1, b2, bl⟩ := lsb.cells; obtain ⟨b3, b4, b5, bm⟩ := lxb.cells)
          | (go_at_call 25; with_reducible refine (without_any Aa ca (Line.waitV s n l) t _ (Sees.of_own hoa.out) hw12.out).mono ?_; rintro e wb ⟨vb, rfl, hob, hbb⟩; rw [HWW.out] at hob; obtain ⟨Ab, cb, rfl, _⟩ := hob.form; try (have hodb := hoda.below hbb); have lsb := lsa.below hbb; have lxb := lxa.below hbb; obtain ⟨b0, b1, b2, bl⟩ := lsb.cells; obtain ⟨b3, b4, b5, bm⟩ := lxb.cells)
          | (go_at_call 18; with_reducible refine (equalInts_same Ad Ab cd cb (Line.waitV S n G) _ (Sees.of_own hodb.out) (Sees.of_own hob.out) hw13.out).mono ?_; rintro e we ⟨rfl, hbe⟩; have lse := lsb.below hbe; have lxe := lxb.below hbe; obtain ⟨e0, e1, e2, el⟩ := lse.cells; obtain ⟨e3, e4, e5, em⟩ := lxe.cells)
          | (go_at_call 18; with_reducible refine (equalInts_same Ad Ab cd cb (Line.waitV S n G) _ (Sees.of_own hod.out) (Sees.of_own hobd.out) hw13.out).mono ?_; rintro e we ⟨rfl, hbe⟩; have lse := lsd'.below hbe; have lxe := lxd'.below hbe; obtain ⟨e0, e1, e2, el⟩ := lse.cells; obtain ⟨e3, e4, e5, em⟩ := lxe.cells)
          | (go_at_call 11; with_reducible refine (iValidLine_any A2 cc2 S n G _ lxe.sees (Nat.le_trans hgl.out (by decide))).mono ?_; rintro e wf ⟨hvf, hbf⟩; rw [HOK.out] at hvf; subst hvf; have lsf := lse.below hbf; have lxf := lxe.below hbf; obtain ⟨f0, f1, f2, fl⟩ := lsf.cells; obtain ⟨f3, f4, f5, fm⟩ := lxf.cells))
      all_goals
        go_wp2
        go_ret
        exact ⟨rfl, lsf.2.2.1⟩

end Go.Proofs.Ytcfijijpcafncaa

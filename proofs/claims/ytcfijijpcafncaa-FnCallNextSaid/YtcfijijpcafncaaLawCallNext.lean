/-
  The walk of the law FnCallNext: at every code it returns true and changes nothing that was there. Conditions: none.
-/
import Derived.Test.YtcfijijpcafncaaLawFrameC
import Derived.Test.YtcfijijpcafncaaLineE
import Derived.Test.YtcfijijpcafncaaLineG
import Derived.Test.YtcfijijpcafncaaLineI
import Derived.Test.YtcfijijpcafncaaLineJ
import Derived.Test.YtcfijijpcafncaaLineMathD
import Derived.Deep.RegionHeld3
namespace Go.Proofs.Ytcfijijpcafncaa
open Go.RowKit

set_option maxHeartbeats 2000000 in
theorem walkCallNext (a : Option Addr) (len cap : Nat) (zs : List Int) (w : World) (hn : zs.length = len) (hc : len ≤ cap) (hcc : cap ≤ maxLen) (h : Sees w w.heap.size a (byts zs)) (hz : ∀ y ∈ zs, 0 ≤ y ∧ y ≤ 255) :
    Calls Try.prog 9 #[.slice a len cap] w fun e w' => e = .returned (.bool true) ∧ Below w.heap.size w w' := by
  have HE := hid hn
  have HC := hid hcc
  have HZ := hid hz
  clear hn hcc hz
  by_cases hbig : 1048576 < len
  · go_enter Try.func9, Try.ntmps9
    go_wp2
    go_ret
    exact ⟨rfl, Below.refl _ _⟩
  · go_enter Try.func9, Try.ntmps9
    go_wp2_with fail
    refine (drawCallNext_any _ _ _ _ _ h HZ.out HE.out hc (by omega) HC.out).mono ?_
    rintro e w1 ⟨s, n, A, c, l, rfl, ho, k1, k2, k3, k4, hl, hb1⟩
    have HL := hid (show l.length ≤ 4194304 by omega)
    clear hl
    have ls := LS.start (s := s) (n := n) ho hb1
    rcases hb : Line.callB s n l with _ | _
    · go_wp2_with fail
      refine (iCallNext_any _ _ _ _ _ _ ls.sees HL.out).mono ?_
      rintro e w2 ⟨⟨hf, _⟩ | ⟨_, rfl⟩, hb2⟩
      · rw [hb] at hf; cases hf
      have ls2 := ls.below hb2
      obtain ⟨c0, c1, c2, cl⟩ := ls2.cells
      have lo := LS.zero w2
      have ls3 := ls2.alloc (.cells #[.int .i64 0, .int .i64 0, .slice none 0 0] 25)
      go_wp2_with fail
      refine (sCallNext_any _ _ _ _ _ _ ls3.sees HL.out).mono ?_
      rintro e w3 ⟨⟨hf, _⟩ | ⟨_, rfl⟩, hb3⟩
      · rw [hb] at hf; cases hf
      have ls4 := ls3.below hb3
      have lo4 := lo.below hb3
      clear c0 c1 c2 cl
      obtain ⟨c0, c1, c2, cl⟩ := lo4.cells
      go_wp2_with fail
      refine (equalLine_zero _).mono ?_
      rintro e w4 ⟨rfl, hb4⟩
      have ls5 := (ls4.alloc (.cells #[.int .i64 0, .int .i64 0, .slice none 0 0] 25)).below hb4
      have lo5 := (lo4.alloc (.cells #[.int .i64 0, .int .i64 0, .slice none 0 0] 25)).below hb4
      have lw5 := (LS.zero w3).below hb4
      clear c0 c1 c2 cl
      obtain ⟨d0, d1, d2, dl⟩ := lo5.cells
      obtain ⟨e0, e1, e2, el⟩ := lw5.cells
      go_wp2_with fail
      refine (equalLine_zero _).mono ?_
      rintro e w6 ⟨rfl, hb6⟩
      have ls7 := ls5.below hb6
      go_wp2
      go_ret
      exact ⟨rfl, ls7.2.2.1⟩
    · obtain ⟨hok, _⟩ := Line.call_parts hb
      have HB := hid hb
      have hgl := hid (show (Line.callG s n l).length ≤ 4194304 by have := Line.gone_len (Line.call_ok hb); omega)
      go_wp2_with fail
      refine (iCallNext_any _ _ _ _ _ _ ls.sees HL.out).mono ?_
      rintro e w2 ⟨⟨_, v2, rfl, ho2⟩ | ⟨hf, _⟩, hb2⟩
      rotate_left
      · rw [hb] at hf; cases hf
      obtain ⟨A2, cc2, rfl, _⟩ := ho2.form
      have ls2 := ls.below hb2
      obtain ⟨c0, c1, c2, cl⟩ := ls2.cells
      have lo := LS.start (s := Line.callT s n l + 1) (n := n) ho2 hb2
      have ls3 := ls2.alloc (.cells #[.int .i64 (Line.callT s n l + 1), .int .i64 n, .slice A2 (Line.callG s n l).length cc2] 25)
      go_wp2_with fail
      refine (sCallNext_any _ _ _ _ _ _ ls3.sees HL.out).mono ?_
      rintro e w3 ⟨⟨_, v3, rfl, ho3⟩ | ⟨hf, _⟩, hb3⟩
      rotate_left
      · rw [hb] at hf; cases hf
      obtain ⟨A3, cc3, rfl, _⟩ := ho3.form
      have ls4 := ls3.below hb3
      have lo4 := lo.below hb3
      have lw4 := LS.start (s := Line.callT s n l + 1) (n := n) ho3 hb3
      clear c0 c1 c2 cl
      obtain ⟨c0, c1, c2, cl⟩ := lo4.cells
      go_wp2_with fail
      refine (equalLine_same _ _ _ _ _ _ _ _ (lo4.alloc _).sees lw4.sees hgl.out).mono ?_
      rintro e w4 ⟨rfl, hb4⟩
      have ls5 := (ls4.alloc (.cells #[.int .i64 (Line.callT s n l + 1), .int .i64 n, .slice A3 (Line.callG s n l).length cc3] 25)).below hb4
      have lo5 := (lo4.alloc (.cells #[.int .i64 (Line.callT s n l + 1), .int .i64 n, .slice A3 (Line.callG s n l).length cc3] 25)).below hb4
      clear c0 c1 c2 cl
      obtain ⟨c0, c1, c2, cl⟩ := ls5.cells
      have hokn := Line.call_ok hb
      have hw := Line.call_waits hb
      have hww : Line.waitV (Line.callT s n l + 1) n (Line.callG s n l) = Line.waits (Line.callT s n l + 1) n (Line.callG s n l) := Line.waitV_yes hokn
      rw [← hww, ← Line.waitV_yes hok] at hw
      have hw12 := waitV_len s n l
      obtain ⟨m1, m2, _⟩ := Line.callT_mem hb
      obtain ⟨k1', k2', _⟩ := Line.okB_iff.1 hok
      go_wp2_with fail
      refine (iWaitingTickets_any _ _ _ _ _ _ ls5.sees HL.out).mono ?_
      rintro e w5 ⟨v5, rfl, ho5, hb5⟩
      rw [hw] at ho5 hw12
      obtain ⟨T, hT⟩ : ∃ T, T = Line.callT s n l := ⟨_, rfl⟩
      obtain ⟨G, hG⟩ : ∃ G, G = Line.callG s n l := ⟨_, rfl⟩
      obtain ⟨R, hR⟩ : ∃ R, R = Line.waitV (Line.callT s n l + 1) n (Line.callG s n l) := ⟨_, rfl⟩
      have HOK : Hid (Line.okB (T + 1) n G = true) := hid (by rw [hT, hG]; exact hokn)
      have HWW : Hid (Line.waitV (T + 1) n G = R) := hid (by rw [hT, hG, hR])
      rw [← hR, ← hT] at ho5
      rw [← hR] at hw12
      rw [← hT, ← hG] at lo5
      rw [← hG] at hgl
      rw [← hT] at m1 m2
      rw [← hT, ← hG]
      clear hT hG hR hok hokn hw hww
      obtain ⟨A5, cc5, rfl, hcap5, hs5⟩ := ho5.formC
      have ls6 := ls5.below hb5
      have lx6 := lo5.below hb5
      have hwT : IntKind.i64.wrap (T + 1) = T + 1 := by rw [IntKind.wrap_i64]; omega
      simp only [List.length_cons] at hw12 hcap5 ho5 hs5
      clear hb2 hb3 hb4 hb5 ho2 ho3 lo lo4 lo5 lw4 ls2 ls3 ls4 ls5 c0 c1 c2 cl
      obtain ⟨b, o, rfl, hbl, hcell⟩ := hs5.int (k := 0) (by simp)
      simp only [Nat.add_zero, List.getElem_cons_zero] at hcell
      have hpos : (0 : Int) < (((R.length + 1 : Nat)) : Int) := by omega
      have hdec : decide ((0 : Int) < (((R.length + 1 : Nat)) : Int)) = true := decide_eq_true hpos
      have hR12 := hid (show R.length ≤ 4194304 by omega)
      have lsd := ls6.below ((Below.refl _ _).drew)
      have lxd := lx6.below ((Below.refl _ _).drew)
      have hld : Own w5.drew _ (.slice (some ⟨b, o, none⟩) (R.length + 1) cc5) (T :: R) := ho5
      obtain ⟨y0, y1, y2, yl⟩ := lx6.cells
      have yc : w5.drew.cell? ⟨b, o, none⟩ = some (.int .i64 T) := hcell
      have hbd2 : b < w5.drew.heap.size := hbl
      have hsl1 : (1 : Int) ≤ (((R.length + 1 : Nat)) : Int) := by omega
      have hsl2 : (((R.length + 1 : Nat)) : Int) ≤ (cc5 : Int) := by omega
      have hsl3 : (1 : Int) ≤ (cc5 : Int) := by omega
      have hsl4 : (1 : Int) ≤ (R.length : Int) + 1 := by omega
      have hsl5 : (R.length : Int) + 1 ≤ (cc5 : Int) := by omega
      by_cases hc1 : cc5 = 1
      · subst hc1
        have hR0 : R = [] := List.eq_nil_of_length_eq_zero (by omega)
        subst hR0
        go_wp2_with fail
        go_region_held3 (fun w' => w'.cell? ⟨w2.heap.size, 0, none⟩ = some (.int .i64 (T + 1)) ∧ w'.cell? ⟨w2.heap.size, 1, none⟩ = some (.int .i64 n) ∧ w'.cell? ⟨w2.heap.size, 2, none⟩ = some (.slice A2 G.length cc2) ∧ w'.cell? ⟨b, o, none⟩ = some (.int .i64 T))
          (first | with_reducible exact ⟨y0, y1, y2, hcell⟩ | with_reducible exact ⟨p0, p1, p2, pc⟩ | with_reducible exact ⟨v0, v1, v2, vc⟩ | with_reducible exact ⟨e0, e1, e2, ec⟩ | go_keep)
          (first
          | (go_at_call 17; with_reducible refine (iWaitingTickets_any A2 cc2 (T + 1) n G _ lxv.sees hgl.out).mono ?_; rintro e ww ⟨vw, rfl, how, hbw⟩; rw [HWW.out] at how; obtain ⟨Aw, cw, rfl, _⟩ := how.form; have hzw := hbw.size; have hbw2 := Nat.lt_of_lt_of_le hbv2 hzw; have hlw := hlv.below hbw; have lsw := lsv.below hbw; have lxw := lxv.below hbw; obtain ⟨p0, p1, p2, pl⟩ := lxw.cells; obtain ⟨q0, q1, q2, ql⟩ := lsw.cells; have pc := (hbw.cell (p := ⟨b, o, none⟩) hbv2).trans vc)
          | (go_at_call 17; with_reducible refine (iWaitingTickets_any A2 cc2 (T + 1) n G _ lxd.sees hgl.out).mono ?_; rintro e ww ⟨vw, rfl, how, hbw⟩; rw [HWW.out] at how; obtain ⟨Aw, cw, rfl, _⟩ := how.form; have hzw := hbw.size; have hbw2 := Nat.lt_of_lt_of_le hbd2 hzw; have hlw := hld.below hbw; have lsw := lsd.below hbw; have lxw := lxd.below hbw; obtain ⟨p0, p1, p2, pl⟩ := lxw.cells; obtain ⟨q0, q1, q2, ql⟩ := lsw.cells; have pc := (hbw.cell (p := ⟨b, o, none⟩) hbd2).trans yc)
          | (go_at_call 11; with_reducible refine (iValidLine_any A2 cc2 (T + 1) n G _ lxe.sees (Nat.le_trans hgl.out (by decide))).mono ?_; rintro e wv ⟨hvv, hbv⟩; rw [HOK.out] at hvv; subst hvv; have hzv := hbv.size; have hbv2 := Nat.lt_of_lt_of_le hbe2 hzv; have lsv := lse.below hbv; have lxv := lxe.below hbv; obtain ⟨v0, v1, v2, vl⟩ := lxv.cells; obtain ⟨u0, u1, u2, ul⟩ := lsv.cells; have vc := (hbv.cell (p := ⟨b, o, none⟩) hbe2).trans ec)
          | (go_at_call 11; with_reducible refine (iValidLine_any A2 cc2 (T + 1) n G _ lxw.sees (Nat.le_trans hgl.out (by decide))).mono ?_; rintro e wv ⟨hvv, hbv⟩; rw [HOK.out] at hvv; subst hvv; have hzv := hbv.size; have hbv2 := Nat.lt_of_lt_of_le hbw2 hzv; have howv := how.below hbv; have hlwv := hlw.below hbv; have lsv := lsw.below hbv; have lxv := lxw.below hbv; obtain ⟨v0, v1, v2, vl⟩ := lxv.cells; obtain ⟨u0, u1, u2, ul⟩ := lsv.cells; have vc := (hbv.cell (p := ⟨b, o, none⟩) hbw2).trans pc)
          | (go_at_call 11; with_reducible refine (iValidLine_any A2 cc2 (T + 1) n G _ lxd.sees (Nat.le_trans hgl.out (by decide))).mono ?_; rintro e wv ⟨hvv, hbv⟩; rw [HOK.out] at hvv; subst hvv; have hzv := hbv.size; have hbv2 := Nat.lt_of_lt_of_le hbd2 hzv; have hlv := hld.below hbv; have lsv := lsd.below hbv; have lxv := lxd.below hbv; obtain ⟨v0, v1, v2, vl⟩ := lxv.cells; obtain ⟨u0, u1, u2, ul⟩ := lsv.cells; have vc := (hbv.cell (p := ⟨b, o, none⟩) hbd2).trans yc)
          | (go_at_call 18; refine (equalInts_same Aw (some ⟨b, o, none⟩) cw _ [] _ (Sees.of_own howv.out) Sees.nil hR12.out).mono ?_; rintro e we ⟨rfl, hbe⟩; have hze := hbe.size; have hbe2 := Nat.lt_of_lt_of_le hbv2 hze; have lse := lsv.below hbe; have lxe := lxv.below hbe; obtain ⟨e0, e1, e2, el⟩ := lxe.cells; obtain ⟨f0, f1, f2, fl⟩ := lse.cells; have ec := (hbe.cell (p := ⟨b, o, none⟩) hbv2).trans vc)
          | (go_at_call 18; refine (equalInts_same Aw (some ⟨b, o, none⟩) cw _ [] _ (Sees.of_own how.out) Sees.nil hR12.out).mono ?_; rintro e we ⟨rfl, hbe⟩; have hze := hbe.size; have hbe2 := Nat.lt_of_lt_of_le hbw2 hze; have lse := lsw.below hbe; have lxe := lxw.below hbe; obtain ⟨e0, e1, e2, el⟩ := lxe.cells; obtain ⟨f0, f1, f2, fl⟩ := lse.cells; have ec := (hbe.cell (p := ⟨b, o, none⟩) hbw2).trans pc))
        all_goals
          go_wp2
          go_ret
          first | with_reducible exact ⟨rfl, LS.bel lsv⟩ | with_reducible exact ⟨rfl, LS.bel lse⟩
      · have hc2 : ¬ (cc5 : Int) = 1 := by omega
        go_wp2_with fail
        go_region_held3 (fun w' => w'.cell? ⟨w2.heap.size, 0, none⟩ = some (.int .i64 (T + 1)) ∧ w'.cell? ⟨w2.heap.size, 1, none⟩ = some (.int .i64 n) ∧ w'.cell? ⟨w2.heap.size, 2, none⟩ = some (.slice A2 G.length cc2) ∧ w'.cell? ⟨b, o, none⟩ = some (.int .i64 T))
          (first | with_reducible exact ⟨y0, y1, y2, hcell⟩ | with_reducible exact ⟨p0, p1, p2, pc⟩ | with_reducible exact ⟨v0, v1, v2, vc⟩ | with_reducible exact ⟨e0, e1, e2, ec⟩ | go_keep)
          (first
          | (go_at_call 17; with_reducible refine (iWaitingTickets_any A2 cc2 (T + 1) n G _ lxv.sees hgl.out).mono ?_; rintro e ww ⟨vw, rfl, how, hbw⟩; rw [HWW.out] at how; obtain ⟨Aw, cw, rfl, _⟩ := how.form; have hzw := hbw.size; have hbw2 := Nat.lt_of_lt_of_le hbv2 hzw; have hlw := hlv.below hbw; have lsw := lsv.below hbw; have lxw := lxv.below hbw; obtain ⟨p0, p1, p2, pl⟩ := lxw.cells; obtain ⟨q0, q1, q2, ql⟩ := lsw.cells; have pc := (hbw.cell (p := ⟨b, o, none⟩) hbv2).trans vc)
          | (go_at_call 17; with_reducible refine (iWaitingTickets_any A2 cc2 (T + 1) n G _ lxd.sees hgl.out).mono ?_; rintro e ww ⟨vw, rfl, how, hbw⟩; rw [HWW.out] at how; obtain ⟨Aw, cw, rfl, _⟩ := how.form; have hzw := hbw.size; have hbw2 := Nat.lt_of_lt_of_le hbd2 hzw; have hlw := hld.below hbw; have lsw := lsd.below hbw; have lxw := lxd.below hbw; obtain ⟨p0, p1, p2, pl⟩ := lxw.cells; obtain ⟨q0, q1, q2, ql⟩ := lsw.cells; have pc := (hbw.cell (p := ⟨b, o, none⟩) hbd2).trans yc)
          | (go_at_call 11; with_reducible refine (iValidLine_any A2 cc2 (T + 1) n G _ lxe.sees (Nat.le_trans hgl.out (by decide))).mono ?_; rintro e wv ⟨hvv, hbv⟩; rw [HOK.out] at hvv; subst hvv; have hzv := hbv.size; have hbv2 := Nat.lt_of_lt_of_le hbe2 hzv; have lsv := lse.below hbv; have lxv := lxe.below hbv; obtain ⟨v0, v1, v2, vl⟩ := lxv.cells; obtain ⟨u0, u1, u2, ul⟩ := lsv.cells; have vc := (hbv.cell (p := ⟨b, o, none⟩) hbe2).trans ec)
          | (go_at_call 11; with_reducible refine (iValidLine_any A2 cc2 (T + 1) n G _ lxw.sees (Nat.le_trans hgl.out (by decide))).mono ?_; rintro e wv ⟨hvv, hbv⟩; rw [HOK.out] at hvv; subst hvv; have hzv := hbv.size; have hbv2 := Nat.lt_of_lt_of_le hbw2 hzv; have howv := how.below hbv; have hlwv := hlw.below hbv; have lsv := lsw.below hbv; have lxv := lxw.below hbv; obtain ⟨v0, v1, v2, vl⟩ := lxv.cells; obtain ⟨u0, u1, u2, ul⟩ := lsv.cells; have vc := (hbv.cell (p := ⟨b, o, none⟩) hbw2).trans pc)
          | (go_at_call 11; with_reducible refine (iValidLine_any A2 cc2 (T + 1) n G _ lxd.sees (Nat.le_trans hgl.out (by decide))).mono ?_; rintro e wv ⟨hvv, hbv⟩; rw [HOK.out] at hvv; subst hvv; have hzv := hbv.size; have hbv2 := Nat.lt_of_lt_of_le hbd2 hzv; have hlv := hld.below hbv; have lsv := lsd.below hbv; have lxv := lxd.below hbv; obtain ⟨v0, v1, v2, vl⟩ := lxv.cells; obtain ⟨u0, u1, u2, ul⟩ := lsv.cells; have vc := (hbv.cell (p := ⟨b, o, none⟩) hbd2).trans yc)
          | (go_at_call 18; refine (equalInts_same Aw (some ⟨b, o + 1, none⟩) cw _ R _ (Sees.of_own howv.out) ((Sees.of_own hlwv.out).drop (k := 1) rfl) hR12.out).mono ?_; rintro e we ⟨rfl, hbe⟩; have hze := hbe.size; have hbe2 := Nat.lt_of_lt_of_le hbv2 hze; have lse := lsv.below hbe; have lxe := lxv.below hbe; obtain ⟨e0, e1, e2, el⟩ := lxe.cells; obtain ⟨f0, f1, f2, fl⟩ := lse.cells; have ec := (hbe.cell (p := ⟨b, o, none⟩) hbv2).trans vc)
          | (go_at_call 18; refine (equalInts_same Aw (some ⟨b, o + 1, none⟩) cw _ R _ (Sees.of_own how.out) ((Sees.of_own hlw.out).drop (k := 1) rfl) hR12.out).mono ?_; rintro e we ⟨rfl, hbe⟩; have hze := hbe.size; have hbe2 := Nat.lt_of_lt_of_le hbw2 hze; have lse := lsw.below hbe; have lxe := lxw.below hbe; obtain ⟨e0, e1, e2, el⟩ := lxe.cells; obtain ⟨f0, f1, f2, fl⟩ := lse.cells; have ec := (hbe.cell (p := ⟨b, o, none⟩) hbw2).trans pc))
        all_goals
          go_wp2
          go_ret
          first | with_reducible exact ⟨rfl, LS.bel lsv⟩ | with_reducible exact ⟨rfl, LS.bel lse⟩

end Go.Proofs.Ytcfijijpcafncaa

/-
  The walk of the law FnTakeTicket: at every code it returns true and changes nothing that was there. Conditions: none.
-/
import Derived.Test.YtcfijijpcafncaaLawFrameC
import Derived.Test.YtcfijijpcafncaaLineE
import Derived.Test.YtcfijijpcafncaaLineF
import Derived.Test.YtcfijijpcafncaaLineI
import Derived.Test.YtcfijijpcafncaaLineMathD
import Derived.Deep.RegionHeld3
namespace Go.Proofs.Ytcfijijpcafncaa
open Go.RowKit

theorem Sees.left {w : World} {B : Nat} {A : Option Addr} {xs ys : List Int} (h : Sees w B A (ints (xs ++ ys))) : Sees w B A (ints xs) := fun hx => by
  obtain ⟨b, o, e, hb, hc⟩ := h (by
    intro h2
    apply hx
    have h3 : xs ++ ys = [] := by simpa [ints] using h2
    have h4 : xs = [] := (List.append_eq_nil_iff.1 h3).1
    rw [h4]; rfl)
  refine ⟨b, o, e, hb, fun j u hu => hc j u ?_⟩
  have hj : j < (ints xs).length := by
    rcases Nat.lt_or_ge j (ints xs).length with h5 | h5
    · exact h5
    · rw [List.getElem?_eq_none h5] at hu; cases hu
  rw [show ints (xs ++ ys) = ints xs ++ ints ys from List.map_append, List.getElem?_append_left hj]
  exact hu

set_option maxHeartbeats 2000000 in
theorem walkTakeTicket (a : Option Addr) (len cap : Nat) (zs : List Int) (w : World) (hn : zs.length = len) (hc : len ≤ cap) (hcc : cap ≤ maxLen) (h : Sees w w.heap.size a (byts zs)) (hz : ∀ y ∈ zs, 0 ≤ y ∧ y ≤ 255) :
    Calls Try.prog 4 #[.slice a len cap] w fun e w' => e = .returned (.bool true) ∧ Below w.heap.size w w' := by
  have HE := hid hn
  have HC := hid hcc
  have HZ := hid hz
  clear hn hcc hz
  by_cases hbig : 1048576 < len
  · go_enter Try.func4, Try.ntmps4
    go_wp2
    go_ret
    exact ⟨rfl, Below.refl _ _⟩
  · go_enter Try.func4, Try.ntmps4
    go_wp2_with fail
    refine (drawTakeTicket_any _ _ _ _ _ h HZ.out HE.out hc (by omega) HC.out).mono ?_
    rintro e w1 ⟨s, n, A, c, l, rfl, ho, k1, k2, k3, k4, hl, hb1⟩
    have HL := hid (show l.length ≤ 4194304 by omega)
    clear hl
    have ls := LS.start (s := s) (n := n) ho hb1
    rcases hb : Line.takeB s n l with _ | _
    · go_wp2_with fail
      refine (iTakeTicket_any _ _ _ _ _ _ ls.sees HL.out).mono ?_
      rintro e w2 ⟨⟨hf, _⟩ | ⟨_, rfl⟩, hb2⟩
      · rw [hb] at hf; cases hf
      have ls2 := ls.below hb2
      obtain ⟨c0, c1, c2, cl⟩ := ls2.cells
      have lo := LS.zero w2
      have ls3 := ls2.alloc (.cells #[.int .i64 0, .int .i64 0, .slice none 0 0] 25)
      go_wp2_with fail
      refine (sTakeTicket_any _ _ _ _ _ _ ls3.sees HL.out).mono ?_
      rintro e w3 ⟨⟨hf, _⟩ | ⟨_, rfl⟩, hb3⟩
      · rw [hb] at hf; cases hf
      have ls4 := ls3.below hb3
      have lo4 := lo.below hb3
      clear c0 c1 c2 cl
      obtain ⟨c0, c1, c2, cl⟩ := lo4.cells
      go_wp2_with fail
      refine (equalLine_zero _).mono ?_
      rintro e w4 ⟨rfl, hb4⟩
      have ls5 := (ls4.alloc (.cells #[.int .i64 0, .int .i64 0, .slice none 0 0] 25)).below hb4
      have lo5 := (lo4.alloc (.cells #[.int .i64 0, .int .i64 0, .slice none 0 0] 25)).below hb4
      have lw5 := (LS.zero w3).below hb4
      clear c0 c1 c2 cl
      obtain ⟨d0, d1, d2, dl⟩ := lo5.cells
      obtain ⟨e0, e1, e2, el⟩ := lw5.cells
      go_wp2_with fail
      refine (equalLine_zero _).mono ?_
      rintro e w6 ⟨rfl, hb6⟩
      have ls7 := ls5.below hb6
      go_wp2
      go_ret
      exact ⟨rfl, ls7.2.2.1⟩
    · obtain ⟨hok, t1, t2⟩ := Line.takeB_iff.1 hb
      have HB := hid hb
      have hgl := HL
      go_wp2_with fail
      refine (iTakeTicket_any _ _ _ _ _ _ ls.sees HL.out).mono ?_
      rintro e w2 ⟨⟨_, v2, rfl, ho2⟩ | ⟨hf, _⟩, hb2⟩
      rotate_left
      · rw [hb] at hf; cases hf
      obtain ⟨A2, cc2, rfl, _⟩ := ho2.form
      have ls2 := ls.below hb2
      obtain ⟨c0, c1, c2, cl⟩ := ls2.cells
      have lo := LS.start (s := s) (n := n + 1) ho2 hb2
      have ls3 := ls2.alloc (.cells #[.int .i64 s, .int .i64 (n + 1), .slice A2 l.length cc2] 25)
      go_wp2_with fail
      refine (sTakeTicket_any _ _ _ _ _ _ ls3.sees HL.out).mono ?_
      rintro e w3 ⟨⟨_, v3, rfl, ho3⟩ | ⟨hf, _⟩, hb3⟩
      rotate_left
      · rw [hb] at hf; cases hf
      obtain ⟨A3, cc3, rfl, _⟩ := ho3.form
      have ls4 := ls3.below hb3
      have lo4 := lo.below hb3
      have lw4 := LS.start (s := s) (n := n + 1) ho3 hb3
      clear c0 c1 c2 cl
      obtain ⟨c0, c1, c2, cl⟩ := lo4.cells
      go_wp2_with fail
      refine (equalLine_same _ _ _ _ _ _ _ _ (lo4.alloc _).sees lw4.sees hgl.out).mono ?_
      rintro e w4 ⟨rfl, hb4⟩
      have ls5 := (ls4.alloc (.cells #[.int .i64 s, .int .i64 (n + 1), .slice A3 l.length cc3] 25)).below hb4
      have lo5 := (lo4.alloc (.cells #[.int .i64 s, .int .i64 (n + 1), .slice A3 l.length cc3] 25)).below hb4
      clear c0 c1 c2 cl
      obtain ⟨c0, c1, c2, cl⟩ := ls5.cells
      have hokn := Line.take_ok hb
      have hw : Line.waitV s (n + 1) l = Line.waitV s n l ++ [n] := by rw [Line.waitV_yes hokn, Line.waitV_yes hok, Line.take_waits hok]
      have hw12 := waitV_len s n l
      obtain ⟨k1', k2', k3', k4', k5', _⟩ := Line.okB_iff.1 hok
      clear c0 c1 c2 cl
      obtain ⟨c0, c1, c2, cl⟩ := lo5.cells
      go_wp2_with fail
      refine (iWaitingTickets_any _ _ _ _ _ _ lo5.sees HL.out).mono ?_
      rintro e w5 ⟨v5, rfl, ho5, hb5⟩
      rw [hw] at ho5
      obtain ⟨R, hR⟩ : ∃ R, R = Line.waitV s n l := ⟨_, rfl⟩
      have HOK := hid hokn
      have HWW : Hid (Line.waitV s n l = R) := hid hR.symm
      rw [← hR] at ho5 hw12
      clear hR hok hokn hw
      obtain ⟨A5, cc5, rfl, hcap5, hs5⟩ := ho5.formC
      have ls6 := ls5.below hb5
      have lx6 := lo5.below hb5
      have hlen : (R ++ [n]).length = R.length + 1 := by simp
      rw [hlen] at hcap5
      obtain ⟨b, o, rfl, hbl, hcell⟩ := hs5.int (k := R.length) (by rw [hlen]; omega)
      rw [show (R ++ [n])[R.length]'(by rw [hlen]; omega) = n by simp] at hcell
      rw [hlen]
      clear hlen hs5 hb2 hb3 hb4 hb5 ho2 ho3 lo lo4 lo5 lw4 ls2 ls3 ls4 ls5 c0 c1 c2 cl
      have hpos : (0 : Int) < (((R.length + 1 : Nat)) : Int) := by omega
      have hdec : decide ((0 : Int) < (((R.length + 1 : Nat)) : Int)) = true := decide_eq_true hpos
      have hwr : IntKind.i64.wrap ((((R.length + 1 : Nat)) : Int) - 1) = (R.length : Int) := by rw [IntKind.wrap_i64]; omega
      have hwr2 : IntKind.i64.wrap (R.length : Int) = (R.length : Int) := by rw [IntKind.wrap_i64]; omega
      have hR12 := hid (show R.length ≤ 4194304 by omega)
      have hi1 : (R.length : Int) < (((R.length + 1 : Nat)) : Int) := by omega
      have hi2 : (0 : Int) ≤ (R.length : Int) := by omega
      have hi3 : (R.length : Int) ≤ (cc5 : Int) := by omega
      have hi4 : R.length ≤ cc5 := by omega
      have hi5 : (R.length : Int) < (R.length : Int) + 1 := by omega
      have hwr3 : IntKind.i64.wrap ((R.length : Int) + 1 - 1) = (R.length : Int) := by rw [IntKind.wrap_i64]; omega
      have hi6 : (R.length : Int) ≤ (R.length : Int) + 1 := by omega
      have lsd := ls6.below ((Below.refl _ _).drew)
      have lxd := lx6.below ((Below.refl _ _).drew)
      have hld : Own w5.drew w4.heap.size (.slice (some ⟨b, o, none⟩) (R ++ [n]).length cc5) (R ++ [n]) := ho5
      obtain ⟨y0, y1, y2, yl⟩ := lx6.cells
      obtain ⟨z0, z1, z2, zl⟩ := ls6.cells
      have yc : w5.drew.cell? ⟨b, o + R.length, none⟩ = some (.int .i64 n) := hcell
      have hbd2 : b < w5.drew.heap.size := hbl
      go_wp2_with fail
      go_region_held3 (fun w' => w'.cell? ⟨w2.heap.size, 0, none⟩ = some (.int .i64 s) ∧ w'.cell? ⟨w2.heap.size, 1, none⟩ = some (.int .i64 (n + 1)) ∧ w'.cell? ⟨w2.heap.size, 2, none⟩ = some (.slice A2 l.length cc2) ∧ w'.cell? ⟨w1.heap.size, 0, none⟩ = some (.int .i64 s) ∧ w'.cell? ⟨w1.heap.size, 1, none⟩ = some (.int .i64 n) ∧ w'.cell? ⟨w1.heap.size, 2, none⟩ = some (.slice A l.length c) ∧ w'.cell? ⟨b, o + R.length, none⟩ = some (.int .i64 n))
        (first | with_reducible exact ⟨y0, y1, y2, z0, z1, z2, hcell⟩ | with_reducible exact ⟨p0, p1, p2, q0, q1, q2, pc⟩ | with_reducible exact ⟨v0, v1, v2, u0, u1, u2, vc⟩ | with_reducible exact ⟨e0, e1, e2, f0, f1, f2, ec⟩ | go_keep)
        (first
          | (go_at_call 17; with_reducible refine (iWaitingTickets_any A c s n l _ lsv.sees HL.out).mono ?_; rintro e ww ⟨vw, rfl, how, hbw⟩; rw [HWW.out] at how; obtain ⟨Aw, cw, rfl, _⟩ := how.form; have hzw := hbw.size; have hbw2 := Nat.lt_of_lt_of_le hbv2 hzw; have hlw := hlv.below hbw; have lsw := lsv.below hbw; have lxw := lxv.below hbw; obtain ⟨p0, p1, p2, pl⟩ := lxw.cells; obtain ⟨q0, q1, q2, ql⟩ := lsw.cells; have pc := (hbw.cell (p := ⟨b, o + R.length, none⟩) hbv2).trans vc)
          | (go_at_call 17; with_reducible refine (iWaitingTickets_any A c s n l _ lsd.sees HL.out).mono ?_; rintro e ww ⟨vw, rfl, how, hbw⟩; rw [HWW.out] at how; obtain ⟨Aw, cw, rfl, _⟩ := how.form; have hzw := hbw.size; have hbw2 := Nat.lt_of_lt_of_le hbd2 hzw; have hlw := hld.below hbw; have lsw := lsd.below hbw; have lxw := lxd.below hbw; obtain ⟨p0, p1, p2, pl⟩ := lxw.cells; obtain ⟨q0, q1, q2, ql⟩ := lsw.cells; have pc := (hbw.cell (p := ⟨b, o + R.length, none⟩) hbd2).trans yc)
          | (go_at_call 11; with_reducible refine (iValidLine_any A2 cc2 s (n + 1) l _ lxe.sees (Nat.le_trans HL.out (by decide))).mono ?_; rintro e wv ⟨hvv, hbv⟩; rw [HOK.out] at hvv; subst hvv; have hzv := hbv.size; have hbv2 := Nat.lt_of_lt_of_le hbe2 hzv; have lsv := lse.below hbv; have lxv := lxe.below hbv; obtain ⟨v0, v1, v2, vl⟩ := lxv.cells; obtain ⟨u0, u1, u2, ul⟩ := lsv.cells; have vc := (hbv.cell (p := ⟨b, o + R.length, none⟩) hbe2).trans ec)
          | (go_at_call 11; with_reducible refine (iValidLine_any A2 cc2 s (n + 1) l _ lxw.sees (Nat.le_trans HL.out (by decide))).mono ?_; rintro e wv ⟨hvv, hbv⟩; rw [HOK.out] at hvv; subst hvv; have hzv := hbv.size; have hbv2 := Nat.lt_of_lt_of_le hbw2 hzv; have howv := how.below hbv; have hlwv := hlw.below hbv; have lsv := lsw.below hbv; have lxv := lxw.below hbv; obtain ⟨v0, v1, v2, vl⟩ := lxv.cells; obtain ⟨u0, u1, u2, ul⟩ := lsv.cells; have vc := (hbv.cell (p := ⟨b, o + R.length, none⟩) hbw2).trans pc)
          | (go_at_call 11; with_reducible refine (iValidLine_any A2 cc2 s (n + 1) l _ lxd.sees (Nat.le_trans HL.out (by decide))).mono ?_; rintro e wv ⟨hvv, hbv⟩; rw [HOK.out] at hvv; subst hvv; have hzv := hbv.size; have hbv2 := Nat.lt_of_lt_of_le hbd2 hzv; have hlv := hld.below hbv; have lsv := lsd.below hbv; have lxv := lxd.below hbv; obtain ⟨v0, v1, v2, vl⟩ := lxv.cells; obtain ⟨u0, u1, u2, ul⟩ := lsv.cells; have vc := (hbv.cell (p := ⟨b, o + R.length, none⟩) hbd2).trans yc)
          | (go_at_call 18; refine (equalInts_same (some ⟨b, o, none⟩) Aw cc5 cw R _ (Sees.of_own hlwv.out).left (Sees.of_own howv.out) hR12.out).mono ?_; rintro e we ⟨rfl, hbe⟩; have hze := hbe.size; have hbe2 := Nat.lt_of_lt_of_le hbv2 hze; have lse := lsv.below hbe; have lxe := lxv.below hbe; obtain ⟨e0, e1, e2, el⟩ := lxe.cells; obtain ⟨f0, f1, f2, fl⟩ := lse.cells; have ec := (hbe.cell (p := ⟨b, o + R.length, none⟩) hbv2).trans vc)
          | (go_at_call 18; refine (equalInts_same (some ⟨b, o, none⟩) Aw cc5 cw R _ (Sees.of_own hlw.out).left (Sees.of_own how.out) hR12.out).mono ?_; rintro e we ⟨rfl, hbe⟩; have hze := hbe.size; have hbe2 := Nat.lt_of_lt_of_le hbw2 hze; have lse := lsw.below hbe; have lxe := lxw.below hbe; obtain ⟨e0, e1, e2, el⟩ := lxe.cells; obtain ⟨f0, f1, f2, fl⟩ := lse.cells; have ec := (hbe.cell (p := ⟨b, o + R.length, none⟩) hbw2).trans pc))
      all_goals
        go_wp2
        go_ret
        first | with_reducible exact ⟨rfl, LS.bel lsv⟩ | with_reducible exact ⟨rfl, LS.bel lse⟩

end Go.Proofs.Ytcfijijpcafncaa

/-
  The walk of the law FnPlaceInLineLeave: at every code it returns true and changes nothing that was there. Conditions: none.
-/
import Derived.Test.YtcfijijpcafncabLawFrameB
import Derived.Test.YtcfijijpcafncabLineDrawB
import Derived.Test.YtcfijijpcafncabLineE
import Derived.Test.YtcfijijpcafncabLineI
import Derived.Test.YtcfijijpcafncabLineMathD
import Derived.Deep.RegionHeld3
namespace Go.Proofs.Ytcfijijpcafncab
open Go.RowKit

set_option maxHeartbeats 2000000 in
theorem walkPlaceInLineLeave (a : Option Addr) (len cap : Nat) (zs : List Int) (w : World) (hn : zs.length = len) (hc : len ≤ cap) (hcc : cap ≤ maxLen) (h : Sees w w.heap.size a (byts zs)) (hz : ∀ y ∈ zs, 0 ≤ y ∧ y ≤ 255) :
    Calls Try.prog 9 #[.slice a len cap] w fun e w' => e = .returned (.bool true) ∧ Below w.heap.size w w' := by
  have HE := hid hn
  have HC := hid hcc
  have HZ := hid hz
  clear hn hcc hz
  by_cases hbig : 1048576 < len
  · go_enter Try.func9, Try.ntmps9
    go_wp2
    go_ret
    exact ⟨rfl, Below.refl _ _⟩
  · go_enter Try.func9, Try.ntmps9
    go_wp2_with fail
    refine (drawPlaceInLine_any _ _ _ _ _ h HZ.out HE.out hc (by omega) HC.out).mono ?_
    rintro e w1 ⟨s, n, A, c, l, t, rfl, ho, k1, k2, k3, k4, hl, hb1⟩
    have HL := hid (show l.length ≤ 4194304 by omega)
    clear hl
    have ls := LS.start (s := s) (n := n) ho hb1
    rcases hp : (Line.placeV s n l t == -1) with _ | _
    · have hm : t ∈ Line.waitV s n l := by
        apply Classical.byContradiction
        intro hh
        rw [show Line.placeV s n l t = -1 from Line.place_no hh] at hp
        cases hp
      obtain ⟨k, hk, e1, e2⟩ := Line.place_get hm
      have E1 := hid (show Line.placeV s n l t = (k : Int) from e1)
      have E2 := hid e2
      have hok : Line.okB s n l = true := by
        rcases hok : Line.okB s n l with _ | _
        · rw [Line.waitV_no hok] at hm; cases hm
        · rfl
      have HW := hid (Line.waitV_yes hok)
      have HK := hid hok
      clear e1 e2 hp hm
      have hklen := waitV_len s n l
      have hneg : ¬ (k : Int) < 0 := by omega
      go_wp2_with fail
      refine (iPlaceInLine_any _ _ _ _ _ _ _ ls.sees HL.out).mono ?_
      rintro e w2 ⟨he, hb2⟩
      rw [E1.out] at he
      subst he
      have ls2 := ls.below hb2
      obtain ⟨c0, c1, c2, cl⟩ := ls2.cells
      go_wp2_with fail
      refine (sPlaceInLine_any _ _ _ _ _ _ _ ls2.sees HL.out).mono ?_
      rintro e w3 ⟨he, hb3⟩
      rw [E1.out] at he
      subst he
      have ls3 := ls2.below hb3
      clear c0 c1 c2 cl
      obtain ⟨c0, c1, c2, cl⟩ := ls3.cells
      go_wp2_with fail
      refine (iWaitingTickets_any _ _ _ _ _ _ ls3.sees HL.out).mono ?_
      rintro e w4 ⟨v4, rfl, ho4, hb4⟩
      obtain ⟨A4, cc4, rfl, hs4⟩ := ho4.form
      have ls4 := ls3.below hb4
      obtain ⟨W, hW⟩ : ∃ W, W = Line.waitV s n l := ⟨_, rfl⟩
      have HWW := hid (hW.trans HW.out)
      have hkW : k < W.length := by rw [hW]; exact hk
      have hklen' : W.length ≤ 12 := by rw [hW]; exact hklen
      have E2' := hid (show W[k] = t by simp only [hW]; exact E2.out)
      rw [← hW] at hs4 ho4
      rw [← hW]
      clear hW hk hklen c0 c1 c2 cl hs4 E2
      have hsz : w.heap.size ≤ w4.heap.size := ls4.2.2.1.size
      obtain ⟨c0, c1, c2, cl⟩ := ls4.cells
      clear c0 c1 c2
      go_wp2
      go_loopw [7] (fun i wr => ∃ j : Nat, i = .int .i64 j ∧ j ≤ W.length ∧ Below w4.heap.size w4 wr) (fun i _ => W.length - (intOf i).toNat)
      case atStart => exact ⟨0, rfl, Nat.zero_le _, Below.refl _ _⟩
      case round =>
        obtain ⟨j, rfl, hj, hbw⟩ := hrel
        have hzr := hbw.size
        have lsr := ls4.below hbw
        by_cases hlt : j < W.length
        · have hi : (j : Int) < (W.length : Int) := by omega
          obtain ⟨b, o, rfl, hbl, hcell⟩ := (Sees.of_own (ho4.below hbw).out).int hlt
          by_cases hjk : j = k
          · subst hjk
            rw [E2'.out] at hcell
            have hbb : (t == t) = true := by simp
            go_wp2
            go_roundw
            case rel => exact ⟨j + 1, by go_num, by omega, hbw⟩
            case measure => simp [intOf]; omega
          · have HP := hid (Line.place_without (l := W) (by rw [HWW.out]; exact Line.asc_waits s n l) hlt hkW hjk)
            have hne : (W[j] == t) = false := by
              rw [beq_eq_false_iff_ne]
              intro e
              have h1 := Line.place_asc_at (l := W) (by rw [HWW.out]; exact Line.asc_waits s n l) hlt
              have h2 := Line.place_asc_at (l := W) (by rw [HWW.out]; exact Line.asc_waits s n l) hkW
              have : W[j] = W[k] := e.trans E2'.out.symm
              rw [this] at h1
              omega
            have hlv : Line.leaveB s n l W[j] = true := by
              unfold Line.leaveB
              rw [HK.out, Bool.true_and, decide_eq_true_eq, ← HWW.out]
              exact List.getElem_mem hlt
            have hok' := Line.leave_ok hlv
            have hgl' := hid (show (Line.leaveG s n l W[j]).length ≤ 4194304 by have := Line.gone_len hok'; omega)
            have hpl : Line.placeV (Line.leaveS s n l W[j]) n (Line.leaveG s n l W[j]) t = if j < k then (k : Int) - 1 else k := by
              unfold Line.placeV
              rw [Line.waitV_yes hok', Line.leave_waits, ← HWW.out, ← HP.out, E2'.out]
            have HPL := hid hpl
            have HLV := hid hlv
            clear hpl hlv hok'
            obtain ⟨x, hx⟩ : ∃ x, x = W[j] := ⟨_, rfl⟩
            rw [← hx] at hcell hne HPL HLV hgl'
            clear hx HP
            obtain ⟨y0, y1, y2, yl⟩ := lsr.cells
            have hbn : b < wr.heap.size := by omega
            go_wp2_with fail
            go_region_held3 (fun w' => w'.cell? ⟨w1.heap.size, 0, none⟩ = some (.int .i64 s) ∧ w'.cell? ⟨w1.heap.size, 1, none⟩ = some (.int .i64 n) ∧ w'.cell? ⟨w1.heap.size, 2, none⟩ = some (.slice A l.length c) ∧ w'.cell? ⟨b, o + j, none⟩ = some (.int .i64 x))
              (first | with_reducible exact ⟨y0, y1, y2, hcell⟩ | with_reducible exact ⟨d0, d1, d2, hcell7⟩ | go_keep)
              (first
                | (go_at_call 25; refine (iLeaveLine_any _ _ _ _ _ _ wr.drew (show Sees wr.drew wr.drew.heap.size A (ints l) from lsr.sees) HL.out).mono ?_; rintro e w7 ⟨⟨_, v7, rfl, ho7⟩ | ⟨hf, _⟩, hb7⟩; rotate_left; (exact absurd (HLV.out.symm.trans hf) (by simp)); obtain ⟨A7, c7, rfl, _⟩ := ho7.form; have hz7 := hb7.size; have ls7 := LS.below (lsr.below ((Below.refl _ _).drew)) hb7; obtain ⟨d0, d1, d2, dl⟩ := ls7.cells; have hcell7 := (hb7.cell (p := ⟨b, o + j, none⟩) hbn).trans hcell)
                | (go_at_call 25; refine (iLeaveLine_any _ _ _ _ _ _ (wr.alloc (.cells #[.int .i64 0, .int .i64 0, .slice none 0 0] 25)).drew (show Sees (wr.alloc (.cells #[.int .i64 0, .int .i64 0, .slice none 0 0] 25)).drew (wr.alloc (.cells #[.int .i64 0, .int .i64 0, .slice none 0 0] 25)).drew.heap.size A (ints l) from (lsr.alloc (.cells #[.int .i64 0, .int .i64 0, .slice none 0 0] 25)).sees) HL.out).mono ?_; rintro e w7 ⟨⟨_, v7, rfl, ho7⟩ | ⟨hf, _⟩, hb7⟩; rotate_left; (exact absurd (HLV.out.symm.trans hf) (by simp)); obtain ⟨A7, c7, rfl, _⟩ := ho7.form; have hz7 := hb7.size; have ls7 := LS.below ((lsr.alloc (.cells #[.int .i64 0, .int .i64 0, .slice none 0 0] 25)).below ((Below.refl _ _).drew)) hb7; obtain ⟨d0, d1, d2, dl⟩ := ls7.cells; have hcell7 := (((Below.refl wr.heap.size wr).alloc (Nat.le_refl _) (.cells #[.int .i64 0, .int .i64 0, .slice none 0 0] 25)).drew.trans (hb7.mono (by simp))).cell (p := ⟨b, o + j, none⟩) hbn |>.trans hcell; have t8 : At w7 wr.heap.size 25 #[.int .i64 0, .int .i64 0, .slice none 0 0] := ((At.new wr 25 #[.int .i64 0, .int .i64 0, .slice none 0 0]).drew).below hb7 (by simp); have q8 := t8.cell; have f8 := t8.frozen; have nl8 : ¬ w1.heap.size = wr.heap.size := (by omega); have nb8 : ¬ b = wr.heap.size := (by omega); have nl9 : ¬ wr.heap.size = w1.heap.size := (by omega); have nb9 : ¬ wr.heap.size = b := (by omega)))
            · have lx := LS.start (s := Line.leaveS s n l x) (n := n) ho7 hb7
              have hbw7 : Below w4.heap.size w4 w7 := hbw.drew.trans (hb7.mono hzr)
              have hzw7 := hb7.size
              clear y0 y1 y2 yl d0 d1 d2 dl hcell7
              by_cases hjk2 : j < k
              · have hjk3 : (j : Int) < (k : Int) := by omega
                have hw1 : IntKind.i64.wrap ((k : Int) - 1) = (k : Int) - 1 := by rw [IntKind.wrap_i64]; omega
                go_wp2_with fail
                refine (iPlaceInLine_any _ _ _ _ _ _ _ lx.sees hgl'.out).mono ?_
                rintro e w8 ⟨he, hb8⟩
                rw [HPL.out, if_pos hjk2] at he
                subst he
                have hb8' : Below w4.heap.size w4 w8 := (hbw7.alloc hbw7.size _).trans (hb8.mono (by have := hbw7.size; simp; omega))
                go_wp2
                go_roundw
                case rel => exact ⟨j + 1, by go_num, by omega, hb8'⟩
                case measure => simp [intOf]; omega
              · have hjk3 : ¬ (j : Int) < (k : Int) := by omega
                go_wp2_with fail
                refine (iPlaceInLine_any _ _ _ _ _ _ _ lx.sees hgl'.out).mono ?_
                rintro e w8 ⟨he, hb8⟩
                rw [HPL.out, if_neg hjk2] at he
                subst he
                have hb8' : Below w4.heap.size w4 w8 := (hbw7.alloc hbw7.size _).trans (hb8.mono (by have := hbw7.size; simp; omega))
                go_wp2
                go_roundw
                case rel => exact ⟨j + 1, by go_num, by omega, hb8'⟩
                case measure => simp [intOf]; omega
            · have lx := ((t8.set 0 (.int .i64 (Line.leaveS s n l x))).set 1 (.int .i64 n)).set 2 (.slice A7 (Line.leaveG s n l x).length c7)
              simp only [List.setIfInBounds_toArray, List.set_cons_zero, List.set_cons_succ] at lx
              have hbw7 : Below w4.heap.size w4 (((w7.setCell ⟨wr.heap.size, 0, none⟩ (.int .i64 (Line.leaveS s n l x))).setCell ⟨wr.heap.size, 1, none⟩ (.int .i64 n)).setCell ⟨wr.heap.size, 2, none⟩ (.slice A7 (Line.leaveG s n l x).length c7)) := ((((hbw.alloc hzr _).drew.trans (hb7.mono (by simp; omega))).setCell hzr _).setCell hzr _).setCell hzr _
              have hso := own_side3 ho7 t8 (.int .i64 (Line.leaveS s n l x)) (.int .i64 n) (.slice A7 (Line.leaveG s n l x).length c7)
              have m0 := lx.cell 0
              have m1 := lx.cell 1
              have m2 := lx.cell 2
              clear y0 y1 y2 yl d0 d1 d2 dl hcell7 q8 f8
              by_cases hjk2 : j < k
              · have hjk3 : (j : Int) < (k : Int) := by omega
                have hw1 : IntKind.i64.wrap ((k : Int) - 1) = (k : Int) - 1 := by rw [IntKind.wrap_i64]; omega
                go_wp2_with fail
                refine (iPlaceInLine_any _ _ _ _ _ _ _ (Sees.of_own hso.out) hgl'.out).mono ?_
                rintro e w8 ⟨he, hb8⟩
                rw [HPL.out, if_pos hjk2] at he
                subst he
                have hb8' : Below w4.heap.size w4 w8 := hbw7.trans (hb8.mono (by have := hbw7.size; simpa using this))
                go_wp2
                go_roundw
                case rel => exact ⟨j + 1, by go_num, by omega, hb8'⟩
                case measure => simp [intOf]; omega
              · have hjk3 : ¬ (j : Int) < (k : Int) := by omega
                go_wp2_with fail
                refine (iPlaceInLine_any _ _ _ _ _ _ _ (Sees.of_own hso.out) hgl'.out).mono ?_
                rintro e w8 ⟨he, hb8⟩
                rw [HPL.out, if_neg hjk2] at he
                subst he
                have hb8' : Below w4.heap.size w4 w8 := hbw7.trans (hb8.mono (by have := hbw7.size; simpa using this))
                go_wp2
                go_roundw
                case rel => exact ⟨j + 1, by go_num, by omega, hb8'⟩
                case measure => simp [intOf]; omega
        · have hi : ¬ (j : Int) < (W.length : Int) := by omega
          go_wp2
          go_ret
          exact ⟨rfl, lsr.2.2.1⟩
    · have e1 : Line.placeV s n l t = -1 := by simpa using hp
      have E1 := hid e1
      clear e1 hp
      go_wp2_with fail
      refine (iPlaceInLine_any _ _ _ _ _ _ _ ls.sees HL.out).mono ?_
      rintro e w2 ⟨he, hb2⟩
      rw [E1.out] at he
      subst he
      have ls2 := ls.below hb2
      obtain ⟨c0, c1, c2, cl⟩ := ls2.cells
      go_wp2_with fail
      refine (sPlaceInLine_any _ _ _ _ _ _ _ ls2.sees HL.out).mono ?_
      rintro e w3 ⟨he, hb3⟩
      rw [E1.out] at he
      subst he
      have ls3 := ls2.below hb3
      clear c0 c1 c2 cl
      obtain ⟨c0, c1, c2, cl⟩ := ls3.cells
      go_wp2_with fail
      refine (sPlaceInLine_any _ _ _ _ _ _ _ ls3.sees HL.out).mono ?_
      rintro e w4 ⟨he, hb4⟩
      rw [E1.out] at he
      subst he
      have ls4 := ls3.below hb4
      go_wp2
      go_ret
      exact ⟨by simp, ls4.2.2.1⟩

end Go.Proofs.Ytcfijijpcafncab

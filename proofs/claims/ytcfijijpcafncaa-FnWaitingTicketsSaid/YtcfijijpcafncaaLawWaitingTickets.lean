/-
  The walk of the law FnWaitingTickets: at every code it returns true and changes nothing that was there. Conditions: none.
-/
import Derived.Test.YtcfijijpcafncaaLawFrameB
import Derived.Test.YtcfijijpcafncaaLineD
import Derived.Test.YtcfijijpcafncaaLineE
import Derived.Test.YtcfijijpcafncaaLineMathD
import Derived.BigQuiet
namespace Go.Proofs.Ytcfijijpcafncaa
open Go.RowKit

set_option maxHeartbeats 2000000 in
theorem walkWaitingTickets (a : Option Addr) (len cap : Nat) (zs : List Int) (w : World) (hn : zs.length = len) (hc : len ≤ cap) (hcc : cap ≤ maxLen) (h : Sees w w.heap.size a (byts zs)) (hz : ∀ y ∈ zs, 0 ≤ y ∧ y ≤ 255) :
    Calls Try.prog 6 #[.slice a len cap] w fun e w' => e = .returned (.bool true) ∧ Below w.heap.size w w' := by
  have HE := hid hn
  have HC := hid hcc
  have HZ := hid hz
  clear hn hcc hz
  by_cases hbig : 1048576 < len
  · go_enter Try.func6, Try.ntmps6
    go_wp2
    go_ret
    exact ⟨rfl, Below.refl _ _⟩
  · go_enter Try.func6, Try.ntmps6
    go_wp2_with fail
    refine (drawWaitingTickets_any _ _ _ _ _ h HZ.out HE.out hc (by omega) HC.out).mono ?_
    rintro e w1 ⟨s, n, A, c, l, rfl, ho, k1, k2, k3, k4, hl, hb1⟩
    have HL := hid (show l.length ≤ 4194304 by omega)
    clear hl
    have ls := LS.start (s := s) (n := n) ho hb1
    have HW := hid (waitV_len s n l)
    go_wp2_with fail
    refine (iWaitingTickets_any _ _ _ _ _ _ ls.sees HL.out).mono ?_
    rintro e w2 ⟨v2, rfl, ho2, hb2⟩
    obtain ⟨A2, cc2, rfl, _⟩ := ho2.form
    have ls2 := ls.below hb2
    obtain ⟨c0, c1, c2, cl⟩ := ls2.cells
    go_wp2_with fail
    refine (sWaitingTickets_any _ _ _ _ _ _ ls2.sees HL.out).mono ?_
    rintro e w3 ⟨v3, rfl, ho3, hb3⟩
    obtain ⟨A3, cc3, rfl, _⟩ := ho3.form
    have ls3 := ls2.below hb3
    have ho23 := ho2.below hb3
    clear c0 c1 c2 cl
    go_wp2_with fail
    refine (equalInts_same _ _ _ _ _ _ (Sees.of_own ho23.out) (Sees.of_own ho3.out) (by have := HW.out; omega)).mono ?_
    rintro e w4 ⟨rfl, hb4⟩
    have ls4 := ls3.below hb4
    have ho24 := ho23.below hb4
    obtain ⟨c0, c1, c2, cl⟩ := ls4.cells
    rcases hok : Line.okB s n l with _ | _
    · go_wp2_with fail
      refine (iValidLine_any _ _ _ _ _ _ ls4.sees (Nat.le_trans HL.out (by decide))).mono ?_
      rintro e w5 ⟨rfl, hb5⟩
      rw [hok]
      have ls5 := ls4.below hb5
      have ho25 := ho24.below hb5
      clear c0 c1 c2 cl
      obtain ⟨c0, c1, c2, cl⟩ := ls5.cells
      go_wp2_with fail
      refine (sWaitingTickets_any _ _ _ _ _ _ ls5.sees HL.out).mono ?_
      rintro e w6 ⟨v6, rfl, ho6, hb6⟩
      obtain ⟨A6, cc6, rfl, _⟩ := ho6.form
      have ls6 := ls5.below hb6
      have ho26 := ho25.below hb6
      go_wp2_with fail
      refine (equalInts_same _ _ _ _ _ _ (Sees.of_own ho26.out) (Sees.of_own ho6.out) (by have := HW.out; omega)).mono ?_
      rintro e w7 ⟨rfl, hb7⟩
      have ls7 := ls6.below hb7
      go_wp2
      go_ret
      exact ⟨rfl, ls7.2.2.1⟩
    · go_wp2_with fail
      refine (iValidLine_any _ _ _ _ _ _ ls4.sees (Nat.le_trans HL.out (by decide))).mono ?_
      rintro e w5 ⟨rfl, hb5⟩
      rw [hok]
      have ls5 := ls4.below hb5
      clear c0 c1 c2 cl
      obtain ⟨c0, c1, c2, cl⟩ := ls5.cells
      have ho25 := ho24.below hb5
      have hs5 := Sees.of_own ho25.out
      obtain ⟨W, hW⟩ : ∃ W, W = Line.waitV s n l := ⟨_, rfl⟩
      have HWW := hid (hW.trans (Line.waitV_yes hok))
      have hW12 : W.length ≤ 12 := by rw [hW]; exact HW.out
      rw [← hW] at hs5 ho25
      rw [← hW]
      clear hW ho2 ho23 ho24 ho3 hb2 hb3 hb4 hb5 HW
      have hgl := Line.gone_len hok
      obtain ⟨g1, g2, g3, g4, g5, _, _⟩ := Line.okB_iff.1 hok
      go_wp2
      go_loopw [5] (fun i wr => ∃ k : Int, i = .int .i64 k ∧ s ≤ k ∧ k ≤ n ∧ Below w5.heap.size w5 wr) (fun i _ => (n - intOf i).toNat)
      case atStart => exact ⟨s, rfl, by omega, by omega, Below.refl _ _⟩
      case round =>
        obtain ⟨k, rfl, hk1, hk2, hbw⟩ := hrel
        have lsr := ls5.below hbw
        have hsr := (hs5.below hbw).more hbw.size
        clear c0 c1 c2 cl
        obtain ⟨c0, c1, c2, cl⟩ := lsr.cells
        by_cases hlt : k < n
        · have hne : (memB W k == memB l k) = false := by
            have hm : k ∈ W ↔ k ∉ l := by
              rw [HWW.out, Line.mem_waits]
              exact ⟨fun h => h.2.2, fun h => ⟨hk1, hlt, h⟩⟩
            rcases h2 : memB l k with _ | _
            · have h3 : k ∉ l := fun h => by rw [memB_iff.2 h] at h2; cases h2
              rw [memB_iff.2 (hm.2 h3)]; rfl
            · have h3 : k ∉ W := fun h => hm.1 h (memB_iff.1 h2)
              have h4 : memB W k = false := by
                rcases h1 : memB W k with _ | _
                · rfl
                · exact absurd (memB_iff.1 h1) h3
              rw [h4]; rfl
          have hwk : IntKind.i64.wrap (k + 1) = k + 1 := by rw [IntKind.wrap_i64]; omega
          go_wp2_with fail
          go_quiet ((go_at_call 22; first | with_reducible refine isIn_quiet A2 cc2 W k wr _ hsr (by omega) | with_reducible refine isIn_quiet A c l k wr _ lsr.sees (by omega)))
          go_wp2
          go_roundw
          case rel => exact ⟨k + 1, rfl, by omega, by omega, below_drewN hbw _⟩
          case measure => simp [intOf]; omega
        · go_wp2
          go_loopw [6] (fun i wr => ∃ k : Nat, i = .int .i64 k ∧ k ≤ W.length ∧ Below w5.heap.size w5 wr) (fun i _ => W.length - (intOf i).toNat)
          case atStart => exact ⟨0, rfl, Nat.zero_le _, hbw⟩
          case round =>
            obtain ⟨k, rfl, hk, hbw⟩ := hrel
            have lsr := ls5.below hbw
            have hsr := (hs5.below hbw).more hbw.size
            clear c0 c1 c2 cl
            obtain ⟨c0, c1, c2, cl⟩ := lsr.cells
            by_cases hlt : k < W.length
            · have hi : (k : Int) < (W.length : Int) := by omega
              obtain ⟨hx1, hx2, _⟩ := Line.mem_waits.1 (show W[k] ∈ Line.waits s n l by rw [← HWW.out]; exact List.getElem_mem hlt)
              obtain ⟨b, o, rfl, hbl, hcell⟩ := hsr.int hlt
              have d1 : decide (W[k] < s) = false := decide_eq_false (by omega)
              have d2 : decide (n ≤ W[k]) = false := decide_eq_false (by omega)
              cases k with
              | zero =>
                have d3 : decide ((0 : Int) < ((0 : Nat) : Int)) = false := rfl
                have d3' : decide ((0 : Int) < 0) = false := rfl
                have hi0 : (0 : Int) < (W.length : Int) := by omega
                have hcell0 : wr.cell? ⟨b, o, none⟩ = some (.int .i64 W[0]) := by simpa using hcell
                go_wp2_with fail
                go_quiet (fail)
                go_wp2
                go_roundw
                case rel => exact ⟨1, by go_num, by omega, below_drewN hbw _⟩
                case measure => simp [intOf]; omega
              | succ k =>
                obtain ⟨b', o', e, _, hcell'⟩ := hsr.int (k := k) (by omega)
                injection e with e
                injection e with e1 e2
                subst e1 e2
                have hasc : W[k] < W[k + 1] := List.pairwise_iff_getElem.1 (show Line.Asc W by rw [HWW.out]; exact Line.asc_waits s n l) k (k + 1) (by omega) hlt (by omega)
                have d3 : decide ((0 : Int) < ((k + 1 : Nat) : Int)) = true := decide_eq_true (by omega)
                have d4 : decide (W[k + 1] ≤ W[k]) = false := decide_eq_false (by omega)
                have hw1 : IntKind.i64.wrap (((k + 1 : Nat) : Int) - 1) = (k : Int) := by rw [IntKind.wrap_i64]; omega
                have hik : (k : Int) < (W.length : Int) := by omega
                have hik0 : (0 : Int) ≤ (k : Int) := by omega
                go_wp2_with fail
                go_quiet (fail)
                go_wp2
                go_roundw
                case rel => exact ⟨k + 1 + 1, by go_num, by omega, below_drewN hbw _⟩
                case measure => simp [intOf]; omega
            · have hi : ¬ (k : Int) < (W.length : Int) := by omega
              go_wp2
              go_ret
              exact ⟨rfl, lsr.2.2.1⟩

end Go.Proofs.Ytcfijijpcafncaa

/-
  The walk of the law FnCallNextLeave: at every code it returns true and changes nothing that was there. Conditions: none.
-/
import Derived.Test.YtcfijijpcafncabLawFrameB
import Derived.Test.YtcfijijpcafncabLineE
import Derived.Test.YtcfijijpcafncabLineG
import Derived.Test.YtcfijijpcafncabLineI
import Derived.Test.YtcfijijpcafncabLineJ
import Derived.Test.YtcfijijpcafncabLineMathD
namespace Go.Proofs.Ytcfijijpcafncab
open Go.RowKit

set_option maxHeartbeats 2000000 in
theorem walkCallNextLeave (a : Option Addr) (len cap : Nat) (zs : List Int) (w : World) (hn : zs.length = len) (hc : len ≤ cap) (hcc : cap ≤ maxLen) (h : Sees w w.heap.size a (byts zs)) (hz : ∀ y ∈ zs, 0 ≤ y ∧ y ≤ 255) :
    Calls Try.prog 8 #[.slice a len cap] w fun e w' => e = .returned (.bool true) ∧ Below w.heap.size w w' := by
  have HE := hid hn
  have HC := hid hcc
  have HZ := hid hz
  clear hn hcc hz
  by_cases hbig : 1048576 < len
  · go_enter Try.func8, Try.ntmps8
    go_wp2
    go_ret
    exact ⟨rfl, Below.refl _ _⟩
  · go_enter Try.func8, Try.ntmps8
    go_wp2_with fail
    refine (drawCallNext_any _ _ _ _ _ h HZ.out HE.out hc (by omega) HC.out).mono ?_
    rintro e w1 ⟨s, n, A, c, l, rfl, ho, k1, k2, k3, k4, hl, hb1⟩
    have HL := hid (show l.length ≤ 4194304 by omega)
    clear hl
    have ls := LS.start (s := s) (n := n) ho hb1
    rcases hb : Line.callB s n l with _ | _
    · go_wp2_with fail
      refine (iCallNext_any _ _ _ _ _ _ ls.sees HL.out).mono ?_
      rintro e w2 ⟨⟨hf, _⟩ | ⟨_, rfl⟩, hb2⟩
      · rw [hb] at hf; cases hf
      have ls2 := ls.below hb2
      obtain ⟨c0, c1, c2, cl⟩ := ls2.cells
      have lo := LS.zero w2
      have ls3 := ls2.alloc (.cells #[.int .i64 0, .int .i64 0, .slice none 0 0] 25)
      go_wp2_with fail
      refine (sCallNext_any _ _ _ _ _ _ ls3.sees HL.out).mono ?_
      rintro e w3 ⟨⟨hf, _⟩ | ⟨_, rfl⟩, hb3⟩
      · rw [hb] at hf; cases hf
      have ls4 := ls3.below hb3
      have lo4 := lo.below hb3
      clear c0 c1 c2 cl
      obtain ⟨c0, c1, c2, cl⟩ := lo4.cells
      go_wp2_with fail
      refine (equalLine_zero _).mono ?_
      rintro e w4 ⟨rfl, hb4⟩
      have ls5 := (ls4.alloc (.cells #[.int .i64 0, .int .i64 0, .slice none 0 0] 25)).below hb4
      have lo5 := (lo4.alloc (.cells #[.int .i64 0, .int .i64 0, .slice none 0 0] 25)).below hb4
      have lw5 := (LS.zero w3).below hb4
      clear c0 c1 c2 cl
      obtain ⟨d0, d1, d2, dl⟩ := lo5.cells
      obtain ⟨e0, e1, e2, el⟩ := lw5.cells
      go_wp2_with fail
      refine (equalLine_zero _).mono ?_
      rintro e w6 ⟨rfl, hb6⟩
      have ls7 := ls5.below hb6
      go_wp2
      go_ret
      exact ⟨rfl, ls7.2.2.1⟩
    · obtain ⟨hok, _⟩ := Line.call_parts hb
      have HB := hid hb
      have hgl := hid (show (Line.callG s n l).length ≤ 4194304 by have := Line.gone_len (Line.call_ok hb); omega)
      go_wp2_with fail
      refine (iCallNext_any _ _ _ _ _ _ ls.sees HL.out).mono ?_
      rintro e w2 ⟨⟨_, v2, rfl, ho2⟩ | ⟨hf, _⟩, hb2⟩
      rotate_left
      · rw [hb] at hf; cases hf
      obtain ⟨A2, cc2, rfl, _⟩ := ho2.form
      have ls2 := ls.below hb2
      obtain ⟨c0, c1, c2, cl⟩ := ls2.cells
      have lo := LS.start (s := Line.callT s n l + 1) (n := n) ho2 hb2
      have ls3 := ls2.alloc (.cells #[.int .i64 (Line.callT s n l + 1), .int .i64 n, .slice A2 (Line.callG s n l).length cc2] 25)
      go_wp2_with fail
      refine (sCallNext_any _ _ _ _ _ _ ls3.sees HL.out).mono ?_
      rintro e w3 ⟨⟨_, v3, rfl, ho3⟩ | ⟨hf, _⟩, hb3⟩
      rotate_left
      · rw [hb] at hf; cases hf
      obtain ⟨A3, cc3, rfl, _⟩ := ho3.form
      have ls4 := ls3.below hb3
      have lo4 := lo.below hb3
      have lw4 := LS.start (s := Line.callT s n l + 1) (n := n) ho3 hb3
      clear c0 c1 c2 cl
      obtain ⟨c0, c1, c2, cl⟩ := lo4.cells
      go_wp2_with fail
      refine (equalLine_same _ _ _ _ _ _ _ _ (lo4.alloc _).sees lw4.sees hgl.out).mono ?_
      rintro e w4 ⟨rfl, hb4⟩
      have ls5 := (ls4.alloc (.cells #[.int .i64 (Line.callT s n l + 1), .int .i64 n, .slice A3 (Line.callG s n l).length cc3] 25)).below hb4
      have lo5 := (lo4.alloc (.cells #[.int .i64 (Line.callT s n l + 1), .int .i64 n, .slice A3 (Line.callG s n l).length cc3] 25)).below hb4
      clear c0 c1 c2 cl
      obtain ⟨c0, c1, c2, cl⟩ := ls5.cells
      obtain ⟨hlv, hlw⟩ := Line.call_leave hb
      have hok' := Line.leave_ok hlv
      have hcb' := Line.callB_waits hok'
      have hct' := Line.callT_waits (s := Line.leaveS s n l (Line.callT s n l)) (n := n) (g := Line.leaveG s n l (Line.callT s n l))
      rw [hlw] at hcb'
      have HLV := hid hlv
      have hgl' := hid (show (Line.leaveG s n l (Line.callT s n l)).length ≤ 4194304 by have := Line.gone_len hok'; omega)
      have hw12 := waitV_len s n l
      have HW := hid (Line.waitV_yes hok)
      have hpos : 0 < (Line.waitV s n l).length := by rw [← decide_eq_true_eq (p := 0 < (Line.waitV s n l).length), ← callB_waitV]; exact hb
      go_wp2_with fail
      refine (iWaitingTickets_any _ _ _ _ _ _ ls5.sees HL.out).mono ?_
      rintro e w5 ⟨v5, rfl, ho5, hb5⟩
      obtain ⟨A5, cc5, rfl, _⟩ := ho5.form
      have ls6 := ls5.below hb5
      clear c0 c1 c2 cl
      obtain ⟨c0, c1, c2, cl⟩ := ls6.cells
      go_wp2_with fail
      refine (iLeaveLine_any _ _ _ _ _ _ _ ls6.sees HL.out).mono ?_
      rintro e w6 ⟨⟨_, v6, rfl, ho6⟩ | ⟨hf, _⟩, hb6⟩
      rotate_left
      · rw [hlv] at hf; cases hf
      obtain ⟨A6, cc6, rfl, _⟩ := ho6.form
      have ls7 := ls6.below hb6
      have ho57 := ho5.below hb6
      have ll := LS.start (s := Line.leaveS s n l (Line.callT s n l)) (n := n) ho6 hb6
      clear c0 c1 c2 cl
      by_cases h2 : (Line.waitV s n l).length < 2
      · have hf2 : Line.callB (Line.leaveS s n l (Line.callT s n l)) n (Line.leaveG s n l (Line.callT s n l)) = false := by
          rw [hcb', ← HW.out]; exact decide_eq_false (by rw [List.length_tail]; omega)
        have h2' : ((Line.waitV s n l).length : Int) < 2 := by omega
        go_wp2_with fail
        refine (iCallNext_any _ _ _ _ _ _ ll.sees hgl'.out).mono ?_
        rintro e w7 ⟨⟨hf, _⟩ | ⟨_, rfl⟩, hb7⟩
        · rw [hf2] at hf; cases hf
        have ls8 := (ls7.alloc _).below hb7
        go_wp2
        go_ret
        exact ⟨by simp, (ls8.alloc _).2.2.1⟩
      · have ht2 : Line.callB (Line.leaveS s n l (Line.callT s n l)) n (Line.leaveG s n l (Line.callT s n l)) = true := by
          rw [hcb', ← HW.out]; exact decide_eq_true (by rw [List.length_tail]; omega)
        have hlen2 : 1 < (Line.waitV s n l).length := by omega
        have hct2 : Line.callT (Line.leaveS s n l (Line.callT s n l)) n (Line.leaveG s n l (Line.callT s n l)) = (Line.waitV s n l)[1] := by
          rw [hct' (by rw [hlw, ← HW.out, List.length_tail]; omega)]
          simp only [hlw, ← HW.out]
          rw [List.getElem_tail]
        have HC2 := hid hct2
        clear hct' hct2 hcb' hlw
        have h2' : ¬ ((Line.waitV s n l).length : Int) < 2 := by omega
        have h2'' : (1 : Int) < ((Line.waitV s n l).length : Int) := by omega
        go_wp2_with fail
        refine (iCallNext_any _ _ _ _ _ _ ll.sees hgl'.out).mono ?_
        rintro e w7 ⟨⟨_, v7, rfl, ho7⟩ | ⟨hf, _⟩, hb7⟩
        rotate_left
        · rw [ht2] at hf; cases hf
        obtain ⟨A7, cc7, rfl, _⟩ := ho7.form
        have ls8 := (ls7.alloc (.cells #[.int .i64 (Line.leaveS s n l (Line.callT s n l)), .int .i64 n, .slice A6 (Line.leaveG s n l (Line.callT s n l)).length cc6] 25)).below hb7
        have ho58 := (ho57.below ((Below.refl _ _).alloc (Nat.le_refl _) (.cells #[.int .i64 (Line.leaveS s n l (Line.callT s n l)), .int .i64 n, .slice A6 (Line.leaveG s n l (Line.callT s n l)).length cc6] 25))).below hb7
        obtain ⟨b, o, rfl, hbl, hcell⟩ := (Sees.of_own ho58.out).int hlen2
        rw [← HC2.out] at hcell
        go_wp2
        go_ret
        exact ⟨by simp, (ls8.alloc _).2.2.1⟩

end Go.Proofs.Ytcfijijpcafncab

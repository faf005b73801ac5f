/-
  The walk of the law FnTakeTicketFull: at every code it returns true and changes nothing that was there. Conditions: none.
-/
import Derived.Test.YtcfijijpcafncabLineDraw
import Derived.Test.YtcfijijpcafncabLineEq
import Derived.Test.YtcfijijpcafncabLineF
import Derived.Test.YtcfijijpcafncabLawFrameB
namespace Go.Proofs.Ytcfijijpcafncab
open Go.RowKit

set_option maxHeartbeats 2000000 in
theorem walkTakeTicketFull (a : Option Addr) (len cap : Nat) (zs : List Int) (w : World) (hn : zs.length = len) (hc : len ≤ cap) (hcc : cap ≤ maxLen) (h : Sees w w.heap.size a (byts zs)) (hz : ∀ y ∈ zs, 0 ≤ y ∧ y ≤ 255) :
    Calls Try.prog 6 #[.slice a len cap] w fun e w' => e = .returned (.bool true) ∧ Below w.heap.size w w' := by
  have HE := hid hn
  have HC := hid hcc
  have HZ := hid hz
  clear hn hcc hz
  by_cases hbig : 1048576 < len
  · go_enter Try.func6, Try.ntmps6
    go_wp2
    go_ret
    exact ⟨rfl, Below.refl _ _⟩
  · go_enter Try.func6, Try.ntmps6
    go_wp2_with fail
    refine (drawTakeTicket_any _ _ _ _ _ h HZ.out HE.out hc (by omega) HC.out).mono ?_
    rintro e w1 ⟨s, n, A, c, l, rfl, ho, k1, k2, k3, k4, hl, hb1⟩
    have HL := hid (show l.length ≤ 4194304 by omega)
    clear hl
    have ls := LS.start (s := s) (n := n) ho hb1
    rcases ht : Line.takeB s n l with _ | _
    · go_wp2_with fail
      refine (iTakeTicket_any _ _ _ _ _ _ ls.sees HL.out).mono ?_
      rintro e w2 ⟨⟨hf, _⟩ | ⟨_, rfl⟩, hb2⟩
      · rw [ht] at hf; cases hf
      have ls2 := ls.below hb2
      obtain ⟨c0, c1, c2, cl⟩ := ls2.cells
      have lo := LS.zero w2
      have ls3 := ls2.alloc (.cells #[.int .i64 0, .int .i64 0, .slice none 0 0] 25)
      go_wp2_with fail
      refine (sTakeTicket_any _ _ _ _ _ _ ls3.sees HL.out).mono ?_
      rintro e w3 ⟨⟨hf, _⟩ | ⟨_, rfl⟩, hb3⟩
      · rw [ht] at hf; cases hf
      have ls4 := ls3.below hb3
      have lo4 := lo.below hb3
      clear c0 c1 c2 cl
      obtain ⟨c0, c1, c2, cl⟩ := lo4.cells
      go_wp2_with fail
      refine (equalLine_zero _).mono ?_
      rintro e w4 ⟨rfl, hb4⟩
      have ls5 := (ls4.alloc (.cells #[.int .i64 0, .int .i64 0, .slice none 0 0] 25)).below hb4
      have lo5 := (lo4.alloc (.cells #[.int .i64 0, .int .i64 0, .slice none 0 0] 25)).below hb4
      have lw5 := (LS.zero w3).below hb4
      clear c0 c1 c2 cl
      obtain ⟨c0, c1, c2, cl⟩ := ls5.cells
      obtain ⟨d0, d1, d2, dl⟩ := lo5.cells
      obtain ⟨e0, e1, e2, el⟩ := lw5.cells
      rcases hok : Line.okB s n l with _ | _
      · go_wp2_with fail
        refine (iValidLine_any _ _ _ _ _ _ ls5.sees (Nat.le_trans HL.out (by decide))).mono ?_
        rintro e w5 ⟨rfl, hb5⟩
        rw [hok]
        have ls6 := ls5.below hb5
        have lo6 := lo5.below hb5
        have lw6 := lw5.below hb5
        clear c0 c1 c2 cl d0 d1 d2 dl e0 e1 e2 el
        obtain ⟨d0, d1, d2, dl⟩ := lo6.cells
        obtain ⟨e0, e1, e2, el⟩ := lw6.cells
        go_wp2_with fail
        refine (equalLine_zero _).mono ?_
        rintro e w6 ⟨rfl, hb6⟩
        have ls7 := ls6.below hb6
        go_wp2
        go_ret
        exact ⟨rfl, ls7.2.2.1⟩
      · go_wp2_with fail
        refine (iValidLine_any _ _ _ _ _ _ ls5.sees (Nat.le_trans HL.out (by decide))).mono ?_
        rintro e w5 ⟨rfl, hb5⟩
        rw [hok]
        have ls6 := ls5.below hb5
        clear c0 c1 c2 cl d0 d1 d2 dl e0 e1 e2 el
        obtain ⟨c0, c1, c2, cl⟩ := ls6.cells
        have hsw : IntKind.i64.wrap (s + 12) = s + 12 := by rw [IntKind.wrap_i64]; omega
        by_cases h1 : n < 1000
        · have h2 : ¬ n < s + 12 := fun h2 => by rw [Line.takeB_iff.2 ⟨hok, h1, h2⟩] at ht; cases ht
          have h3 : decide (n < 1000) = true := decide_eq_true h1
          have h4 : decide (n < s + 12) = false := decide_eq_false h2
          go_wp2
          go_ret
          exact ⟨by simp, ls6.2.2.1⟩
        · have h3 : decide (n < 1000) = false := decide_eq_false h1
          go_wp2
          go_ret
          exact ⟨by simp, ls6.2.2.1⟩
    · obtain ⟨hok, t1, t2⟩ := Line.takeB_iff.1 ht
      go_wp2_with fail
      refine (iTakeTicket_any _ _ _ _ _ _ ls.sees HL.out).mono ?_
      rintro e w2 ⟨⟨_, v2, rfl, ho2⟩ | ⟨hf, _⟩, hb2⟩
      rotate_left
      · rw [ht] at hf; cases hf
      obtain ⟨A2, cc2, rfl, _⟩ := ho2.form
      have ls2 := ls.below hb2
      obtain ⟨c0, c1, c2, cl⟩ := ls2.cells
      have lo := LS.start (s := s) (n := n + 1) ho2 hb2
      have ls3 := ls2.alloc (.cells #[.int .i64 s, .int .i64 (n + 1), .slice A2 l.length cc2] 25)
      go_wp2_with fail
      refine (sTakeTicket_any _ _ _ _ _ _ ls3.sees HL.out).mono ?_
      rintro e w3 ⟨⟨_, v3, rfl, ho3⟩ | ⟨hf, _⟩, hb3⟩
      rotate_left
      · rw [ht] at hf; cases hf
      obtain ⟨A3, cc3, rfl, _⟩ := ho3.form
      have ls4 := ls3.below hb3
      have lo4 := lo.below hb3
      have lw4 := LS.start (s := s) (n := n + 1) ho3 hb3
      clear c0 c1 c2 cl
      obtain ⟨c0, c1, c2, cl⟩ := lo4.cells
      go_wp2_with fail
      refine (equalLine_same _ _ _ _ _ _ _ _ (lo4.alloc _).sees lw4.sees HL.out).mono ?_
      rintro e w4 ⟨rfl, hb4⟩
      have ls5 := (ls4.alloc (.cells #[.int .i64 s, .int .i64 (n + 1), .slice A3 l.length cc3] 25)).below hb4
      clear c0 c1 c2 cl
      obtain ⟨c0, c1, c2, cl⟩ := ls5.cells
      go_wp2_with fail
      refine (iValidLine_any _ _ _ _ _ _ ls5.sees (Nat.le_trans HL.out (by decide))).mono ?_
      rintro e w5 ⟨rfl, hb5⟩
      rw [hok]
      have ls6 := ls5.below hb5
      clear c0 c1 c2 cl
      obtain ⟨c0, c1, c2, cl⟩ := ls6.cells
      have hsw : IntKind.i64.wrap (s + 12) = s + 12 := by rw [IntKind.wrap_i64]; omega
      have h3 : decide (n < 1000) = true := decide_eq_true t1
      have h4 : decide (n < s + 12) = true := decide_eq_true t2
      go_wp2
      go_ret
      exact ⟨by simp, ls6.2.2.1⟩

end Go.Proofs.Ytcfijijpcafncab

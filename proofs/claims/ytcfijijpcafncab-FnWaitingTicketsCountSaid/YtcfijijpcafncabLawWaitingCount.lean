/-
  The walk of the law FnWaitingTicketsCount: at every code it returns true and changes nothing that was there. Conditions: none.
-/
import Derived.Test.YtcfijijpcafncabLawFrameB
import Derived.Test.YtcfijijpcafncabLineD
import Derived.Test.YtcfijijpcafncabLineE
import Derived.Test.YtcfijijpcafncabLineMathD
namespace Go.Proofs.Ytcfijijpcafncab
open Go.RowKit

set_option maxHeartbeats 2000000 in
theorem walkWaitingCount (a : Option Addr) (len cap : Nat) (zs : List Int) (w : World) (hn : zs.length = len) (hc : len ≤ cap) (hcc : cap ≤ maxLen) (h : Sees w w.heap.size a (byts zs)) (hz : ∀ y ∈ zs, 0 ≤ y ∧ y ≤ 255) :
    Calls Try.prog 7 #[.slice a len cap] w fun e w' => e = .returned (.bool true) ∧ Below w.heap.size w w' := by
  have HE := hid hn
  have HC := hid hcc
  have HZ := hid hz
  clear hn hcc hz
  by_cases hbig : 1048576 < len
  · go_enter Try.func7, Try.ntmps7
    go_wp2
    go_ret
    exact ⟨rfl, Below.refl _ _⟩
  · go_enter Try.func7, Try.ntmps7
    go_wp2_with fail
    refine (drawWaitingTickets_any _ _ _ _ _ h HZ.out HE.out hc (by omega) HC.out).mono ?_
    rintro e w1 ⟨s, n, A, c, l, rfl, ho, k1, k2, k3, k4, hl, hb1⟩
    have HL := hid (show l.length ≤ 4194304 by omega)
    clear hl
    have ls := LS.start (s := s) (n := n) ho hb1
    have HW := hid (waitV_len s n l)
    go_wp2_with fail
    refine (iWaitingTickets_any _ _ _ _ _ _ ls.sees HL.out).mono ?_
    rintro e w2 ⟨v2, rfl, ho2, hb2⟩
    obtain ⟨A2, cc2, rfl, _⟩ := ho2.form
    have ls2 := ls.below hb2
    obtain ⟨c0, c1, c2, cl⟩ := ls2.cells
    go_wp2_with fail
    refine (sWaitingTickets_any _ _ _ _ _ _ ls2.sees HL.out).mono ?_
    rintro e w3 ⟨v3, rfl, ho3, hb3⟩
    obtain ⟨A3, cc3, rfl, _⟩ := ho3.form
    have ls3 := ls2.below hb3
    have ho23 := ho2.below hb3
    clear c0 c1 c2 cl
    go_wp2_with fail
    refine (equalInts_same _ _ _ _ _ _ (Sees.of_own ho23.out) (Sees.of_own ho3.out) (by have := HW.out; omega)).mono ?_
    rintro e w4 ⟨rfl, hb4⟩
    have ls4 := ls3.below hb4
    have ho24 := ho23.below hb4
    obtain ⟨c0, c1, c2, cl⟩ := ls4.cells
    rcases hok : Line.okB s n l with _ | _
    · go_wp2_with fail
      refine (iValidLine_any _ _ _ _ _ _ ls4.sees (Nat.le_trans HL.out (by decide))).mono ?_
      rintro e w5 ⟨rfl, hb5⟩
      rw [hok]
      have ls5 := ls4.below hb5
      have ho25 := ho24.below hb5
      clear c0 c1 c2 cl
      obtain ⟨c0, c1, c2, cl⟩ := ls5.cells
      go_wp2_with fail
      refine (sWaitingTickets_any _ _ _ _ _ _ ls5.sees HL.out).mono ?_
      rintro e w6 ⟨v6, rfl, ho6, hb6⟩
      obtain ⟨A6, cc6, rfl, _⟩ := ho6.form
      have ls6 := ls5.below hb6
      have ho26 := ho25.below hb6
      go_wp2_with fail
      refine (equalInts_same _ _ _ _ _ _ (Sees.of_own ho26.out) (Sees.of_own ho6.out) (by have := HW.out; omega)).mono ?_
      rintro e w7 ⟨rfl, hb7⟩
      have ls7 := ls6.below hb7
      go_wp2
      go_ret
      exact ⟨rfl, ls7.2.2.1⟩
    · go_wp2_with fail
      refine (iValidLine_any _ _ _ _ _ _ ls4.sees (Nat.le_trans HL.out (by decide))).mono ?_
      rintro e w5 ⟨rfl, hb5⟩
      rw [hok]
      have ls5 := ls4.below hb5
      clear c0 c1 c2 cl
      obtain ⟨c0, c1, c2, cl⟩ := ls5.cells
      have hcount := Line.waits_count hok
      rw [← Line.waitV_yes hok] at hcount
      have hgone := Line.gone_len hok
      have hw12 := HW.out
      have hs1 : IntKind.i64.wrap (n - s) = n - s := by rw [IntKind.wrap_i64]; omega
      have hs2 : IntKind.i64.wrap (n - s - (l.length : Int)) = n - s - (l.length : Int) := by rw [IntKind.wrap_i64]; omega
      have he : (((Line.waitV s n l).length : Int) == n - s - (l.length : Int)) = true := by rw [hcount]; simp
      have hle : ((Line.waitV s n l).length : Int) ≤ 12 := by omega
      go_wp2
      go_ret
      exact ⟨by simp; omega, ls5.2.2.1⟩

end Go.Proofs.Ytcfijijpcafncab

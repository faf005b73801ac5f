/-
  The walk of the law FnValidLine: at every code it returns true and changes nothing that was there. Conditions: none.
-/
import Derived.Test.YtcfijijpcafncaaLineDraw
import Derived.Test.YtcfijijpcafncaaLineEq
import Derived.Test.YtcfijijpcafncaaLineB
import Derived.Test.YtcfijijpcafncaaLawFrame
namespace Go.Proofs.Ytcfijijpcafncaa
open Go.RowKit

theorem okB_nil {s n : Int} {g : List Int} (h : Line.okB s n g = true) : Line.okB s n [] = true ∧ Line.okB n n [] = true := by
  obtain ⟨h1, h2, h3, h4, h5, _, _⟩ := Line.okB_iff.1 h
  exact ⟨Line.okB_iff.2 ⟨h1, h2, h3, h4, h5, Line.Asc.nil, by simp⟩, Line.okB_iff.2 ⟨by omega, by omega, by omega, h4, by omega, Line.Asc.nil, by simp⟩⟩

set_option maxHeartbeats 2000000 in
theorem walkValidLine (a : Option Addr) (len cap : Nat) (zs : List Int) (w : World) (hn : zs.length = len) (hc : len ≤ cap) (hcc : cap ≤ maxLen) (h : Sees w w.heap.size a (byts zs)) (hz : ∀ y ∈ zs, 0 ≤ y ∧ y ≤ 255) :
    Calls Try.prog 3 #[.slice a len cap] w fun e w' => e = .returned (.bool true) ∧ Below w.heap.size w w' := by
  have HE := hid hn
  have HC := hid hcc
  have HZ := hid hz
  clear hn hcc hz
  by_cases hbig : 1048576 < len
  · go_enter Try.func3, Try.ntmps3
    go_wp2
    go_ret
    exact ⟨rfl, Below.refl _ _⟩
  · go_enter Try.func3, Try.ntmps3
    go_wp2_with fail
    refine (drawValidLine_any _ _ _ _ _ h HZ.out HE.out hc (by omega) HC.out).mono ?_
    rintro e w1 ⟨s, n, A, c, l, rfl, ho, _, _, _, _, hl, hb1⟩
    have HL := hid hl
    clear hl
    have ls := LS.start (s := s) (n := n) ho hb1
    rcases hok : Line.okB s n l with _ | _
    · go_wp2_with fail
      refine (iValidLine_any _ _ _ _ _ _ ls.sees (by have := HL.out; omega)).mono ?_
      rintro e w2 ⟨rfl, hb2⟩
      have ls2 := ls.below hb2
      obtain ⟨c0, c1, c2, cl⟩ := ls2.cells
      go_wp2_with fail
      refine (sValidLine_any _ _ _ _ _ _ ls2.sees (by have := HL.out; omega)).mono ?_
      rintro e w3 ⟨rfl, hb3⟩
      have ls3 := ls2.below hb3
      clear c0 c1 c2
      obtain ⟨c0, c1, c2, cl⟩ := ls3.cells
      go_wp2_with fail
      refine (sValidLine_any _ _ _ _ _ _ ls3.sees (by have := HL.out; omega)).mono ?_
      rintro e w4 ⟨rfl, hb4⟩
      have ls4 := ls3.below hb4
      go_wp2
      go_ret
      exact ⟨by simp, ls4.2.2.1⟩
    · obtain ⟨k1, k2⟩ := okB_nil hok
      go_wp2_with fail
      refine (iValidLine_any _ _ _ _ _ _ ls.sees (by have := HL.out; omega)).mono ?_
      rintro e w2 ⟨rfl, hb2⟩
      have ls2 := ls.below hb2
      obtain ⟨c0, c1, c2, cl⟩ := ls2.cells
      go_wp2_with fail
      refine (sValidLine_any _ _ _ _ _ _ ls2.sees (by have := HL.out; omega)).mono ?_
      rintro e w3 ⟨rfl, hb3⟩
      have ls3 := ls2.below hb3
      clear c0 c1 c2
      obtain ⟨c0, c1, c2, cl⟩ := ls3.cells
      go_wp2_with fail
      refine (iValidLine_any none 0 s n [] _ Sees.nil (by simp)).mono ?_
      rintro e w4 ⟨rfl, hb4⟩
      have ls4 := ls3.below hb4
      clear c0 c1 c2
      obtain ⟨c0, c1, c2, cl⟩ := ls4.cells
      go_wp2_with fail
      refine (iValidLine_any none 0 n n [] _ Sees.nil (by simp)).mono ?_
      rintro e w5 ⟨rfl, hb5⟩
      have ls5 := ls4.below hb5
      go_wp2
      go_ret
      exact ⟨by simp, ls5.2.2.1⟩
end Go.Proofs.Ytcfijijpcafncaa

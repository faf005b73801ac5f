/-
  The walk of the law FnPlaceInLine: at every code it returns true and changes nothing that was there. Conditions: none.
-/
import Derived.Test.YtcfijijpcafncabLawFrameB
import Derived.Test.YtcfijijpcafncabLineDrawB
import Derived.Test.YtcfijijpcafncabLineE
import Derived.Test.YtcfijijpcafncabLineMathD
namespace Go.Proofs.Ytcfijijpcafncab
open Go.RowKit

set_option maxHeartbeats 2000000 in
theorem walkPlaceInLine (a : Option Addr) (len cap : Nat) (zs : List Int) (w : World) (hn : zs.length = len) (hc : len ≤ cap) (hcc : cap ≤ maxLen) (h : Sees w w.heap.size a (byts zs)) (hz : ∀ y ∈ zs, 0 ≤ y ∧ y ≤ 255) :
    Calls Try.prog 4 #[.slice a len cap] w fun e w' => e = .returned (.bool true) ∧ Below w.heap.size w w' := by
  have HE := hid hn
  have HC := hid hcc
  have HZ := hid hz
  clear hn hcc hz
  by_cases hbig : 1048576 < len
  · go_enter Try.func4, Try.ntmps4
    go_wp2
    go_ret
    exact ⟨rfl, Below.refl _ _⟩
  · go_enter Try.func4, Try.ntmps4
    go_wp2_with fail
    refine (drawPlaceInLine_any _ _ _ _ _ h HZ.out HE.out hc (by omega) HC.out).mono ?_
    rintro e w1 ⟨s, n, A, c, l, t, rfl, ho, k1, k2, k3, k4, hl, hb1⟩
    have HL := hid (show l.length ≤ 4194304 by omega)
    clear hl
    have ls := LS.start (s := s) (n := n) ho hb1
    rcases hp : (Line.placeV s n l t == -1) with _ | _
    · have hm : t ∈ Line.waitV s n l := by
        apply Classical.byContradiction
        intro hh
        rw [show Line.placeV s n l t = -1 from Line.place_no hh] at hp
        cases hp
      obtain ⟨k, hk, e1, e2⟩ := Line.place_get hm
      have E1 := hid (show Line.placeV s n l t = (k : Int) from e1)
      have E2 := hid e2
      clear e1 e2 hp hm
      have hklen := waitV_len s n l
      have hneg : ¬ (k : Int) < 0 := by omega
      go_wp2_with fail
      refine (iPlaceInLine_any _ _ _ _ _ _ _ ls.sees HL.out).mono ?_
      rintro e w2 ⟨he, hb2⟩
      rw [E1.out] at he
      subst he
      have ls2 := ls.below hb2
      obtain ⟨c0, c1, c2, cl⟩ := ls2.cells
      go_wp2_with fail
      refine (sPlaceInLine_any _ _ _ _ _ _ _ ls2.sees HL.out).mono ?_
      rintro e w3 ⟨he, hb3⟩
      rw [E1.out] at he
      subst he
      have ls3 := ls2.below hb3
      clear c0 c1 c2 cl
      obtain ⟨c0, c1, c2, cl⟩ := ls3.cells
      go_wp2_with fail
      refine (iWaitingTickets_any _ _ _ _ _ _ ls3.sees HL.out).mono ?_
      rintro e w4 ⟨v4, rfl, ho4, hb4⟩
      obtain ⟨A4, cc4, rfl, hs4⟩ := ho4.form
      have ls4 := ls3.below hb4
      obtain ⟨b, o, rfl, _, hcell⟩ := hs4.int hk
      rw [E2.out] at hcell
      have hlt : (k : Int) < ((Line.waitV s n l).length : Int) := by omega
      have hnn : (0 : Int) ≤ (k : Int) := by omega
      go_wp2
      go_ret
      exact ⟨by simp, ls4.2.2.1⟩
    · have e1 : Line.placeV s n l t = -1 := by simpa using hp
      have E1 := hid e1
      clear e1 hp
      go_wp2_with fail
      refine (iPlaceInLine_any _ _ _ _ _ _ _ ls.sees HL.out).mono ?_
      rintro e w2 ⟨he, hb2⟩
      rw [E1.out] at he
      subst he
      have ls2 := ls.below hb2
      obtain ⟨c0, c1, c2, cl⟩ := ls2.cells
      go_wp2_with fail
      refine (sPlaceInLine_any _ _ _ _ _ _ _ ls2.sees HL.out).mono ?_
      rintro e w3 ⟨he, hb3⟩
      rw [E1.out] at he
      subst he
      have ls3 := ls2.below hb3
      clear c0 c1 c2 cl
      obtain ⟨c0, c1, c2, cl⟩ := ls3.cells
      go_wp2_with fail
      refine (sPlaceInLine_any _ _ _ _ _ _ _ ls3.sees HL.out).mono ?_
      rintro e w4 ⟨he, hb4⟩
      rw [E1.out] at he
      subst he
      have ls4 := ls3.below hb4
      go_wp2
      go_ret
      exact ⟨by simp, ls4.2.2.1⟩

end Go.Proofs.Ytcfijijpcafncab

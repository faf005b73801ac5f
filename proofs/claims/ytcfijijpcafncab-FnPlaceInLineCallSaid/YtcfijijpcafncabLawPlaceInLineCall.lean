/-
  The walk of the law FnPlaceInLineCall: at every code it returns true and changes nothing that was there. Conditions: none.
-/
import Derived.Test.YtcfijijpcafncabLawFrameB
import Derived.Test.YtcfijijpcafncabLineDrawB
import Derived.Test.YtcfijijpcafncabLineE
import Derived.Test.YtcfijijpcafncabLineG
import Derived.Test.YtcfijijpcafncabLineMathD
namespace Go.Proofs.Ytcfijijpcafncab
open Go.RowKit

set_option maxHeartbeats 2000000 in
theorem walkPlaceInLineCall (a : Option Addr) (len cap : Nat) (zs : List Int) (w : World) (hn : zs.length = len) (hc : len ≤ cap) (hcc : cap ≤ maxLen) (h : Sees w w.heap.size a (byts zs)) (hz : ∀ y ∈ zs, 0 ≤ y ∧ y ≤ 255) :
    Calls Try.prog 5 #[.slice a len cap] w fun e w' => e = .returned (.bool true) ∧ Below w.heap.size w w' := by
  have HE := hid hn
  have HC := hid hcc
  have HZ := hid hz
  clear hn hcc hz
  by_cases hbig : 1048576 < len
  · go_enter Try.func5, Try.ntmps5
    go_wp2
    go_ret
    exact ⟨rfl, Below.refl _ _⟩
  · go_enter Try.func5, Try.ntmps5
    go_wp2_with fail
    refine (drawPlaceInLine_any _ _ _ _ _ h HZ.out HE.out hc (by omega) HC.out).mono ?_
    rintro e w1 ⟨s, n, A, c, l, t, rfl, ho, k1, k2, k3, k4, hl, hb1⟩
    have HL := hid (show l.length ≤ 4194304 by omega)
    clear hl
    have ls := LS.start (s := s) (n := n) ho hb1
    rcases hp : (Line.placeV s n l t == -1) with _ | _
    · have hm : t ∈ Line.waitV s n l := by
        apply Classical.byContradiction
        intro hh
        rw [show Line.placeV s n l t = -1 from Line.place_no hh] at hp
        cases hp
      obtain ⟨k, hk, e1, e2⟩ := Line.place_get hm
      have hcb : Line.callB s n l = true := by rw [callB_waitV]; exact decide_eq_true (by omega)
      have hpc := Line.place_call (t := t) hcb (by simpa using hp)
      have e1' : Line.placeV s n l t = (k : Int) := e1
      rw [e1'] at hpc
      have E1 := hid e1'
      have E3 := hid hpc.1
      obtain ⟨bb, hb0, hb1'⟩ : ∃ bb, ((k : Int) == 0) = bb ∧ (Line.callT s n l == t) = bb := ⟨_, rfl, by
        have h2 := hpc.2
        rw [decide_eq_decide] at h2
        rcases h3 : ((k : Int) == 0) with _ | _
        · have h3' : ¬ (k : Int) = 0 := by simpa using h3
          have : ¬ Line.callT s n l = t := fun e => h3' (h2.2 e)
          simpa using this
        · have h3' : (k : Int) = 0 := by simpa using h3
          simpa using h2.1 h3'⟩
      clear e1 e2 e1' hp hm hpc
      have hklen := waitV_len s n l
      have hneg : ¬ (k : Int) < 0 := by omega
      have hw : IntKind.i64.wrap ((k : Int) - 1) = (k : Int) - 1 := by rw [IntKind.wrap_i64]; omega
      go_wp2_with fail
      refine (iPlaceInLine_any _ _ _ _ _ _ _ ls.sees HL.out).mono ?_
      rintro e w2 ⟨he, hb2⟩
      rw [E1.out] at he
      subst he
      have ls2 := ls.below hb2
      obtain ⟨c0, c1, c2, cl⟩ := ls2.cells
      go_wp2_with fail
      refine (sPlaceInLine_any _ _ _ _ _ _ _ ls2.sees HL.out).mono ?_
      rintro e w3 ⟨he, hb3⟩
      rw [E1.out] at he
      subst he
      have ls3 := ls2.below hb3
      clear c0 c1 c2 cl
      obtain ⟨c0, c1, c2, cl⟩ := ls3.cells
      go_wp2_with fail
      refine (iCallNext_any _ _ _ _ _ _ ls3.sees HL.out).mono ?_
      rintro e w4 ⟨⟨_, v4, rfl, ho4⟩ | ⟨hf, _⟩, hb4⟩
      rotate_left
      · rw [hcb] at hf; cases hf
      obtain ⟨A4, cc4, rfl, _⟩ := ho4.form
      have ls4 := ls3.below hb4
      have hgl : (Line.callG s n l).length ≤ 12 := Line.gone_len (Line.call_ok hcb)
      have lo := LS.start (s := Line.callT s n l + 1) (n := n) ho4 hb4
      go_wp2_with fail
      refine (iPlaceInLine_any _ _ _ _ _ _ _ lo.sees (by omega)).mono ?_
      rintro e w5 ⟨he, hb5⟩
      rw [E3.out] at he
      subst he
      have ls5 := (ls4.alloc _).below hb5
      cases bb
      · go_wp2
        go_ret
        exact ⟨by simp, ls5.2.2.1⟩
      · go_wp2
        go_ret
        exact ⟨by simp, ls5.2.2.1⟩
    · have e1 : Line.placeV s n l t = -1 := by simpa using hp
      have E1 := hid e1
      clear e1 hp
      go_wp2_with fail
      refine (iPlaceInLine_any _ _ _ _ _ _ _ ls.sees HL.out).mono ?_
      rintro e w2 ⟨he, hb2⟩
      rw [E1.out] at he
      subst he
      have ls2 := ls.below hb2
      obtain ⟨c0, c1, c2, cl⟩ := ls2.cells
      go_wp2_with fail
      refine (sPlaceInLine_any _ _ _ _ _ _ _ ls2.sees HL.out).mono ?_
      rintro e w3 ⟨he, hb3⟩
      rw [E1.out] at he
      subst he
      have ls3 := ls2.below hb3
      clear c0 c1 c2 cl
      obtain ⟨c0, c1, c2, cl⟩ := ls3.cells
      go_wp2_with fail
      refine (sPlaceInLine_any _ _ _ _ _ _ _ ls3.sees HL.out).mono ?_
      rintro e w4 ⟨he, hb4⟩
      rw [E1.out] at he
      subst he
      have ls4 := ls3.below hb4
      go_wp2
      go_ret
      exact ⟨by simp, ls4.2.2.1⟩

end Go.Proofs.Ytcfijijpcafncab

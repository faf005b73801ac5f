/-
  The walk of the exact law FnExactValidHosts: at every argument it returns true and changes nothing that was there. Conditions: none.
-/
import Derived.Test.YtbgpdpmijlhkkaaXGen
import Derived.Test.YtbgpdpmijlhkkaaHoB
import Derived.Test.YtbgpdpmijlhkkaaHoD
import Derived.Test.YtbgpdpmijlhkkaaSsHost
namespace Go.Proofs.Ytbgpdpmijlhkkaa
open Go.RowKit Hos

set_option maxHeartbeats 4000000 in
theorem walkExactValidHosts (A : Option Addr) (c : Nat) (l : List Hst) (w : World) (hm : l.length ≤ maxLen) (hc : l.length ≤ c) (h : Sees w w.heap.size A (strip hcl l)) :
    Calls Try.prog 3 #[.slice A l.length c] w fun e w' => e = .returned (.bool true) ∧ Below w.heap.size w w' := by
  have HM := hid hm
  have HC := hid hc
  clear hm hc
  by_cases hbig : 1048576 < l.length
  · have E : Hid ((if 1048576 < l.length then (-1 : Int) else 1048576 - l.length) = -1) := hid (if_pos hbig)
    go_enter Try.func3, Try.ntmps3
    go_wp2_with fail
    refine (szHostS_any A l.length c _ HM.out).mono ?_
    rintro e w1 ⟨he, rfl⟩
    rw [E.out] at he
    subst he
    go_wp2
    go_ret
    exact ⟨rfl, Below.refl _ _⟩
  · have E : Hid ((if 1048576 < l.length then (-1 : Int) else 1048576 - l.length) = 1048576 - l.length) := hid (if_neg hbig)
    have HN := hid (show l.length ≤ 1048576 by omega)
    have HN4 := hid (show l.length ≤ 4194304 by omega)
    have hle : ¬ (1048576 : Int) - (l.length : Int) < 0 := by omega
    have hB0 := Below.refl w.heap.size w
    have H0 := h
    skip
    go_enter Try.func3, Try.ntmps3
    go_wp2_with fail
    refine (szHostS_any A l.length c _ HM.out).mono ?_
    rintro e w' ⟨he, rfl⟩
    rw [E.out] at he
    subst he
    obtain ⟨V, hV⟩ : ∃ y, y = hostsB l := ⟨_, rfl⟩
    have HV : Hid (hostsB l = V) := hid hV.symm
    clear hV
    go_wp2_with fail
    refine (toHostS_any A c l _ H0 HN4.out).mono ?_
    rintro e w1 ⟨v1, rfl, ho1, hb1⟩
    have hB1 := hB0.trans (hb1.mono hB0.size)
    have Z1 := hid hb1.size
    have H1 := (h.below hB1).more hB1.size
    clear hb1  hB0 H0
    obtain ⟨A1, c1, rfl, hc1, _, s1⟩ := ho1.form
    have CX := hid hc1
    have RX : Hid (∀ k, (Value.slice A1 l.length c1).ownBlock = some k → w.heap.size ≤ k ∧ k < w1.heap.size) := hid ho1.lt
    clear hc1 s1
    have X1 := ho1
    clear ho1
    go_wp2_with fail
    refine (sValidHosts_any A1 c1 l   _ X1.sees HN4.out).mono ?_
    rintro e w2 ⟨he, hb2⟩
    rw [HV.out] at he
    subst he
    have hB2 := hB1.trans (hb2.mono hB1.size)
    have Z2 := hid hb2.size
    have X2 := X1.below hb2
    have H2 := (h.below hB2).more hB2.size
    clear hb2 X1 hB1 H1
    clear X2 RX CX
    go_wp2_with fail
    refine (toHostS_any A c l _ H2 HN4.out).mono ?_
    rintro e w3 ⟨v3, rfl, ho3, hb3⟩
    have hB3 := hB2.trans (hb3.mono hB2.size)
    have Z3 := hid hb3.size
    have H3 := (h.below hB3).more hB3.size
    clear hb3  hB2 H2
    obtain ⟨A3, c3, rfl, hc3, _, s3⟩ := ho3.form
    have CX := hid hc3
    have RX : Hid (∀ k, (Value.slice A3 l.length c3).ownBlock = some k → w2.heap.size ≤ k ∧ k < w3.heap.size) := hid ho3.lt
    clear hc3 s3
    have X3 := ho3
    clear ho3
    go_wp2_with fail
    refine (iValidHosts_any A3 c3 l   _ X3.sees HN4.out).mono ?_
    rintro e w4 ⟨he, hb4⟩
    rw [HV.out] at he
    subst he
    have hB4 := hB3.trans (hb4.mono hB3.size)
    have Z4 := hid hb4.size
    have X4 := X3.below hb4
    have H4 := (h.below hB4).more hB4.size
    clear hb4 X3 hB3 H3
    go_wp2_with fail
    refine (toHostS_any A c l _ H4 HN4.out).mono ?_
    rintro e w5 ⟨v5, rfl, ho5, hb5⟩
    have hB5 := hB4.trans (hb5.mono hB4.size)
    have Z5 := hid hb5.size
    have X5 := X4.below hb5
    have H5 := (h.below hB5).more hB5.size
    clear hb5 X4 hB4 H4
    obtain ⟨A5, c5, rfl, hc5, _, s5⟩ := ho5.form
    have CY := hid hc5
    have RY : Hid (∀ k, (Value.slice A5 l.length c5).ownBlock = some k → w4.heap.size ≤ k ∧ k < w5.heap.size) := hid ho5.lt
    clear hc5 s5
    have Y5 := ho5
    clear ho5
    go_wp2_with fail
    refine (eqHostS_same A3 A5 c3 c5 l _ X5.sees Y5.sees HN4.out).mono ?_
    rintro e w6 ⟨rfl, hb6⟩
    have hB6 := hB5.trans (hb6.mono hB5.size)
    have Z6 := hid hb6.size
    have X6 := X5.below hb6
    have Y6 := Y5.below hb6
    have H6 := (h.below hB6).more hB6.size
    clear hb6 X5 Y5 hB5 H5
    clear Y6 RY CY
    go_wp2
    go_ret
    exact ⟨rfl, hB6⟩
end Go.Proofs.Ytbgpdpmijlhkkaa

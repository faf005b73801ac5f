/-
  The walk of the exact law FnExactKeptWork: at every argument it returns true and changes nothing that was there. Conditions: none.
-/
import Derived.Test.YthmpeahlddfpnaaXGen
import Derived.Test.YthmpeahlddfpnaaExZ
import Derived.Test.YthmpeahlddfpnaaNsG
import Derived.Test.YthmpeahlddfpnaaNsI
namespace Go.Proofs.Ythmpeahlddfpnaa
open Go.RowKit Nes

set_option maxHeartbeats 4000000 in
theorem walkExactKeptWork (A_l : Option Addr) (c_l : Nat) (l : List Int) (w : World) (_hm_l : l.length ≤ maxLen) (hc_l : l.length ≤ c_l) (h_l : Sees w w.heap.size A_l (ints l)) :
    Calls Try.prog 6 #[.slice A_l l.length c_l] w fun e w' => e = .returned (.bool true) ∧ Below w.heap.size w w' := by
  have HC_l := hid hc_l
  clear hc_l
  have hB0 := Below.refl w.heap.size w
  by_cases hbig_l : 1048576 < l.length
  · go_enter Try.func6, Try.ntmps6
    go_wp2
    go_ret
    exact ⟨rfl, hB0⟩
  · skip
    have HN_l := hid (show l.length ≤ 1048576 by omega)
    have HF_l := hid (show l.length ≤ 4194304 by omega)
    obtain ⟨V, hV⟩ : ∃ y, y = keptV l := ⟨_, rfl⟩
    have HV : Hid (keptV l = V) := hid hV.symm
    clear hV
    have H0_l := (h_l.below hB0).more hB0.size
    go_enter Try.func6, Try.ntmps6
    go_wp2_with fail
    refine (toIntS_any A_l c_l l _ H0_l HF_l.out).mono ?_
    rintro e w1 ⟨v1, rfl, ho1, hb1⟩
    have hB1 := hB0.trans (hb1.mono hB0.size)
    have Z1 := hid hb1.size
    have H1_l := (h_l.below hB1).more hB1.size
    clear hb1  hB0 H0_l
    obtain ⟨A1, c1, rfl, hc1, _, s1⟩ := ho1.form4
    have CTl := hid hc1
    have RTl : Hid (∀ k, (Value.slice A1 l.length c1).ownBlock = some k → w.heap.size ≤ k ∧ k < w1.heap.size) := hid ho1.lt4
    clear hc1 s1
    have Tl1 := ho1
    clear ho1
    go_wp2_with fail
    refine (sKeptWork_any A1 c1 l _ Tl1.sees4 HF_l.out).mono ?_
    rintro e w2 ⟨he, hb2⟩
    rw [HV.out] at he
    subst he
    have hB2 := hB1.trans (hb2.mono hB1.size)
    have Z2 := hid hb2.size
    have Tl2 := Tl1.below hb2
    have H2_l := (h_l.below hB2).more hB2.size
    clear hb2 Tl1 hB1 H1_l
    clear Tl2 RTl CTl
    go_wp2_with fail
    refine (toIntS_any A_l c_l l _ H2_l HF_l.out).mono ?_
    rintro e w3 ⟨v3, rfl, ho3, hb3⟩
    have hB3 := hB2.trans (hb3.mono hB2.size)
    have Z3 := hid hb3.size
    have H3_l := (h_l.below hB3).more hB3.size
    clear hb3  hB2 H2_l
    obtain ⟨A3, c3, rfl, hc3, _, s3⟩ := ho3.form4
    have CXl := hid hc3
    have RXl : Hid (∀ k, (Value.slice A3 l.length c3).ownBlock = some k → w2.heap.size ≤ k ∧ k < w3.heap.size) := hid ho3.lt4
    clear hc3 s3
    have Xl3 := ho3
    clear ho3
    go_wp2_with fail
    refine (iKeptWork_any A3 c3 l _ Xl3.sees4 HF_l.out).mono ?_
    rintro e w4 ⟨he, hb4⟩
    rw [HV.out] at he
    subst he
    have hB4 := hB3.trans (hb4.mono hB3.size)
    have Z4 := hid hb4.size
    have Xl4 := Xl3.below hb4
    have H4_l := (h_l.below hB4).more hB4.size
    clear hb4 Xl3 hB3 H3_l
    go_wp2_with fail
    refine (toIntS_any A_l c_l l _ H4_l HF_l.out).mono ?_
    rintro e w5 ⟨v5, rfl, ho5, hb5⟩
    have hB5 := hB4.trans (hb5.mono hB4.size)
    have Z5 := hid hb5.size
    have Xl5 := Xl4.below hb5
    have H5_l := (h_l.below hB5).more hB5.size
    clear hb5 Xl4 hB4 H4_l
    obtain ⟨A5, c5, rfl, hc5, _, s5⟩ := ho5.form4
    have CY := hid hc5
    have RY : Hid (∀ k, (Value.slice A5 l.length c5).ownBlock = some k → w4.heap.size ≤ k ∧ k < w5.heap.size) := hid ho5.lt4
    clear hc5 s5
    have Y5 := ho5
    clear ho5
    go_wp2_with fail
    refine (eqIntS_same A3 A5 c3 c5 l _ Xl5.sees4 Y5.sees4 HF_l.out).mono ?_
    rintro e w6 ⟨rfl, hb6⟩
    have hB6 := hB5.trans (hb6.mono hB5.size)
    have Z6 := hid hb6.size
    have Xl6 := Xl5.below hb6
    have Y6 := Y5.below hb6
    have H6_l := (h_l.below hB6).more hB6.size
    clear hb6 Xl5 Y5 hB5 H5_l
    clear Y6 RY CY
    go_wp2
    go_ret
    exact ⟨rfl, hB6⟩
end Go.Proofs.Ythmpeahlddfpnaa

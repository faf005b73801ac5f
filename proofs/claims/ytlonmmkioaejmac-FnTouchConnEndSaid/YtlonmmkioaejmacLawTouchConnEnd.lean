/-
  The walk of the law FnTouchConnEnd: at every code it returns true and changes nothing that was there. Conditions: none.
-/
import Derived.Test.YtlonmmkioaejmacAgGen
import Derived.Test.YtlonmmkioaejmacAgD
import Derived.Test.YtlonmmkioaejmacAgeMathC
import Derived.Test.YtlonmmkioaejmacLawAgE
import Derived.Test.YtlonmmkioaejmacLawFrame
import Derived.BigQuiet
import Derived.Deep.RegionHeldLaw
namespace Go.Proofs.Ytlonmmkioaejmac
open Go.RowKit Age

set_option maxHeartbeats 4000000 in
theorem walkTouchConnEnd (a : Option Addr) (len cap : Nat) (zs : List Int) (w : World) (hn : zs.length = len) (hc : len ≤ cap) (hcc : cap ≤ maxLen) (h : Sees w w.heap.size a (byts zs)) (hz : ∀ y ∈ zs, 0 ≤ y ∧ y ≤ 255) :
    Calls Try.prog 7 #[.slice a len cap] w fun e w' => e = .returned (.bool true) ∧ Below w.heap.size w w' := by
  have HE := hid hn
  have HC := hid hcc
  have HZ := hid hz
  clear hn hcc hz
  by_cases hbig : 1048576 < len
  · go_enter Try.func7, Try.ntmps7
    go_wp2
    go_ret
    exact ⟨rfl, Below.refl _ _⟩
  · go_enter Try.func7, Try.ntmps7
    go_wp2_with fail
    refine (drawTouchConn_any _ _ _ _ _ h HZ.out HE.out hc (by omega) HC.out).mono ?_
    rintro e w1 ⟨A, c, l, q, now, rfl, dl⟩
    obtain ⟨K, hK⟩ : ∃ K, K = touchB l q now := ⟨_, rfl⟩
    have EK : Hid (touchB l q now = K) := hid hK.symm
    obtain ⟨V, hV⟩ : ∃ V, V = touchL l q now := ⟨_, rfl⟩
    have EV : Hid (touchL l q now = V) := hid hV.symm
    have HVn : Hid (V.length ≤ 7) := hid (by rw [hV]; have := touch_len l q now; have := dl.len; omega)
    clear hK hV
    go_wp2_with fail
    refine (iTouchConn_any A c l q now _ dl.sees (dl.n4 (by decide))).mono ?_
    rintro e w2 ⟨v2, he, ho2, hb⟩
    rw [EK.out] at he
    subst he
    rw [EV.out] at ho2
    replace dl := dl.below hb
    clear hb
    obtain ⟨A2, c2, rfl, _, _, _⟩ := ho2.form
    go_wp2_with fail
    refine (sTouchConn_any A c l q now _ dl.sees (dl.n4 (by decide))).mono ?_
    rintro e w3 ⟨v3, he, ho3, hb⟩
    rw [EK.out] at he
    subst he
    rw [EV.out] at ho3
    replace dl := dl.below hb
    replace ho2 := ho2.below hb
    clear hb
    obtain ⟨A3, c3, rfl, _, _, _⟩ := ho3.form
    go_wp2_with fail
    refine (equalAges_same rfl ho2.sees ho3.sees (Nat.le_trans HVn.out (by decide))).mono ?_
    rintro e w4 ⟨rfl, hb⟩
    replace dl := dl.below hb
    replace ho2 := ho2.below hb
    replace ho3 := ho3.below hb
    clear hb
    rcases K with _ | _
    · go_wp2_with fail
      refine (equalAges_same rfl ho2.sees ho3.sees (Nat.le_trans HVn.out (by decide))).mono ?_
      rintro e w5 ⟨rfl, hb⟩
      replace dl := dl.below hb
      go_wp2
      go_ret
      exact ⟨rfl, dl.bel⟩
    · obtain ⟨HA1, HA2, HA3⟩ := touch_again EK.out
      rw [EV.out] at HA1 HA2 HA3
      have EA := hid HA1
      have EL := hid HA2
      have HNE := hid HA3
      clear HA1 HA2 HA3 ho3
      obtain ⟨N1, hN1⟩ : ∃ N1, N1 = Age.next V 100 20 := ⟨_, rfl⟩
      have E1 : Hid (Age.next V 100 20 = N1) := hid hN1.symm
      obtain ⟨N2, hN2⟩ : ∃ N2, N2 = Age.next l 100 20 := ⟨_, rfl⟩
      have E2 : Hid (Age.next l 100 20 = N2) := hid hN2.symm
      rw [← hN1, ← hN2] at HNE
      have hge : N1 ≥ N2 := HNE.out
      clear hN1 hN2
      go_wp2_with fail
      refine (iTouchConn_any A2 c2 V q now _ ho2.sees (Nat.le_trans HVn.out (by decide))).mono ?_
      rintro e w5 ⟨v5, he, ho5, hb⟩
      rw [EA.out] at he
      subst he
      rw [EL.out] at ho5
      replace dl := dl.below hb
      replace ho2 := ho2.below hb
      clear hb
      obtain ⟨A5, c5, rfl, _, _, _⟩ := ho5.form
      go_wp2_with fail
      refine (iNextEnd_any A2 c2 V 100 20 _ ho2.sees (Nat.le_trans HVn.out (by decide))).mono ?_
      rintro e w6 ⟨he, hb⟩
      rw [E1.out] at he
      subst he
      replace dl := dl.below hb
      replace ho2 := ho2.below hb
      replace ho5 := ho5.below hb
      clear hb
      go_wp2_with fail
      refine (iNextEnd_any A c l 100 20 _ dl.sees (dl.n4 (by decide))).mono ?_
      rintro e w7 ⟨he, hb⟩
      rw [E2.out] at he
      subst he
      replace dl := dl.below hb
      replace ho2 := ho2.below hb
      replace ho5 := ho5.below hb
      clear hb
      go_wp2_with fail
      refine (equalAges_same rfl ho5.sees ho2.sees (Nat.le_trans HVn.out (by decide))).mono ?_
      rintro e w8 ⟨rfl, hb⟩
      replace dl := dl.below hb
      go_wp2
      go_ret
      exact ⟨by simp, dl.bel⟩
end Go.Proofs.Ytlonmmkioaejmac

/-
  The walk of the law FnPackLeasesTwice: at every code it returns true and changes nothing that was there. Conditions: none.
-/
import Derived.Test.YtmaocmgnkdieeaaSzL
import Derived.Test.YtmaocmgnkdieeaaLawLs
import Derived.BigQuiet
namespace Go.Proofs.Ytmaocmgnkdieeaa
open Go.RowKit Lse

set_option maxHeartbeats 4000000 in
theorem walkPackLeasesTwice (a : Option Addr) (len cap : Nat) (zs : List Int) (w : World) (hn : zs.length = len) (hc : len ≤ cap) (hcc : cap ≤ maxLen) (h : Sees w w.heap.size a (byts zs)) (hz : ∀ y ∈ zs, 0 ≤ y ∧ y ≤ 255) :
    Calls Try.prog 4 #[.slice a len cap] w fun e w' => e = .returned (.bool true) ∧ Below w.heap.size w w' := by
  have HE := hid hn
  have HC := hid hcc
  have HZ := hid hz
  clear hn hcc hz
  by_cases hbig : 1048576 < len
  · go_enter Try.func4, Try.ntmps4
    go_wp2
    go_ret
    exact ⟨rfl, Below.refl _ _⟩
  · go_enter Try.func4, Try.ntmps4
    go_wp2_with fail
    refine (drawPackLeases_any _ _ _ _ _ h HZ.out HE.out hc (by omega) HC.out).mono ?_
    rintro e w1 ⟨A, c, l, rfl, dl⟩
    have HT := hid (pack_twice (l := l))
    have HPL := hid (packE_len l)
    obtain ⟨K, hK⟩ : ∃ K, K = validB l := ⟨_, rfl⟩
    have EK : Hid (validB l = K) := hid hK.symm
    obtain ⟨V, hV⟩ : ∃ V, V = packE l := ⟨_, rfl⟩
    have EV : Hid (packE l = V) := hid hV.symm
    have HVn : Hid (V.length ≤ 13) := hid (by rw [hV]; have := packE_len l; have := dl.2.2.1; omega)
    rw [← hV] at HT HPL
    clear hK hV
    go_wp2_with fail
    refine (iPackLeases_x A c l _ dl.sees dl.cap dl.n4).mono ?_
    rintro e w2 ⟨vw2, he, how2, hb⟩
    rw [EK.out] at he
    subst he
    rw [EV.out] at how2
    replace dl := dl.below hb
    clear hb
    obtain ⟨A2, c2, rfl, hc2, _, _⟩ := how2.form
    have HC2 := hid hc2
    clear hc2
    go_wp2_with fail
    refine (sPackLeases_x A c l _ dl.sees dl.n4).mono ?_
    rintro e w3 ⟨vw3, he, how3, hb⟩
    rw [EK.out] at he
    subst he
    rw [EV.out] at how3
    replace dl := dl.below hb
    replace how2 := how2.below hb
    clear hb
    obtain ⟨A3, c3, rfl, _, _, _⟩ := how3.form
    go_wp2_with fail
    refine (equalLeases_same rfl how2.sees how3.sees (Nat.le_trans HVn.out (by decide))).mono ?_
    rintro e w4 ⟨rfl, hb⟩
    replace dl := dl.below hb
    replace how2 := how2.below hb
    replace how3 := how3.below hb
    clear hb
    rcases K with _ | _
    · skip
      go_wp2_with fail
      refine (equalLeases_same rfl how2.sees how3.sees (Nat.le_trans HVn.out (by decide))).mono ?_
      rintro e w4 ⟨rfl, hb⟩
      replace dl := dl.below hb
      replace how2 := how2.below hb
      replace how3 := how3.below hb
      clear hb
      go_wp2
      go_ret
      exact ⟨rfl, dl.bel⟩
    · obtain ⟨h1, h2, h3⟩ := HT.out EK.out
      have EV1 := hid h1
      have EV2 := hid h2
      clear h1 h2 h3 how3
      go_wp2_with fail
      refine (iPackLeases_x A2 c2 V _ how2.sees HC2.out (Nat.le_trans HVn.out (by decide))).mono ?_
      rintro e w5 ⟨v5, he, how3, hb⟩
      rw [EV1.out] at he
      subst he
      rw [EV2.out] at how3
      replace dl := dl.below hb
      replace how2 := how2.below hb
      clear hb
      obtain ⟨A5, c5, rfl, _, _, _⟩ := how3.form
      go_wp2_with fail
      refine (equalLeases_same rfl how3.sees how2.sees (Nat.le_trans HVn.out (by decide))).mono ?_
      rintro e w4 ⟨rfl, hb⟩
      replace dl := dl.below hb
      replace how2 := how2.below hb
      replace how3 := how3.below hb
      clear hb
      go_wp2
      go_ret
      exact ⟨rfl, dl.bel⟩
end Go.Proofs.Ytmaocmgnkdieeaa

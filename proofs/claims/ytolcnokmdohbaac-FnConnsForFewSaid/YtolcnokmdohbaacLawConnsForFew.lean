/-
  The walk of the law FnConnsForFew: at every code it returns true and changes nothing that was there. Conditions: none.
-/
import Derived.Test.YtolcnokmdohbaacLawWi
import Derived.Test.YtolcnokmdohbaacLawFrame
import Derived.BigQuiet
namespace Go.Proofs.Ytolcnokmdohbaac
open Go.RowKit Wis

set_option maxHeartbeats 8000000 in
theorem walkConnsForFew (a : Option Addr) (len cap : Nat) (zs : List Int) (w : World) (hn : zs.length = len) (hc : len ≤ cap) (hcc : cap ≤ maxLen) (h : Sees w w.heap.size a (byts zs)) (hz : ∀ y ∈ zs, 0 ≤ y ∧ y ≤ 255) :
    Calls Try.prog 6 #[.slice a len cap] w fun e w' => e = .returned (.bool true) ∧ Below w.heap.size w w' := by
  have HE := hid hn
  have HC := hid hcc
  have HZ := hid hz
  clear hn hcc hz
  by_cases hbig : 1048576 < len
  · go_enter Try.func6, Try.ntmps6
    go_wp2
    go_ret
    exact ⟨rfl, Below.refl _ _⟩
  · go_enter Try.func6, Try.ntmps6
    go_wp2_with fail
    refine (drawConnsFor_any _ _ _ _ _ h HZ.out HE.out hc (by omega) HC.out).mono ?_
    rintro e w1 ⟨A, c, l, rfl, dl⟩
    have hl13 := dl.len
    obtain ⟨V, hV⟩ : ∃ V, V = connsFor l := ⟨_, rfl⟩
    have E : Hid (connsFor l = V) := hid hV.symm
    rcases hw : wishB l with _ | _
    · skip
      have HW := hid hw
      clear hw hV
      go_wp2_with fail
      refine (iConnsFor_any A c l _ dl.sees dl.n4').mono ?_
      rintro e w2 ⟨he, hb⟩
      rw [E.out] at he
      subst he
      replace dl := dl.below hb
      clear hb
      go_wp2_with fail
      refine (sConnsFor_any A c l _ dl.sees dl.n4').mono ?_
      rintro e w2 ⟨he, hb⟩
      rw [E.out] at he
      subst he
      replace dl := dl.below hb
      clear hb
      go_wp2_with fail
      refine (iValidWishes_any A c l _ dl.sees dl.n4').mono ?_
      rintro e w2 ⟨he, hb⟩
      rw [HW.out] at he
      subst he
      replace dl := dl.below hb
      clear hb
      go_wp2_with fail
      refine (sConnsFor_any A c l _ dl.sees dl.n4').mono ?_
      rintro e w2 ⟨he, hb⟩
      rw [E.out] at he
      subst he
      replace dl := dl.below hb
      clear hb
      go_wp2
      go_ret
      exact ⟨by simp, dl.bel⟩
    · skip
      have HW := hid hw
      have HF := hid (fun h1 h6 => conns_few (l := l) HW.out h1 h6)
      rw [← hV] at HF
      clear hw hV
      go_wp2_with fail
      refine (iConnsFor_any A c l _ dl.sees dl.n4').mono ?_
      rintro e w2 ⟨he, hb⟩
      rw [E.out] at he
      subst he
      replace dl := dl.below hb
      clear hb
      go_wp2_with fail
      refine (sConnsFor_any A c l _ dl.sees dl.n4').mono ?_
      rintro e w2 ⟨he, hb⟩
      rw [E.out] at he
      subst he
      replace dl := dl.below hb
      clear hb
      go_wp2_with fail
      refine (iValidWishes_any A c l _ dl.sees dl.n4').mono ?_
      rintro e w2 ⟨he, hb⟩
      rw [HW.out] at he
      subst he
      replace dl := dl.below hb
      clear hb
      by_cases hl0 : l.length = 0
      · skip
        have hlb : ((l.length : Int) == 0) = true := by simpa using hl0
        have HL0 := hid hl0
        clear hl0
        go_wp2_with fail
        refine (sConnsFor_any A c l _ dl.sees dl.n4').mono ?_
        rintro e w2 ⟨he, hb⟩
        rw [E.out] at he
        subst he
        replace dl := dl.below hb
        clear hb
        go_wp2
        go_ret
        exact ⟨by simp, dl.bel⟩
      · skip
        have hlb : ((l.length : Int) == 0) = false := beq_eq_false_iff_ne.2 (by omega)
        by_cases hl6 : 6 < l.length
        · skip
          have hl6i : (l.length : Int) > 6 := by omega
          go_wp2_with fail
          refine (sConnsFor_any A c l _ dl.sees dl.n4').mono ?_
          rintro e w2 ⟨he, hb⟩
          rw [E.out] at he
          subst he
          replace dl := dl.below hb
          clear hb
          go_wp2
          go_ret
          exact ⟨by simp, dl.bel⟩
        · skip
          have hl6i : ¬ (l.length : Int) > 6 := by omega
          obtain ⟨hv1, hv2⟩ := HF.out (by omega) (by omega)
          go_wp2
          go_ret
          exact ⟨by simp, dl.bel⟩
end Go.Proofs.Ytolcnokmdohbaac

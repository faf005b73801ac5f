/-
  The walk of the law FnConnsFor: at every code it returns true and changes nothing that was there. Conditions: none.
-/
import Derived.Test.YtolcnokmdohbaacLawWi
import Derived.Test.YtolcnokmdohbaacLawFrame
import Derived.BigQuiet
namespace Go.Proofs.Ytolcnokmdohbaac
open Go.RowKit Wis

set_option maxHeartbeats 8000000 in
theorem walkConnsFor (a : Option Addr) (len cap : Nat) (zs : List Int) (w : World) (hn : zs.length = len) (hc : len ≤ cap) (hcc : cap ≤ maxLen) (h : Sees w w.heap.size a (byts zs)) (hz : ∀ y ∈ zs, 0 ≤ y ∧ y ≤ 255) :
    Calls Try.prog 5 #[.slice a len cap] w fun e w' => e = .returned (.bool true) ∧ Below w.heap.size w w' := by
  have HE := hid hn
  have HC := hid hcc
  have HZ := hid hz
  clear hn hcc hz
  by_cases hbig : 1048576 < len
  · go_enter Try.func5, Try.ntmps5
    go_wp2
    go_ret
    exact ⟨rfl, Below.refl _ _⟩
  · go_enter Try.func5, Try.ntmps5
    go_wp2_with fail
    refine (drawConnsFor_any _ _ _ _ _ h HZ.out HE.out hc (by omega) HC.out).mono ?_
    rintro e w1 ⟨A, c, l, rfl, dl⟩
    have hl13 := dl.len
    have hcase : connsFor l = -1 ∨ (wishB l = true ∧ ∃ j : Nat, 1 ≤ j ∧ j ≤ 6 ∧ connsFor l = j ∧ countS l j = l.length ∧ ∀ i : Nat, 1 ≤ i → i < j → countS l i < l.length) := by
      rcases hw : wishB l with _ | _
      · exact .inl (conns_no hw)
      · rcases conns_cases hw with ⟨e, _⟩ | hh
        · exact .inl e
        · exact .inr ⟨rfl, hh⟩
    rcases hcase with E0 | ⟨hw, j, j1, j6, E0, ec, ei⟩
    · skip
      have E := hid E0
      clear E0
      go_wp2_with fail
      refine (iConnsFor_any A c l _ dl.sees dl.n4').mono ?_
      rintro e w2 ⟨he, hb⟩
      rw [E.out] at he
      subst he
      replace dl := dl.below hb
      clear hb
      go_wp2_with fail
      refine (sConnsFor_any A c l _ dl.sees dl.n4').mono ?_
      rintro e w2 ⟨he, hb⟩
      rw [E.out] at he
      subst he
      replace dl := dl.below hb
      clear hb
      go_wp2_with fail
      refine (sConnsFor_any A c l _ dl.sees dl.n4').mono ?_
      rintro e w2 ⟨he, hb⟩
      rw [E.out] at he
      subst he
      replace dl := dl.below hb
      clear hb
      go_wp2
      go_ret
      exact ⟨by simp, dl.bel⟩
    · skip
      have E := hid E0
      have EC := hid ec
      have hj1 : ¬ (j : Int) < 1 := by omega
      have HCB := hid (fun hj : 1 < j => count_bd (l := l) (m := ((j : Int) - 1)) (serveB_iff.2 ⟨hw, by omega, by omega⟩))
      clear E0 ec
      go_wp2_with fail
      refine (iConnsFor_any A c l _ dl.sees dl.n4').mono ?_
      rintro e w2 ⟨he, hb⟩
      rw [E.out] at he
      subst he
      replace dl := dl.below hb
      clear hb
      go_wp2_with fail
      refine (sConnsFor_any A c l _ dl.sees dl.n4').mono ?_
      rintro e w2 ⟨he, hb⟩
      rw [E.out] at he
      subst he
      replace dl := dl.below hb
      clear hb
      go_wp2_with fail
      refine (iCountServed_any A c l j _ dl.sees dl.n4').mono ?_
      rintro e w2 ⟨he, hb⟩
      rw [EC.out] at he
      subst he
      replace dl := dl.below hb
      clear hb
      by_cases hj : j = 1
      · skip
        have hjb : ((j : Int) == 1) = true := by simp [hj]
        have HJ := hid hj
        clear hj
        go_wp2
        go_ret
        exact ⟨by simp, dl.bel⟩
      · skip
        have hjb : ((j : Int) == 1) = false := beq_eq_false_iff_ne.2 (by omega)
        have q1 : IntKind.i64.wrap ((j : Int) - 1) = (j : Int) - 1 := by rw [IntKind.wrap_i64]; omega
        obtain ⟨V, hV⟩ : ∃ V, V = countS l ((j : Int) - 1) := ⟨_, rfl⟩
        have EV : Hid (countS l ((j : Int) - 1) = V) := hid hV.symm
        have hlt : V < (l.length : Int) := by rw [hV]; have := ei (j - 1) (by omega) (by omega); rwa [show ((j - 1 : Nat) : Int) = (j : Int) - 1 by omega] at this
        clear hV
        go_wp2_with fail
        refine (iCountServed_any A c l ((j : Int) - 1) _ dl.sees dl.n4').mono ?_
        rintro e w2 ⟨he, hb⟩
        rw [EV.out] at he
        subst he
        replace dl := dl.below hb
        clear hb
        go_wp2
        go_ret
        exact ⟨by simp, dl.bel⟩
end Go.Proofs.Ytolcnokmdohbaac

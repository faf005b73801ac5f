/-
  The walk of the law FnMostLeasedMore: at every code it returns true and changes nothing that was there. Conditions: none.
-/
import Derived.Test.YtnkdhkhgfgcloaaSzG
import Derived.BigQuiet
namespace Go.Proofs.Ytnkdhkhgfgcloaa
open Go.RowKit Lse

set_option maxHeartbeats 4000000 in
theorem walkMostLeasedMore (a : Option Addr) (len cap : Nat) (zs : List Int) (w : World) (hn : zs.length = len) (hc : len ≤ cap) (hcc : cap ≤ maxLen) (h : Sees w w.heap.size a (byts zs)) (hz : ∀ y ∈ zs, 0 ≤ y ∧ y ≤ 255) :
    Calls Try.prog 6 #[.slice a len cap] w fun e w' => e = .returned (.bool true) ∧ Below w.heap.size w w' := by
  have HE := hid hn
  have HC := hid hcc
  have HZ := hid hz
  clear hn hcc hz
  by_cases hbig : 1048576 < len
  · go_enter Try.func6, Try.ntmps6
    go_wp2
    go_ret
    exact ⟨rfl, Below.refl _ _⟩
  · go_enter Try.func6, Try.ntmps6
    go_wp2_with fail
    refine (drawMostLeased_any _ _ _ _ _ h HZ.out HE.out hc (by omega) HC.out).mono ?_
    rintro e w1 ⟨A, c, l, rfl, dl⟩
    have hl13 := dl.2.2.1
    have HT := hid (mostOf_last (l := l))
    obtain ⟨V, hV⟩ : ∃ V, V = mostOf l := ⟨_, rfl⟩
    have E : Hid (mostOf l = V) := hid hV.symm
    rw [← hV] at HT
    have HVM : Hid (V ≤ 1000) := hid (by rw [hV]; have := most_le l; unfold mostOf; split <;> omega)
    clear hV
    go_wp2_with fail
    refine (iMostLeased_any A c l _ dl.sees dl.cap dl.n4).mono ?_
    rintro e w2 ⟨he, hb⟩
    rw [E.out] at he
    subst he
    replace dl := dl.below hb
    clear hb
    go_wp2_with fail
    refine (sMostLeased_any A c l _ dl.sees dl.n4).mono ?_
    rintro e w2 ⟨he, hb⟩
    rw [E.out] at he
    subst he
    replace dl := dl.below hb
    clear hb
    by_cases hv0 : V < 1
    · skip
      go_wp2_with fail
      refine (sMostLeased_any A c l _ dl.sees dl.n4).mono ?_
      rintro e w2 ⟨he, hb⟩
      rw [E.out] at he
      subst he
      replace dl := dl.below hb
      clear hb
      go_wp2
      go_ret
      exact ⟨by simp, dl.bel⟩
    · obtain ⟨m, hm, hor⟩ := HT.out (by omega)
      have HTK : Hid (mostOf (l.take m) = V ∨ mostOf (l.take m) = V - 1) := hid hor
      have hcap := dl.cap
      have q1 : (0 : Int) ≤ (m : Int) := by omega
      have q2c : (m : Int) ≤ (c : Int) := by omega
      have q3 : IntKind.i64.wrap ((l.length : Int) - 1) = (m : Int) := by rw [IntKind.wrap_i64]; omega
      have hm13 : m ≤ 13 := by omega
      have HML := hid (show (l.take m).length = m by rw [List.length_take]; omega)
      obtain ⟨V2, hV2⟩ : ∃ V, V = mostOf (l.take m) := ⟨_, rfl⟩
      have E2 : Hid (mostOf (l.take m) = V2) := hid hV2.symm
      rw [← hV2] at HTK
      clear hV2 HT hor hm
      go_wp2_with fail
      refine (iMostLeased_len HML.out (dl.sees.leases_take m) (by have := HML.out; omega) (by have := HML.out; omega)).mono ?_
      rintro e w2 ⟨he, hb⟩
      rw [E2.out] at he
      subst he
      replace dl := dl.below hb
      clear hb
      have hVm : V ≤ 1000 := HVM.out
      have hw : IntKind.i64.wrap (V - 1) = V - 1 := by rw [IntKind.wrap_i64]; omega
      rcases HTK.out with e | e
      · subst e
        go_wp2
        go_ret
        exact ⟨by simp, dl.bel⟩
      · have hne : (V2 == V) = false := beq_eq_false_iff_ne.2 (by omega)
        have hee : (V2 == V - 1) = true := beq_iff_eq.2 e
        clear e
        go_wp2
        go_ret
        exact ⟨by simp, dl.bel⟩
end Go.Proofs.Ytnkdhkhgfgcloaa

/-
  The walk of the law FnConnsForShort: at every code it returns true and changes nothing that was there. Conditions: none.
-/
import Derived.Test.YtolcnokmdohbaacLawWi
import Derived.Test.YtolcnokmdohbaacLawFrame
import Derived.BigQuiet
namespace Go.Proofs.Ytolcnokmdohbaac
open Go.RowKit Wis

set_option maxHeartbeats 8000000 in
theorem walkConnsForShort (a : Option Addr) (len cap : Nat) (zs : List Int) (w : World) (hn : zs.length = len) (hc : len ≤ cap) (hcc : cap ≤ maxLen) (h : Sees w w.heap.size a (byts zs)) (hz : ∀ y ∈ zs, 0 ≤ y ∧ y ≤ 255) :
    Calls Try.prog 7 #[.slice a len cap] w fun e w' => e = .returned (.bool true) ∧ Below w.heap.size w w' := by
  have HE := hid hn
  have HC := hid hcc
  have HZ := hid hz
  clear hn hcc hz
  by_cases hbig : 1048576 < len
  · go_enter Try.func7, Try.ntmps7
    go_wp2
    go_ret
    exact ⟨rfl, Below.refl _ _⟩
  · go_enter Try.func7, Try.ntmps7
    go_wp2_with fail
    refine (drawConnsFor_any _ _ _ _ _ h HZ.out HE.out hc (by omega) HC.out).mono ?_
    rintro e w1 ⟨A, c, l, rfl, dl⟩
    have hl13 := dl.len
    obtain ⟨V, hV⟩ : ∃ V, V = connsFor l := ⟨_, rfl⟩
    have E : Hid (connsFor l = V) := hid hV.symm
    have HN := hid conns_nil
    have HT := hid (fun hh => conns_take (l := l) hh (l.length - 1))
    rw [← hV] at HT
    clear hV
    go_wp2_with fail
    refine (iConnsFor_any A c l _ dl.sees dl.n4').mono ?_
    rintro e w2 ⟨he, hb⟩
    rw [E.out] at he
    subst he
    replace dl := dl.below hb
    clear hb
    go_wp2_with fail
    refine (sConnsFor_any A c l _ dl.sees dl.n4').mono ?_
    rintro e w2 ⟨he, hb⟩
    rw [E.out] at he
    subst he
    replace dl := dl.below hb
    clear hb
    by_cases hv1 : V < 1
    · skip
      go_wp2_with fail
      refine (sConnsFor_any A c l _ dl.sees dl.n4').mono ?_
      rintro e w2 ⟨he, hb⟩
      rw [E.out] at he
      subst he
      replace dl := dl.below hb
      clear hb
      go_wp2
      go_ret
      exact ⟨by simp, dl.bel⟩
    · skip
      by_cases hl0 : l.length = 0
      · skip
        have hlb : ((l.length : Int) == 0) = true := by simpa using hl0
        have HL0 := hid hl0
        clear hl0
        go_wp2_with fail
        refine (sConnsFor_any A c l _ dl.sees dl.n4').mono ?_
        rintro e w2 ⟨he, hb⟩
        rw [E.out] at he
        subst he
        replace dl := dl.below hb
        clear hb
        go_wp2
        go_ret
        exact ⟨by simp, dl.bel⟩
      · skip
        have hlb : ((l.length : Int) == 0) = false := beq_eq_false_iff_ne.2 (by omega)
        have hcap := dl.cap
        have q1 : (0 : Int) ≤ (l.length : Int) - 1 := by omega
        have q2 : (l.length : Int) - 1 ≤ (l.length : Int) := by omega
        have q2c : (l.length : Int) - 1 ≤ (c : Int) := by omega
        have q3 : IntKind.i64.wrap ((l.length : Int) - 1) = (l.length : Int) - 1 := by rw [IntKind.wrap_i64]; omega
        have q4 : ((l.length : Int) - 1).toNat = l.length - 1 := by omega
        obtain ⟨V2, hV2⟩ : ∃ V2, V2 = connsFor (l.take (l.length - 1)) := ⟨_, rfl⟩
        have E2 : Hid (connsFor (l.take (l.length - 1)) = V2) := hid hV2.symm
        obtain ⟨t1, t2⟩ := HT.out (by omega)
        rw [← hV2] at t1 t2
        clear hV2 HT
        go_wp2_with fail
        refine (iConnsFor_len (l := l.take (l.length - 1)) (by rw [List.length_take]; omega) (wcells_take dl.sees _) (by rw [List.length_take]; omega)).mono ?_
        rintro e w2 ⟨he, hb⟩
        rw [E2.out] at he
        subst he
        replace dl := dl.below hb
        clear hb
        go_wp2_with fail
        refine (iConnsFor_len (l := []) rfl Sees.nil (by simp)).mono ?_
        rintro e w2 ⟨he, hb⟩
        rw [HN.out] at he
        subst he
        replace dl := dl.below hb
        clear hb
        go_wp2
        go_ret
        exact ⟨by simp, dl.bel⟩
end Go.Proofs.Ytolcnokmdohbaac

/-
  The walk of the law FnLongestWaitShort: at every code it returns true and changes nothing that was there. Conditions: none.
-/
import Derived.Test.YtolcnokmdohbaacLawWi
import Derived.Test.YtolcnokmdohbaacLawFrame
import Derived.BigQuiet
namespace Go.Proofs.Ytolcnokmdohbaac
open Go.RowKit Wis

set_option maxHeartbeats 8000000 in
theorem walkLongestWaitShort (a : Option Addr) (len cap : Nat) (zs : List Int) (w : World) (hn : zs.length = len) (hc : len ≤ cap) (hcc : cap ≤ maxLen) (h : Sees w w.heap.size a (byts zs)) (hz : ∀ y ∈ zs, 0 ≤ y ∧ y ≤ 255) :
    Calls Try.prog 4 #[.slice a len cap] w fun e w' => e = .returned (.bool true) ∧ Below w.heap.size w w' := by
  have HE := hid hn
  have HC := hid hcc
  have HZ := hid hz
  clear hn hcc hz
  by_cases hbig : 1048576 < len
  · go_enter Try.func4, Try.ntmps4
    go_wp2
    go_ret
    exact ⟨rfl, Below.refl _ _⟩
  · go_enter Try.func4, Try.ntmps4
    go_wp2_with fail
    refine (drawLongestWait_any _ _ _ _ _ h HZ.out HE.out hc (by omega) HC.out).mono ?_
    rintro e w1 ⟨A, c, l, m, rfl, dl, hm0, hm7⟩
    have hl13 := dl.len
    rcases hs : serveB l m with _ | _
    · skip
      have E := hid (long_no hs)
      go_wp2_with fail
      refine (iLongestWait_any A c l m _ dl.sees dl.n4').mono ?_
      rintro e w2 ⟨he, hb⟩
      rw [E.out] at he
      subst he
      replace dl := dl.below hb
      clear hb
      go_wp2_with fail
      refine (sLongestWait_any A c l m _ dl.sees dl.n4').mono ?_
      rintro e w2 ⟨he, hb⟩
      rw [E.out] at he
      subst he
      replace dl := dl.below hb
      clear hb
      go_wp2_with fail
      refine (sLongestWait_any A c l m _ dl.sees dl.n4').mono ?_
      rintro e w2 ⟨he, hb⟩
      rw [E.out] at he
      subst he
      replace dl := dl.below hb
      clear hb
      go_wp2
      go_ret
      exact ⟨by simp, dl.bel⟩
    · skip
      have hp := long_patient hs
      have HT := hid (long_take hs (l.length - 1))
      have H1 := hid (long_one hs)
      obtain ⟨V, hV⟩ : ∃ V, V = longest l m := ⟨_, rfl⟩
      have E : Hid (longest l m = V) := hid hV.symm
      rw [← hV] at hp HT
      obtain ⟨hp0, _, hp1⟩ := hp
      have hv0 : ¬ V < 0 := by omega
      clear hV hs
      go_wp2_with fail
      refine (iLongestWait_any A c l m _ dl.sees dl.n4').mono ?_
      rintro e w2 ⟨he, hb⟩
      rw [E.out] at he
      subst he
      replace dl := dl.below hb
      clear hb
      go_wp2_with fail
      refine (sLongestWait_any A c l m _ dl.sees dl.n4').mono ?_
      rintro e w2 ⟨he, hb⟩
      rw [E.out] at he
      subst he
      replace dl := dl.below hb
      clear hb
      by_cases hl0 : l.length = 0
      · skip
        have hlb : ((l.length : Int) == 0) = true := by simpa using hl0
        have HL0 := hid hl0
        clear hl0
        go_wp2_with fail
        refine (sLongestWait_any A c l m _ dl.sees dl.n4').mono ?_
        rintro e w2 ⟨he, hb⟩
        rw [E.out] at he
        subst he
        replace dl := dl.below hb
        clear hb
        go_wp2
        go_ret
        exact ⟨by simp, dl.bel⟩
      · skip
        have hlb : ((l.length : Int) == 0) = false := beq_eq_false_iff_ne.2 (by omega)
        have hcap := dl.cap
        have q1 : (0 : Int) ≤ (l.length : Int) - 1 := by omega
        have q2 : (l.length : Int) - 1 ≤ (l.length : Int) := by omega
        have q2c : (l.length : Int) - 1 ≤ (c : Int) := by omega
        have q3 : IntKind.i64.wrap ((l.length : Int) - 1) = (l.length : Int) - 1 := by rw [IntKind.wrap_i64]; omega
        have q4 : ((l.length : Int) - 1).toNat = l.length - 1 := by omega
        have q5 : (1 : Int) ≤ (c : Int) := by omega
        have q6 : (1 : Int) ≤ (l.length : Int) := by omega
        obtain ⟨V2, hV2⟩ : ∃ V2, V2 = longest (l.take (l.length - 1)) m := ⟨_, rfl⟩
        have E2 : Hid (longest (l.take (l.length - 1)) m = V2) := hid hV2.symm
        have hle : V2 ≤ V := by have := HT.out; omega
        clear hV2 HT
        go_wp2_with fail
        refine (iLongestWait_len (l := l.take (l.length - 1)) (by rw [List.length_take]; omega) (wcells_take dl.sees _) (by rw [List.length_take]; omega)).mono ?_
        rintro e w2 ⟨he, hb⟩
        rw [E2.out] at he
        subst he
        replace dl := dl.below hb
        clear hb
        go_wp2_with fail
        refine (iLongestWait_len (l := l.take 1) (by rw [List.length_take]; omega) (wcells_take dl.sees _) (by rw [List.length_take]; omega)).mono ?_
        rintro e w2 ⟨he, hb⟩
        rw [H1.out] at he
        subst he
        replace dl := dl.below hb
        clear hb
        go_wp2
        go_ret
        exact ⟨by simp, dl.bel⟩
end Go.Proofs.Ytolcnokmdohbaac

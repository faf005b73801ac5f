/-
  The walk of the law FnLastRunParts: at every code it returns true and changes nothing that was there. Conditions: none.
-/
import Derived.Test.YthghmpcfiakjgabChkGen
import Derived.Test.YthghmpcfiakjgabChkD
import Derived.Test.YthghmpcfiakjgabLawFrame
import Derived.Test.YthghmpcfiakjgabChkLawMath
namespace Go.Proofs.Ythghmpcfiakjgab
open Go.RowKit Chk

set_option maxHeartbeats 4000000 in
theorem walkLastRunParts (a : Option Addr) (len cap : Nat) (zs : List Int) (w : World) (hn : zs.length = len) (hc : len ≤ cap) (hcc : cap ≤ maxLen) (h : Sees w w.heap.size a (byts zs)) (hz : ∀ y ∈ zs, 0 ≤ y ∧ y ≤ 255) :
    Calls Try.prog 4 #[.slice a len cap] w fun e w' => e = .returned (.bool true) ∧ Below w.heap.size w w' := by
  have HE := hid hn
  have HC := hid hcc
  have HZ := hid hz
  clear hn hcc hz
  by_cases hbig : 1048576 < len
  · go_enter Try.func4, Try.ntmps4
    go_wp2
    go_ret
    exact ⟨rfl, Below.refl _ _⟩
  · go_enter Try.func4, Try.ntmps4
    go_wp2_with fail
    refine (drawLastRun_any _ _ _ _ _ h HZ.out HE.out hc (by omega) HC.out).mono ?_
    rintro e w1 ⟨A, c, l, rfl, dl⟩
    clear h hbig
    have HCAP := hid dl.cap
    have HLEN := hid dl.len
    obtain ⟨V, hV⟩ : ∃ V, V = lastRun l := ⟨_, rfl⟩
    have HV : Hid (lastRun l = V) := hid hV.symm
    have hcs := last_cases l
    rw [← hV] at hcs
    clear hV
    go_wp2_with fail
    refine (iLastRun_any A _ c l _ rfl dl.sees dl.n4).mono ?_
    rintro e w' ⟨he, rfl⟩
    rw [HV.out] at he
    subst he
    go_wp2_with fail
    refine (sLastRun_any A _ c l _ rfl dl.sees).mono ?_
    rintro e w2 ⟨he, hb⟩
    rw [HV.out] at he
    subst he
    replace dl := dl.below hb
    clear hb
    by_cases h1 : V < 1
    · skip
      go_wp2_with fail
      refine (sLastRun_any A _ c l _ rfl dl.sees).mono ?_
      rintro e w2 ⟨he, hb⟩
      rw [HV.out] at he
      subst he
      replace dl := dl.below hb
      clear hb
      go_wp2
      go_ret
      exact ⟨by first | rfl | (simp; done) | (simp; omega), dl.bel⟩
    · skip
      obtain ⟨h12, rfl, hr⟩ := hcs (by omega)
      have hq := run_parts (l := l)
      obtain ⟨m, hm⟩ : ∃ m, m = l.length - run l := ⟨_, rfl⟩
      rw [← hm] at hq
      have hwm : IntKind.i64.wrap ((l.length : Int) - (run l : Int)) = (m : Int) := by rw [IntKind.wrap_i64]; omega
      obtain ⟨n, hn⟩ : ∃ n, n = run l := ⟨_, rfl⟩
      rw [← hn] at hr HV hwm hm h1 hq ⊢
      clear hn
      have hcap := HCAP.out
      obtain ⟨b, o, rfl, _, _⟩ := dl.sees.boo (show 0 < l.length by omega)
      have hd := dl.sees.bdrop (k := m) rfl
      have hdl : (l.drop m).length = l.length - m := by simp
      have hnl : n ≤ l.length := by omega
      have HD := hid (show lastRun (l.drop m) = n by unfold lastRun; rw [if_pos (by rw [hdl]; omega), hq])
      have k1 : (m : Int) ≤ (l.length : Int) := by omega
      have k2 : (l.length : Int) ≤ (c : Int) := by omega
      have k3 : ¬ c = m := by omega
      have k4 : ¬ (c : Int) = (m : Int) := by omega
      have k5 : (0 : Int) ≤ (m : Int) := by omega
      have HDL := hid hdl
      clear hq hdl hm hcs
      go_wp2_with fail
      refine (iLastRun_any (some ⟨b, o + m, none⟩) _ _ (l.drop m) _ (by rw [HDL.out]) hd (by rw [HDL.out]; omega)).mono ?_
      rintro e w' ⟨he, rfl⟩
      rw [HD.out] at he
      subst he
      have k6 : (n : Int) ≤ (l.length : Int) := by omega
      go_wp2
      go_ret
      exact ⟨by first | rfl | (simp; done) | (simp; omega), dl.bel⟩
end Go.Proofs.Ythghmpcfiakjgab

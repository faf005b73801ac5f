/-
  The walk of the law FnValidHosts: at every code it returns true and changes nothing that was there. Conditions: none.
-/
import Derived.Test.YtbgpdpmijlhkkaaLawHo
import Derived.Test.YtbgpdpmijlhkkaaLawFrame
import Derived.BigQuiet
namespace Go.Proofs.Ytbgpdpmijlhkkaa
open Go.RowKit Hos

set_option maxHeartbeats 8000000 in
theorem walkValidHosts (a : Option Addr) (len cap : Nat) (zs : List Int) (w : World) (hn : zs.length = len) (hc : len ≤ cap) (hcc : cap ≤ maxLen) (h : Sees w w.heap.size a (byts zs)) (hz : ∀ y ∈ zs, 0 ≤ y ∧ y ≤ 255) :
    Calls Try.prog 8 #[.slice a len cap] w fun e w' => e = .returned (.bool true) ∧ Below w.heap.size w w' := by
  have HE := hid hn
  have HC := hid hcc
  have HZ := hid hz
  clear hn hcc hz
  by_cases hbig : 1048576 < len
  · go_enter Try.func8, Try.ntmps8
    go_wp2
    go_ret
    exact ⟨rfl, Below.refl _ _⟩
  · go_enter Try.func8, Try.ntmps8
    go_wp2_with fail
    refine (drawValidHosts_any _ _ _ _ _ h HZ.out HE.out hc (by omega) HC.out).mono ?_
    rintro e w1 ⟨A, c, l, rfl, dl⟩
    have hl6 := dl.len
    rcases hv : hostsB l with _ | _
    · skip
      have E := hid hv
      clear hv
      go_wp2_with fail
      refine (iValidHosts_any A c l _ dl.sees dl.n6).mono ?_
      rintro e w2 ⟨he, hb⟩
      rw [E.out] at he
      subst he
      replace dl := dl.below hb
      clear hb
      go_wp2_with fail
      refine (sValidHosts_any A c l _ dl.sees dl.n6).mono ?_
      rintro e w2 ⟨he, hb⟩
      rw [E.out] at he
      subst he
      replace dl := dl.below hb
      clear hb
      go_wp2_with fail
      refine (sValidHosts_any A c l _ dl.sees dl.n6).mono ?_
      rintro e w2 ⟨he, hb⟩
      rw [E.out] at he
      subst he
      replace dl := dl.below hb
      clear hb
      go_wp2
      go_ret
      exact ⟨by simp, dl.bel⟩
    · skip
      have HT := hid (fun n hn => hosts_take (n := n) hv hn)
      have hf := hid (hosts_first hv)
      have hl1 := (hosts_len hv).1
      have E := hid hv
      clear hv
      go_wp2_with fail
      refine (iValidHosts_any A c l _ dl.sees dl.n6).mono ?_
      rintro e w2 ⟨he, hb⟩
      rw [E.out] at he
      subst he
      replace dl := dl.below hb
      clear hb
      go_wp2_with fail
      refine (sValidHosts_any A c l _ dl.sees dl.n6).mono ?_
      rintro e w2 ⟨he, hb⟩
      rw [E.out] at he
      subst he
      replace dl := dl.below hb
      clear hb
      by_cases hl2 : l.length < 2
      · skip
        have hli : (l.length : Int) < 2 := by omega
        go_wp2_with fail
        refine (sValidHosts_any A c l _ dl.sees dl.n6).mono ?_
        rintro e w2 ⟨he, hb⟩
        rw [E.out] at he
        subst he
        replace dl := dl.below hb
        clear hb
        go_wp2
        go_ret
        exact ⟨by simp, dl.bel⟩
      · skip
        have hli : ¬ (l.length : Int) < 2 := by omega
        obtain ⟨n, hn⟩ : ∃ n, l.length = n + 1 := ⟨l.length - 1, by omega⟩
        have hcap := dl.cap
        have q1 : (0 : Int) ≤ (n : Int) := by omega
        have q2 : (n : Int) ≤ (l.length : Int) := by omega
        have q2c : (n : Int) ≤ (c : Int) := by omega
        have q3 : IntKind.i64.wrap ((l.length : Int) - 1) = (n : Int) := by rw [IntKind.wrap_i64]; omega
        have q5 : (1 : Int) ≤ (c : Int) := by omega
        have q6 : (1 : Int) ≤ (l.length : Int) := by omega
        have q7 : n ≤ 6 := by omega
        have q8 : n ≤ c := by omega
        have HL := hid (show (l.take n).length = n by rw [List.length_take]; omega)
        have HL1 := hid (show (l.take 1).length = 1 by rw [List.length_take]; omega)
        have E2 := hid (HT.out n (by omega))
        have E3 := hid (HT.out 1 (by omega))
        have hl0 : 0 < l.length := by omega
        have HF := hid (hf.out hl0)
        clear hf HT hn
        go_wp2_with fail
        refine (iValidHosts_len (l := l.take n) HL.out (hcl_take dl.sees _) (by rw [HL.out]; omega)).mono ?_
        rintro e w2 ⟨he, hb⟩
        rw [E2.out] at he
        subst he
        replace dl := dl.below hb
        clear hb
        go_wp2_with fail
        refine (iValidHosts_len (l := l.take 1) HL1.out (hcl_take dl.sees _) (by rw [HL1.out]; decide)).mono ?_
        rintro e w2 ⟨he, hb⟩
        rw [E3.out] at he
        subst he
        replace dl := dl.below hb
        clear hb
        obtain ⟨b, o, rfl, hbl, e0, e1, e2⟩ := dl.sees.host hl0
        simp only [Nat.zero_mul, Nat.add_zero] at e0 e1 e2
        rw [HF.out] at e1
        have hli0 : (0 : Int) < (l.length : Int) := by omega
        go_wp2
        go_ret
        exact ⟨by simp, dl.bel⟩
end Go.Proofs.Ytbgpdpmijlhkkaa

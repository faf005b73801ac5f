/-
  The walk of the law FnCountServed: at every code it returns true and changes nothing that was there. Conditions: none.
-/
import Derived.Test.YtolcnokmdohbaabLawWi
import Derived.Test.YtolcnokmdohbaabLawFrame
import Derived.BigQuiet
namespace Go.Proofs.Ytolcnokmdohbaab
open Go.RowKit Wis

set_option maxHeartbeats 8000000 in
theorem walkCountServed (a : Option Addr) (len cap : Nat) (zs : List Int) (w : World) (hn : zs.length = len) (hc : len ≤ cap) (hcc : cap ≤ maxLen) (h : Sees w w.heap.size a (byts zs)) (hz : ∀ y ∈ zs, 0 ≤ y ∧ y ≤ 255) :
    Calls Try.prog 6 #[.slice a len cap] w fun e w' => e = .returned (.bool true) ∧ Below w.heap.size w w' := by
  have HE := hid hn
  have HC := hid hcc
  have HZ := hid hz
  clear hn hcc hz
  by_cases hbig : 1048576 < len
  · go_enter Try.func6, Try.ntmps6
    go_wp2
    go_ret
    exact ⟨rfl, Below.refl _ _⟩
  · go_enter Try.func6, Try.ntmps6
    go_wp2_with fail
    refine (drawCountServed_any _ _ _ _ _ h HZ.out HE.out hc (by omega) HC.out).mono ?_
    rintro e w1 ⟨A, c, l, m, rfl, dl, hm0, hm7⟩
    have hl13 := dl.len
    rcases hs : serveB l m with _ | _
    · skip
      have E := hid (count_no hs)
      go_wp2_with fail
      refine (iCountServed_any A c l m _ dl.sees dl.n4').mono ?_
      rintro e w2 ⟨he, hb⟩
      rw [E.out] at he
      subst he
      replace dl := dl.below hb
      clear hb
      go_wp2_with fail
      refine (sCountServed_any A c l m _ dl.sees dl.n4').mono ?_
      rintro e w2 ⟨he, hb⟩
      rw [E.out] at he
      subst he
      replace dl := dl.below hb
      clear hb
      go_wp2_with fail
      refine (sCountServed_any A c l m _ dl.sees dl.n4').mono ?_
      rintro e w2 ⟨he, hb⟩
      rw [E.out] at he
      subst he
      replace dl := dl.below hb
      clear hb
      go_wp2
      go_ret
      exact ⟨by simp, dl.bel⟩
    · skip
      have hb2 := count_bd hs
      have hb3 := count_some hs
      have HSV := hid hs
      obtain ⟨V, hV⟩ : ∃ V, V = countS l m := ⟨_, rfl⟩
      have E : Hid (countS l m = V) := hid hV.symm
      rw [← hV] at hb2 hb3
      obtain ⟨hv0, hv1⟩ := hb2
      have hv0n : ¬ V < 0 := by omega
      have hl12 := (wishB_iff.1 (serveB_iff.1 hs).1).1
      have HVS : Hid (V = servN (serveL l m)) := hid (by rw [hV]; exact count_yes hs)
      clear hs hV
      go_wp2_with fail
      refine (iCountServed_any A c l m _ dl.sees dl.n4').mono ?_
      rintro e w2 ⟨he, hb⟩
      rw [E.out] at he
      subst he
      replace dl := dl.below hb
      clear hb
      go_wp2_with fail
      refine (sCountServed_any A c l m _ dl.sees dl.n4').mono ?_
      rintro e w2 ⟨he, hb⟩
      rw [E.out] at he
      subst he
      replace dl := dl.below hb
      clear hb
      have hlen := serve_le HSV.out
      have hbd := fun k => served_bd (serveL l m) k hlen
      have HSU := hid (fun k (hk : k < (serveL l m).length) => served_succ (a := serveL l m) hk)
      have HEA := hid (fun k (hk : k < (serveL l m).length) => (serve_each HSV.out hk).1)
      obtain ⟨T, hT⟩ : ∃ T, T = serveL l m := ⟨_, rfl⟩
      have ET : Hid (serveL l m = T) := hid hT.symm
      rw [← hT] at hlen hbd HSU HEA HVS
      have HBD := hid hbd
      clear hT hbd
      go_wp2_with fail
      refine (iServeTimes_any A c l m _ dl.sees dl.n4').mono ?_
      rintro e w2 ⟨v1, rfl, ho1, hb⟩
      rw [ET.out] at ho1
      replace dl := dl.below hb
      clear hb
      obtain ⟨A1, c1, rfl, _⟩ := ho1.form
      go_wp2
      go_loopw [7, 8] (fun s i wr => ∃ k : Nat, k ≤ T.length ∧ i = .int .i64 k ∧ s = .int .i64 (servN (T.take k)) ∧ wr = w2) (fun _ i _ => T.length - (intOf i).toNat)
      case atStart => exact ⟨0, Nat.zero_le _, rfl, by simp [servN], rfl⟩
      case round =>
        obtain ⟨k, hk, rfl, rfl, rfl⟩ := hrel
        obtain ⟨d1, d2⟩ := HBD.out k
        by_cases hlt : k < T.length
        · skip
          have hi : (k : Int) < (T.length : Int) := by omega
          obtain ⟨b, o, rfl, _, e0⟩ := (Sees.of_own ho1.out).int hlt
          have HX := hid (HSU.out k hlt)
          obtain ⟨t1, t2⟩ := HEA.out k hlt
          obtain ⟨t, ht⟩ : ∃ t, t = T[k] := ⟨_, rfl⟩
          rw [← ht] at e0 HX t1 t2
          obtain ⟨s, hs⟩ : ∃ s, s = servN (T.take k) := ⟨_, rfl⟩
          rw [← hs] at d1 d2 HX ⊢
          clear ht hs
          have hw1 : IntKind.i64.wrap (s + 1) = s + 1 := by rw [IntKind.wrap_i64]; omega
          by_cases hx : t ≥ 0
          · skip
            have HY := hid (HX.out.trans (by rw [if_neg (by omega)] : _ = s + 1))
            go_wp2
            go_roundw
            case rel => exact ⟨k + 1, by omega, by go_num, by rw [HY.out], by trivial⟩
            case measure => simp [intOf]; omega
          · skip
            have HY := hid (HX.out.trans (by rw [if_pos (by omega)]; omega : _ = s))
            go_wp2
            go_roundw
            case rel => exact ⟨k + 1, by omega, by go_num, by rw [HY.out], by trivial⟩
            case measure => simp [intOf]; omega
        · skip
          have hi : ¬ (k : Int) < (T.length : Int) := by omega
          rw [take_whole hlt, ← HVS.out]
          have hve : (V == V) = true := by simp
          have hmin : (1 < (l.length : Int)) ∨ ((l.length : Int) = 1) ∨ ((l.length : Int) < 1) := by omega
          rcases hmin with hm | hm | hm
          · skip
            have hge : decide (V ≥ min 1 (l.length : Int)) = true := decide_eq_true (by omega)
            have hge2 : V ≥ min 1 (l.length : Int) := by omega
            have hv1b : V ≥ 1 := by omega
            have hnl : ¬ (l.length : Int) < 1 := by omega
            go_wp2
            go_ret
            exact ⟨by simp [*], dl.bel⟩
          · skip
            have hge : decide (V ≥ min 1 (l.length : Int)) = true := decide_eq_true (by omega)
            have hge2 : V ≥ min 1 (l.length : Int) := by omega
            have hmm : min 1 (l.length : Int) = 1 := by omega
            have hv1b : V ≥ 1 := by omega
            have hll : l.length = 1 := by omega
            go_wp2
            go_ret
            exact ⟨by simp [*], dl.bel⟩
          · skip
            have hge : decide (V ≥ min 1 (l.length : Int)) = true := decide_eq_true (by omega)
            have hge2 : V ≥ min 1 (l.length : Int) := by omega
            have hll : l.length = 0 := by omega
            have hv1b : V ≥ 0 := by omega
            go_wp2
            go_ret
            exact ⟨by simp [*], dl.bel⟩
end Go.Proofs.Ytolcnokmdohbaab

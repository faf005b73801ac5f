/-
  The walk of the law FnServeTimes: at every code it returns true and changes nothing that was there. Conditions: none.
-/
import Derived.Test.YtolcnokmdohbaabLawWi
import Derived.Test.YtolcnokmdohbaabLawFrame
import Derived.BigQuiet
namespace Go.Proofs.Ytolcnokmdohbaab
open Go.RowKit Wis

set_option maxHeartbeats 8000000 in
theorem walkServeTimes (a : Option Addr) (len cap : Nat) (zs : List Int) (w : World) (hn : zs.length = len) (hc : len ≤ cap) (hcc : cap ≤ maxLen) (h : Sees w w.heap.size a (byts zs)) (hz : ∀ y ∈ zs, 0 ≤ y ∧ y ≤ 255) :
    Calls Try.prog 3 #[.slice a len cap] w fun e w' => e = .returned (.bool true) ∧ Below w.heap.size w w' := by
  have HE := hid hn
  have HC := hid hcc
  have HZ := hid hz
  clear hn hcc hz
  by_cases hbig : 1048576 < len
  · go_enter Try.func3, Try.ntmps3
    go_wp2
    go_ret
    exact ⟨rfl, Below.refl _ _⟩
  · go_enter Try.func3, Try.ntmps3
    go_wp2_with fail
    refine (drawServeTimes_any _ _ _ _ _ h HZ.out HE.out hc (by omega) HC.out).mono ?_
    rintro e w1 ⟨A, c, l, m, rfl, dl, hm0, hm7⟩
    have hl13 := dl.len
    have hcase : serveL l m = [] ∨ (serveB l m = true) := by
      rcases hs : serveB l m with _ | _
      · exact .inl (serve_no hs)
      · exact .inr rfl
    have HN := hid (serve_len l m)
    obtain ⟨T, hT⟩ : ∃ T, T = serveL l m := ⟨_, rfl⟩
    have E : Hid (serveL l m = T) := hid hT.symm
    rw [← hT] at hcase HN
    have HT := hid hT
    clear hT
    have HT4 : Hid (T.length ≤ 4194304) := hid (by have := HN.out; omega)
    go_wp2_with fail
    refine (iServeTimes_any A c l m _ dl.sees dl.n4').mono ?_
    rintro e w2 ⟨v1, rfl, ho1, hb⟩
    rw [E.out] at ho1
    replace dl := dl.below hb
    clear hb
    obtain ⟨A1, c1, rfl, _⟩ := ho1.form
    go_wp2_with fail
    refine (sServeTimes_any A c l m _ dl.sees dl.n4').mono ?_
    rintro e w2 ⟨v2, rfl, ho2, hb⟩
    rw [E.out] at ho2
    replace dl := dl.below hb
    replace ho1 := ho1.below hb
    clear hb
    obtain ⟨A2, c2, rfl, _⟩ := ho2.form
    go_wp2_with fail
    refine (wEq_same A1 A2 c1 c2 T _ (Sees.of_own ho1.out) (Sees.of_own ho2.out) HT4.out).mono ?_
    rintro e w2 ⟨rfl, hb⟩
    replace dl := dl.below hb
    replace ho1 := ho1.below hb
    replace ho2 := ho2.below hb
    clear hb
    clear ho2
    by_cases hq0 : T.length = 0
    · skip
      have hqb : ((T.length : Int) == 0) = true := by simpa using hq0
      have HQ := hid hq0
      clear hq0
      go_wp2_with fail
      refine (sServeTimes_any A c l m _ dl.sees dl.n4').mono ?_
      rintro e w2 ⟨v3, rfl, ho3, hb⟩
      rw [E.out] at ho3
      replace dl := dl.below hb
      replace ho1 := ho1.below hb
      clear hb
      obtain ⟨A3, c3, rfl, _⟩ := ho3.form
      go_wp2_with fail
      refine (wEq_same A1 A3 c1 c3 T _ (Sees.of_own ho1.out) (Sees.of_own ho3.out) HT4.out).mono ?_
      rintro e w2 ⟨rfl, hb⟩
      replace dl := dl.below hb
      replace ho1 := ho1.below hb
      replace ho3 := ho3.below hb
      clear hb
      clear ho3
      go_wp2
      go_ret
      exact ⟨by simp, dl.bel⟩
    · skip
      have hqb : ((T.length : Int) == 0) = false := beq_eq_false_iff_ne.2 (by omega)
      have hs : serveB l m = true := hcase.resolve_left (fun e => hq0 (by rw [e]; rfl))
      have HS := hid hs
      have hTl : T.length = l.length := by rw [HT.out]; exact serve_all hs
      have HTL := hid hTl
      have hl0 : 0 < l.length := by omega
      have HEA := hid (fun k (hk : k < T.length) (hl : k < l.length) => (show T[k] = -1 ∨ (l[k].a ≤ T[k] ∧ T[k] ≤ l[k].a + l[k].p ∧ 0 ≤ l[k].a ∧ l[k].a ≤ 1000 ∧ 0 ≤ l[k].p ∧ l[k].p ≤ 100) by
        obtain ⟨t, ht, _, h2⟩ := serve_at HS.out hl
        rw [← HT.out, List.getElem?_eq_getElem hk] at ht
        injection ht with ht
        have := Wi.ok_iff.1 (ok_of hl (serveB_iff.1 HS.out).1)
        omega))
      have HF := hid (show ∀ (h1 : 0 < T.length) (h2 : 0 < l.length), T[0] = l[0].a from fun h1 h2 => by
        have ht := serve_first HS.out h2
        rw [← HT.out, List.getElem?_eq_getElem h1] at ht
        injection ht)
      clear hcase hs hTl hq0
      go_wp2
      go_loopw [6] (fun i wr => ∃ k : Nat, k ≤ T.length ∧ i = .int .i64 k ∧ ∃ d, wr = w2.drewN d) (fun i _ => T.length - (intOf i).toNat)
      case atStart => exact ⟨0, Nat.zero_le _, rfl, 0, rfl⟩
      case round =>
        obtain ⟨k, hk, rfl, d, rfl⟩ := hrel
        have hT4 := HT4.out
        by_cases hlt : k < T.length
        · skip
          have hi : (k : Int) < (T.length : Int) := by omega
          have hll : k < l.length := by rw [← HTL.out]; exact hlt
          have hil : ¬ (k : Int) ≥ (l.length : Int) := by omega
          have hil2 : (k : Int) < (l.length : Int) := by omega
          have hil3 : ¬ l.length ≤ k := by omega
          have hil4 : decide (l.length ≤ k) = false := decide_eq_false hil3
          have hk0 : (0 : Int) ≤ (k : Int) := by omega
          obtain ⟨b, o, rfl, _, e0⟩ := (Sees.of_own ho1.out).int hlt
          obtain ⟨b2, o2, rfl, _, f0, _, f2⟩ := dl.sees.wish hll
          have hx := HEA.out k hlt hll
          obtain ⟨t, ht⟩ : ∃ t, t = T[k] := ⟨_, rfl⟩
          obtain ⟨x, hx2⟩ : ∃ x, x = l[k] := ⟨_, rfl⟩
          rw [← ht] at e0 hx
          rw [← hx2] at f0 f2 hx
          clear ht hx2
          rcases hx with hx | ⟨x1, x2, x3, x4, x5, x6⟩
          · skip
            have hne : (t != -1) = false := by simp [hx]
            have HX := hid hx
            clear hx
            go_wp2
            go_quiet (fail)
            go_wp2
            go_roundw
            case rel => exact ⟨k + 1, by omega, by go_num, _, rfl⟩
            case measure => simp [intOf]; omega
          · skip
            have hne : (t != -1) = true := by simp; omega
            have hw1 : IntKind.i64.wrap (x.a + x.p) = x.a + x.p := by rw [IntKind.wrap_i64]; omega
            have c1 : ¬ t < x.a := by omega
            have c1b : decide (t < x.a) = false := decide_eq_false c1
            have c2 : ¬ t > x.a + x.p := by omega
            have c2b : decide (x.a + x.p < t) = false := decide_eq_false (by omega)
            go_wp2
            go_quiet (fail)
            go_wp2
            go_roundw
            case rel => exact ⟨k + 1, by omega, by go_num, _, rfl⟩
            case measure => simp [intOf]; omega
        · skip
          have hi : ¬ (k : Int) < (T.length : Int) := by omega
          have hp0 : 0 < T.length := by rw [HTL.out]; exact hl0
          obtain ⟨b, o, rfl, _, e0⟩ := (Sees.of_own ho1.out).int hp0
          obtain ⟨b2, o2, rfl, _, f0, _, _⟩ := dl.sees.wish hl0
          have hx := HF.out hp0 hl0
          rw [hx] at e0
          obtain ⟨x, hx2⟩ : ∃ x, x = l[0].a := ⟨_, rfl⟩
          rw [← hx2] at e0 f0
          clear hx hx2
          simp only [Nat.zero_mul, Nat.add_zero] at e0 f0
          have hll : ((T.length : Int) == (l.length : Int)) = true := by rw [HTL.out]; simp
          have hl1 : (0 : Int) < (T.length : Int) := by omega
          have hl2 : (0 : Int) < (l.length : Int) := by omega
          go_wp2
          go_quiet (fail)
          go_wp2
          go_ret
          exact ⟨by simp, below_drewN (below_drewN dl.bel _) _⟩
end Go.Proofs.Ytolcnokmdohbaab

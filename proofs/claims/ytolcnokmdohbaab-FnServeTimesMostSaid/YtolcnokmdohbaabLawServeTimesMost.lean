/-
  The walk of the law FnServeTimesMost: at every code it returns true and changes nothing that was there. Conditions: none.
-/
import Derived.Test.YtolcnokmdohbaabLawWi
import Derived.Test.YtolcnokmdohbaabLawFrame
import Derived.BigQuiet
namespace Go.Proofs.Ytolcnokmdohbaab
open Go.RowKit Wis

set_option maxHeartbeats 8000000 in
theorem walkServeTimesMost (a : Option Addr) (len cap : Nat) (zs : List Int) (w : World) (hn : zs.length = len) (hc : len ≤ cap) (hcc : cap ≤ maxLen) (h : Sees w w.heap.size a (byts zs)) (hz : ∀ y ∈ zs, 0 ≤ y ∧ y ≤ 255) :
    Calls Try.prog 4 #[.slice a len cap] w fun e w' => e = .returned (.bool true) ∧ Below w.heap.size w w' := by
  have HE := hid hn
  have HC := hid hcc
  have HZ := hid hz
  clear hn hcc hz
  by_cases hbig : 1048576 < len
  · go_enter Try.func4, Try.ntmps4
    go_wp2
    go_ret
    exact ⟨rfl, Below.refl _ _⟩
  · go_enter Try.func4, Try.ntmps4
    go_wp2_with fail
    refine (drawServeTimes_any _ _ _ _ _ h HZ.out HE.out hc (by omega) HC.out).mono ?_
    rintro e w1 ⟨A, c, l, m, rfl, dl, hm0, hm7⟩
    have hl13 := dl.len
    have hcase : serveL l m = [] ∨ (serveB l m = true) := by
      rcases hs : serveB l m with _ | _
      · exact .inl (serve_no hs)
      · exact .inr rfl
    have HN := hid (serve_len l m)
    obtain ⟨T, hT⟩ : ∃ T, T = serveL l m := ⟨_, rfl⟩
    have E : Hid (serveL l m = T) := hid hT.symm
    rw [← hT] at hcase HN
    have HT := hid hT
    clear hT
    have HT4 : Hid (T.length ≤ 4194304) := hid (by have := HN.out; omega)
    go_wp2_with fail
    refine (iServeTimes_any A c l m _ dl.sees dl.n4').mono ?_
    rintro e w2 ⟨v1, rfl, ho1, hb⟩
    rw [E.out] at ho1
    replace dl := dl.below hb
    clear hb
    obtain ⟨A1, c1, rfl, _⟩ := ho1.form
    go_wp2_with fail
    refine (sServeTimes_any A c l m _ dl.sees dl.n4').mono ?_
    rintro e w2 ⟨v2, rfl, ho2, hb⟩
    rw [E.out] at ho2
    replace dl := dl.below hb
    replace ho1 := ho1.below hb
    clear hb
    obtain ⟨A2, c2, rfl, _⟩ := ho2.form
    go_wp2_with fail
    refine (wEq_same A1 A2 c1 c2 T _ (Sees.of_own ho1.out) (Sees.of_own ho2.out) HT4.out).mono ?_
    rintro e w2 ⟨rfl, hb⟩
    replace dl := dl.below hb
    replace ho1 := ho1.below hb
    replace ho2 := ho2.below hb
    clear hb
    clear ho2
    by_cases hq0 : T.length ≠ l.length
    · skip
      have hqb : ((T.length : Int) != (l.length : Int)) = true := by simpa using (fun e => hq0 (by omega))
      have HQ := hid hq0
      clear hq0
      go_wp2_with fail
      refine (sServeTimes_any A c l m _ dl.sees dl.n4').mono ?_
      rintro e w2 ⟨v3, rfl, ho3, hb⟩
      rw [E.out] at ho3
      replace dl := dl.below hb
      replace ho1 := ho1.below hb
      clear hb
      obtain ⟨A3, c3, rfl, _⟩ := ho3.form
      go_wp2_with fail
      refine (wEq_same A1 A3 c1 c3 T _ (Sees.of_own ho1.out) (Sees.of_own ho3.out) HT4.out).mono ?_
      rintro e w2 ⟨rfl, hb⟩
      replace dl := dl.below hb
      replace ho1 := ho1.below hb
      replace ho3 := ho3.below hb
      clear hb
      clear ho3
      go_wp2
      go_ret
      exact ⟨by simp, dl.bel⟩
    · skip
      have hTl : T.length = l.length := by omega
      have hqb : ((T.length : Int) != (l.length : Int)) = false := by rw [hTl]; simp
      have HTL := hid hTl
      have hT13 : T.length ≤ 13 := by omega
      clear hq0 hTl
      have HBM := hid (fun (hp : 0 < T.length) X => (show (busyN T l X : Int) ≤ m ∧ 1 ≤ m from by
        have hs : serveB l m = true := hcase.resolve_left (fun e => by rw [e] at hp; exact absurd hp (by simp))
        rw [HT.out]; exact ⟨busy_most hs X, (serveB_iff.1 hs).2.1⟩))
      have HEA := hid (fun k (hk : k < T.length) => (show -1 ≤ T[k] ∧ T[k] ≤ 1200 from by
        have hs : serveB l m = true := hcase.resolve_left (fun e => by rw [e] at hk; exact absurd hk (by simp))
        have := (serve_each hs (k := k) (by rw [← HT.out]; exact hk)).1
        have e : (serveL l m)[k]'(by rw [← HT.out]; exact hk) = T[k] := by simp only [HT.out]
        rw [e] at this; exact this))
      have HHA := hid (fun k (hp : 0 < T.length) (hk : k < l.length) => (show 1 ≤ l[k].h ∧ l[k].h ≤ 100 from by
        have hs : serveB l m = true := hcase.resolve_left (fun e => by rw [e] at hp; exact absurd hp (by simp))
        have := Wi.ok_iff.1 (ok_of hk (serveB_iff.1 hs).1)
        exact ⟨by omega, by omega⟩))
      clear hcase
      go_wp2
      go_loopw [6] (fun i wr => ∃ k : Nat, k ≤ T.length ∧ i = .int .i64 k ∧ ∃ d, wr = w2.drewN d) (fun i _ => T.length - (intOf i).toNat)
      case atStart => exact ⟨0, Nat.zero_le _, rfl, 0, rfl⟩
      case round =>
        obtain ⟨k, hk, rfl, d, rfl⟩ := hrel
        by_cases hlt : k < T.length
        · skip
          have hi : (k : Int) < (T.length : Int) := by omega
          have hk0 : (0 : Int) ≤ (k : Int) := by omega
          have hpos : 0 < T.length := by omega
          obtain ⟨b, o, rfl, _, e0⟩ := (Sees.of_own ho1.out).int hlt
          obtain ⟨X1, X2⟩ := HEA.out k hlt
          obtain ⟨hm2, hm1⟩ := HBM.out hpos T[k]
          have HB2 := hid (fun j (hj : j < T.length) (hl : j < l.length) => busy_succ hj hl T[k])
          obtain ⟨X, hX⟩ : ∃ X, X = T[k] := ⟨_, rfl⟩
          rw [← hX] at e0 X1 X2 hm2 HB2
          clear hX
          by_cases hX0 : X ≥ 0
          · skip
            go_wp2
            go_loopw [7, 8] (fun n i wr => ∃ j : Nat, j ≤ T.length ∧ i = .int .i64 j ∧ n = .int .i64 ((busyN (T.take j) (l.take j) X : Nat) : Int) ∧ ∃ d, wr = w2.drewN d) (fun _ i _ => T.length - (intOf i).toNat)
            case atStart => exact ⟨0, Nat.zero_le _, rfl, by simp [busyN], _, rfl⟩
            case round =>
              obtain ⟨j, hj, rfl, rfl, d2, rfl⟩ := hrel
              have hbn : busyN (T.take j) (l.take j) X ≤ 13 := Nat.le_trans List.countP_le_length (by simp; omega)
              by_cases hjt : j < T.length
              · skip
                have hji : (j : Int) < (T.length : Int) := by omega
                have hjl : j < l.length := by rw [← HTL.out]; exact hjt
                have hji2 : (j : Int) < (l.length : Int) := by omega
                have hj0 : (0 : Int) ≤ (j : Int) := by omega
                obtain ⟨b3, o3, e3, _, f0⟩ := (Sees.of_own ho1.out).int hjt
                obtain ⟨rfl, rfl⟩ : b = b3 ∧ o = o3 := by injection e3 with e3; injection e3 with a b; exact ⟨a, b⟩
                obtain ⟨b2, o2, rfl, _, _, f1, _⟩ := dl.sees.wish hjl
                have HX := hid (HB2.out j hjt hjl)
                obtain ⟨t1, t2⟩ := HEA.out j hjt
                obtain ⟨h1, h2⟩ := HHA.out j hpos hjl
                obtain ⟨t, ht⟩ : ∃ t, t = T[j] := ⟨_, rfl⟩
                obtain ⟨x, hx⟩ : ∃ x, x = l[j] := ⟨_, rfl⟩
                rw [← ht] at f0 t1 t2 HX
                rw [← hx] at f1 h1 h2 HX
                obtain ⟨s, hs⟩ : ∃ s, s = busyN (T.take j) (l.take j) X := ⟨_, rfl⟩
                rw [← hs] at hbn HX ⊢
                clear ht hx hs e3
                have hw1 : IntKind.i64.wrap (t + x.h) = t + x.h := by rw [IntKind.wrap_i64]; omega
                have hw2 : IntKind.i64.wrap ((s : Int) + 1) = (s : Int) + 1 := by rw [IntKind.wrap_i64]; omega
                by_cases c1 : t ≥ 0
                · skip
                  by_cases c2 : t ≤ X
                  · skip
                    by_cases c3 : X < t + x.h
                    · skip
                      have HY := hid (HX.out.trans (by rw [if_pos (by unfold now; simp; omega)] : _ = s + 1))
                      go_wp2
                      go_quiet (fail)
                      go_wp2
                      go_roundw
                      case rel => exact ⟨j + 1, by omega, by go_num, by rw [HY.out]; go_num, _, rfl⟩
                      case measure => simp [intOf]; omega
                    · skip
                      have HY := hid (HX.out.trans (by rw [if_neg (by unfold now; simp; omega)]; omega : _ = s))
                      have c3b : decide (X < t + x.h) = false := decide_eq_false c3
                      go_wp2
                      go_quiet (fail)
                      go_wp2
                      go_roundw
                      case rel => exact ⟨j + 1, by omega, by go_num, by rw [HY.out], _, rfl⟩
                      case measure => simp [intOf]; omega
                  · skip
                    have HY := hid (HX.out.trans (by rw [if_neg (by unfold now; simp; omega)]; omega : _ = s))
                    have c2b : decide (t ≤ X) = false := decide_eq_false c2
                    go_wp2
                    go_quiet (fail)
                    go_wp2
                    go_roundw
                    case rel => exact ⟨j + 1, by omega, by go_num, by rw [HY.out], _, rfl⟩
                    case measure => simp [intOf]; omega
                · skip
                  have HY := hid (HX.out.trans (by rw [if_neg (by unfold now; simp; omega)]; omega : _ = s))
                  have c1b : decide (t ≥ 0) = false := decide_eq_false c1
                  have c1c : decide (0 ≤ t) = false := c1b
                  go_wp2
                  go_quiet (fail)
                  go_wp2
                  go_roundw
                  case rel => exact ⟨j + 1, by omega, by go_num, by rw [HY.out], _, rfl⟩
                  case measure => simp [intOf]; omega
              · skip
                have hji : ¬ (j : Int) < (T.length : Int) := by omega
                rw [take_whole hjt, take_whole (show ¬ j < l.length by rw [← HTL.out]; exact hjt)]
                obtain ⟨s, hs⟩ : ∃ s, s = busyN T l X := ⟨_, rfl⟩
                rw [← hs] at hm2 ⊢
                clear hs
                have hns : ¬ (s : Int) > m := by omega
                go_wp2
                go_roundw
                case rel => exact ⟨k + 1, by omega, by go_num, _, rfl⟩
                case measure => simp [intOf]; omega
          · skip
            have hXb : decide (X ≥ 0) = false := decide_eq_false hX0
            go_wp2
            go_loopw [7, 8] (fun n i wr => i = .int .i64 ((0 : Nat) : Int) ∧ n = .int .i64 0 ∧ wr = w2.drewN d) (fun _ _ _ => 0)
            case atStart => exact ⟨rfl, rfl, rfl⟩
            case round =>
              obtain ⟨rfl, rfl, rfl⟩ := hrel
              have hns : ¬ (0 : Int) > m := by omega
              have hi0 : (0 : Int) < (T.length : Int) := by omega
              go_wp2
              go_roundw
              case rel => exact ⟨k + 1, by omega, by go_num, _, rfl⟩
              case measure => simp [intOf]; omega
        · skip
          have hi : ¬ (k : Int) < (T.length : Int) := by omega
          go_wp2
          go_ret
          exact ⟨rfl, below_drewN dl.bel _⟩
end Go.Proofs.Ytolcnokmdohbaab

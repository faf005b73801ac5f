/-
  The walk of the law FnLongestWait: at every code it returns true and changes nothing that was there. Conditions: none.
-/
import Derived.Test.YtolcnokmdohbaacLawWi
import Derived.Test.YtolcnokmdohbaacLawFrame
import Derived.BigQuiet
namespace Go.Proofs.Ytolcnokmdohbaac
open Go.RowKit Wis

set_option maxHeartbeats 8000000 in
theorem walkLongestWait (a : Option Addr) (len cap : Nat) (zs : List Int) (w : World) (hn : zs.length = len) (hc : len ≤ cap) (hcc : cap ≤ maxLen) (h : Sees w w.heap.size a (byts zs)) (hz : ∀ y ∈ zs, 0 ≤ y ∧ y ≤ 255) :
    Calls Try.prog 3 #[.slice a len cap] w fun e w' => e = .returned (.bool true) ∧ Below w.heap.size w w' := by
  have HE := hid hn
  have HC := hid hcc
  have HZ := hid hz
  clear hn hcc hz
  by_cases hbig : 1048576 < len
  · go_enter Try.func3, Try.ntmps3
    go_wp2
    go_ret
    exact ⟨rfl, Below.refl _ _⟩
  · go_enter Try.func3, Try.ntmps3
    go_wp2_with fail
    refine (drawLongestWait_any _ _ _ _ _ h HZ.out HE.out hc (by omega) HC.out).mono ?_
    rintro e w1 ⟨A, c, l, m, rfl, dl, hm0, hm7⟩
    have hl13 := dl.len
    rcases hs : serveB l m with _ | _
    · skip
      have E := hid (long_no hs)
      go_wp2_with fail
      refine (iLongestWait_any A c l m _ dl.sees dl.n4').mono ?_
      rintro e w2 ⟨he, hb⟩
      rw [E.out] at he
      subst he
      replace dl := dl.below hb
      clear hb
      go_wp2_with fail
      refine (sLongestWait_any A c l m _ dl.sees dl.n4').mono ?_
      rintro e w2 ⟨he, hb⟩
      rw [E.out] at he
      subst he
      replace dl := dl.below hb
      clear hb
      go_wp2_with fail
      refine (sLongestWait_any A c l m _ dl.sees dl.n4').mono ?_
      rintro e w2 ⟨he, hb⟩
      rw [E.out] at he
      subst he
      replace dl := dl.below hb
      clear hb
      go_wp2
      go_ret
      exact ⟨by simp, dl.bel⟩
    · skip
      have hp := long_patient hs
      have HSV := hid hs
      have HTL := hid (serve_all hs)
      have hle := serve_le hs
      have HWA := hid (fun k (hl : k < l.length) (hk : k < (serveL l m).length) => (show (serveL l m)[k] ≤ l[k].a + longest l m ∧ -1 ≤ (serveL l m)[k] ∧ 0 ≤ l[k].a ∧ l[k].a ≤ 1000 from by
        have ho := Wi.ok_iff.1 (ok_of hl (serveB_iff.1 HSV.out).1)
        have he := (serve_each HSV.out hk).1
        have hp2 := (long_patient HSV.out).1
        by_cases hx : (serveL l m)[k] = -1
        · omega
        · have := waits_at (serve_all HSV.out) hl hx
          rw [← long_yes HSV.out] at this
          omega))
      have HWS := hid (waits_some (serve_all hs))
      rw [← long_yes hs] at HWS
      have HPA := hid (fun k (hk : k < l.length) => patient_succ hk)
      have HPB := hid (fun k => patient_zero (l.take k))
      have HPO := hid (fun k (hk : k < l.length) => (show 0 ≤ l[k].p ∧ l[k].p ≤ 100 from by have := Wi.ok_iff.1 (ok_of hk (serveB_iff.1 HSV.out).1); exact ⟨by omega, by omega⟩))
      obtain ⟨V, hV⟩ : ∃ V, V = longest l m := ⟨_, rfl⟩
      have E : Hid (longest l m = V) := hid hV.symm
      rw [← hV] at hp HWA HWS
      obtain ⟨hv0, hvp, hv1⟩ := hp
      have hv0n : ¬ V < 0 := by omega
      clear hs hV
      go_wp2_with fail
      refine (iLongestWait_any A c l m _ dl.sees dl.n4').mono ?_
      rintro e w2 ⟨he, hb⟩
      rw [E.out] at he
      subst he
      replace dl := dl.below hb
      clear hb
      go_wp2_with fail
      refine (sLongestWait_any A c l m _ dl.sees dl.n4').mono ?_
      rintro e w2 ⟨he, hb⟩
      rw [E.out] at he
      subst he
      replace dl := dl.below hb
      clear hb
      obtain ⟨T, hT⟩ : ∃ T, T = serveL l m := ⟨_, rfl⟩
      have ET : Hid (serveL l m = T) := hid hT.symm
      rw [← hT] at HTL hle HWS
      have HWB := hid (fun k (hl : k < l.length) (hk : k < T.length) => (show T[k] ≤ l[k].a + V ∧ -1 ≤ T[k] ∧ 0 ≤ l[k].a ∧ l[k].a ≤ 1000 from by
        subst hT
        exact HWA.out k hl hk))
      clear hT HWA
      go_wp2
      go_loopw [6, 7] (fun q i wr => ∃ k : Nat, k ≤ l.length ∧ i = .int .i64 k ∧ q = .int .i64 (patient (l.take k)) ∧ wr = w2) (fun _ i _ => l.length - (intOf i).toNat)
      case atStart => exact ⟨0, Nat.zero_le _, rfl, by simp [patient], rfl⟩
      case round =>
        obtain ⟨k, hk, rfl, rfl, rfl⟩ := hrel
        by_cases hlt : k < l.length
        · skip
          have hi : (k : Int) < (l.length : Int) := by omega
          obtain ⟨b, o, rfl, _, _, _, e2⟩ := dl.sees.wish hlt
          have HX := hid (HPA.out k hlt)
          obtain ⟨p1, p2⟩ := HPO.out k hlt
          have hq := HPB.out k
          obtain ⟨x, hx⟩ : ∃ x, x = l[k].p := ⟨_, rfl⟩
          rw [← hx] at e2 HX p1 p2
          obtain ⟨s, hs⟩ : ∃ s, s = patient (l.take k) := ⟨_, rfl⟩
          rw [← hs] at HX hq ⊢
          clear hx hs
          have hc : s < x ∨ s = x ∨ x < s := by omega
          rcases hc with hc | hc | hc
          · skip
            have HZ := hid (HX.out.trans (by omega : _ = x))
            go_wp2
            go_roundw
            case rel => exact ⟨k + 1, by omega, by go_num, by rw [HZ.out], by trivial⟩
            case measure => simp [intOf]; omega
          · skip
            have HZ := hid (HX.out.trans (by omega : _ = x))
            subst hc
            have hnl : True := trivial
            go_wp2
            go_roundw
            case rel => exact ⟨k + 1, by omega, by go_num, by rw [HZ.out], by trivial⟩
            case measure => simp [intOf]; omega
          · skip
            have HZ := hid (HX.out.trans (by omega : _ = s))
            go_wp2
            go_roundw
            case rel => exact ⟨k + 1, by omega, by go_num, by rw [HZ.out], by trivial⟩
            case measure => simp [intOf]; omega
        · skip
          have hi : ¬ (k : Int) < (l.length : Int) := by omega
          rw [take_whole hlt]
          obtain ⟨P, hP⟩ : ∃ P, P = patient l := ⟨_, rfl⟩
          rw [← hP] at hvp ⊢
          clear hP
          go_wp2_with fail
          refine (iServeTimes_any A c l m _ dl.sees dl.n4').mono ?_
          rintro e w2 ⟨v1, rfl, ho1, hb⟩
          rw [ET.out] at ho1
          replace dl := dl.below hb
          clear hb
          obtain ⟨A1, c1, rfl, _⟩ := ho1.form
          have hT12 : T.length ≤ 12 := hle
          go_wp2
          go_loopw [9, 10] (fun s i wr => ∃ (j : Nat) (bv : Bool), j ≤ T.length ∧ i = .int .i64 j ∧ s = .bool bv ∧ Hid (bv = true ↔ (V = 0 ∨ ∃ q, q < j ∧ ∃ (h1 : q < T.length) (h2 : q < l.length), T[q] = l[q].a + V)) ∧ ∃ d, wr = w2.drewN d) (fun _ i _ => T.length - (intOf i).toNat)
          case atStart => exact ⟨0, (V == 0), Nat.zero_le _, rfl, rfl, hid (by simp), 0, rfl⟩
          case round =>
            obtain ⟨j, bv, hj, rfl, rfl, HB, d, rfl⟩ := hrel
            by_cases hjt : j < T.length
            · skip
              have hji : (j : Int) < (T.length : Int) := by omega
              have hjl : j < l.length := by rw [← HTL.out]; exact hjt
              have hji2 : (j : Int) < (l.length : Int) := by omega
              have hj0 : (0 : Int) ≤ (j : Int) := by omega
              obtain ⟨b, o, rfl, _, e0⟩ := (Sees.of_own ho1.out).int hjt
              obtain ⟨b2, o2, rfl, _, f0, _, _⟩ := dl.sees.wish hjl
              obtain ⟨x1, x2, x3, x4⟩ := HWB.out j hjl hjt
              have HST := hid (fun bw : Bool => (show (bw = true ↔ (bv = true ∨ T[j] = l[j].a + V)) → (bw = true ↔ (V = 0 ∨ ∃ q, q < j + 1 ∧ ∃ (h1 : q < T.length) (h2 : q < l.length), T[q] = l[q].a + V)) from by
                intro hbw
                rw [hbw, HB.out]
                constructor
                · rintro ((h | ⟨q, q1, q2⟩) | h)
                  · exact .inl h
                  · exact .inr ⟨q, by omega, q2⟩
                  · exact .inr ⟨j, by omega, hjt, hjl, h⟩
                · rintro (h | ⟨q, q1, q2, q3, q4⟩)
                  · exact .inl (.inl h)
                  · rcases Nat.lt_or_ge q j with e | e
                    · exact .inl (.inr ⟨q, e, q2, q3, q4⟩)
                    · have : q = j := by omega
                      subst this
                      exact .inr q4))
              obtain ⟨t, ht⟩ : ∃ t, t = T[j] := ⟨_, rfl⟩
              obtain ⟨x, hx⟩ : ∃ x, x = l[j].a := ⟨_, rfl⟩
              rw [← ht] at e0 x1 x2 HST
              rw [← hx] at f0 x1 x3 x4 HST
              clear ht hx
              have hw1 : IntKind.i64.wrap (x + V) = x + V := by rw [IntKind.wrap_i64]; omega
              have hgt : ¬ t > x + V := by omega
              have hgtb : decide (x + V < t) = false := decide_eq_false hgt
              cases bv
              · skip
                rcases hx : (t == x + V) with _ | _
                · skip
                  have HY := hid (HST.out false (by have := hx; simp at this ⊢; omega))
                  go_wp2
                  go_quiet (fail)
                  go_wp2
                  go_quiet (fail)
                  go_wp2
                  go_roundw
                  case rel => exact ⟨j + 1, false, by omega, by go_num, rfl, hid (by simpa using HY.out), _, rfl⟩
                  case measure => simp [intOf]; omega
                · skip
                  have HY := hid (HST.out true (by have := hx; simp at this ⊢; omega))
                  go_wp2
                  go_quiet (fail)
                  go_wp2
                  go_quiet (fail)
                  go_wp2
                  go_roundw
                  case rel => exact ⟨j + 1, true, by omega, by go_num, rfl, hid (by simpa using HY.out), _, rfl⟩
                  case measure => simp [intOf]; omega
              · skip
                have HY := hid (HST.out true (by simp))
                go_wp2
                go_quiet (fail)
                go_wp2
                go_quiet (fail)
                go_wp2
                go_roundw
                case rel => exact ⟨j + 1, true, by omega, by go_num, rfl, hid (by simpa using HY.out), _, rfl⟩
                case measure => simp [intOf]; omega
            · skip
              have hji : ¬ (j : Int) < (T.length : Int) := by omega
              have hbt : bv = true := HB.out.2 (by
                rcases HWS.out with h | ⟨q, q1, q2, q3, q4⟩
                · exact .inl h
                · exact .inr ⟨q, by omega, q2, q1, q4⟩)
              subst hbt
              go_wp2
              go_ret
              exact ⟨by simp [hvp], below_drewN dl.bel _⟩
end Go.Proofs.Ytolcnokmdohbaac

/-
  The walk of the law FnCountServedFirst: at every code it returns true and changes nothing that was there. Conditions: none.
-/
import Derived.Test.YtolcnokmdohbaabLawWi
import Derived.Test.YtolcnokmdohbaabLawFrame
import Derived.BigQuiet
import Derived.Deep.RegionHeldLaw
namespace Go.Proofs.Ytolcnokmdohbaab
open Go.RowKit Wis

set_option maxHeartbeats 8000000 in
theorem walkCountServedFirst (a : Option Addr) (len cap : Nat) (zs : List Int) (w : World) (hn : zs.length = len) (hc : len ≤ cap) (hcc : cap ≤ maxLen) (h : Sees w w.heap.size a (byts zs)) (hz : ∀ y ∈ zs, 0 ≤ y ∧ y ≤ 255) :
    Calls Try.prog 7 #[.slice a len cap] w fun e w' => e = .returned (.bool true) ∧ Below w.heap.size w w' := by
  have HE := hid hn
  have HC := hid hcc
  have HZ := hid hz
  clear hn hcc hz
  by_cases hbig : 1048576 < len
  · go_enter Try.func7, Try.ntmps7
    go_wp2
    go_ret
    exact ⟨rfl, Below.refl _ _⟩
  · go_enter Try.func7, Try.ntmps7
    go_wp2_with fail
    refine (drawCountServed_any _ _ _ _ _ h HZ.out HE.out hc (by omega) HC.out).mono ?_
    rintro e w1 ⟨A, c, l, m, rfl, dl, hm0, hm7⟩
    have hl13 := dl.len
    rcases hs : serveB l m with _ | _
    · skip
      have E := hid (count_no hs)
      go_wp2_with fail
      refine (iCountServed_any A c l m _ dl.sees dl.n4').mono ?_
      rintro e w2 ⟨he, hb⟩
      rw [E.out] at he
      subst he
      replace dl := dl.below hb
      clear hb
      go_wp2_with fail
      refine (sCountServed_any A c l m _ dl.sees dl.n4').mono ?_
      rintro e w2 ⟨he, hb⟩
      rw [E.out] at he
      subst he
      replace dl := dl.below hb
      clear hb
      go_wp2_with fail
      refine (sCountServed_any A c l m _ dl.sees dl.n4').mono ?_
      rintro e w2 ⟨he, hb⟩
      rw [E.out] at he
      subst he
      replace dl := dl.below hb
      clear hb
      go_wp2
      go_ret
      exact ⟨by simp, dl.bel⟩
    · skip
      have hb2 := count_bd hs
      have HSV := hid hs
      obtain ⟨V, hV⟩ : ∃ V, V = countS l m := ⟨_, rfl⟩
      have E : Hid (countS l m = V) := hid hV.symm
      rw [← hV] at hb2
      obtain ⟨hv0, hv1⟩ := hb2
      have hv0n : ¬ V < 0 := by omega
      have hl12 := (wishB_iff.1 (serveB_iff.1 hs).1).1
      have HLO := hid (hasty_long hs)
      have HSE := hid (fun k (hk : k < l.length) => hasty_serve HSV.out hk)
      have HSL := hid (show (serveL (hasty l) m).length = l.length by rw [serve_all (hasty_ok hs), hasty_len])
      have HOKS := hid (fun k (hk : k < l.length) => (show 0 ≤ l[k].a ∧ l[k].a ≤ 1000 from ⟨(Wi.ok_iff.1 (ok_of hk (serveB_iff.1 HSV.out).1)).1, (Wi.ok_iff.1 (ok_of hk (serveB_iff.1 HSV.out).1)).2.1⟩))
      clear hs hV
      go_wp2_with fail
      refine (iCountServed_any A c l m _ dl.sees dl.n4').mono ?_
      rintro e w2 ⟨he, hb⟩
      rw [E.out] at he
      subst he
      replace dl := dl.below hb
      clear hb
      go_wp2_with fail
      refine (sCountServed_any A c l m _ dl.sees dl.n4').mono ?_
      rintro e w2 ⟨he, hb⟩
      rw [E.out] at he
      subst he
      replace dl := dl.below hb
      clear hb
      obtain ⟨T, hT⟩ : ∃ T, T = serveL (hasty l) m := ⟨_, rfl⟩
      have ET : Hid (serveL (hasty l) m = T) := hid hT.symm
      rw [← hT] at HSE HSL
      clear hT
      obtain ⟨i0, hi0, hz0, hz1, hz2⟩ := info_parts wishInfo
      obtain ⟨w3, hw3⟩ : ∃ w3, w3 = w2 := ⟨_, rfl⟩
      subst hw3
      have ho0 : OwnS 30 3 wcells (w3.alloc (.cells #[] 30)) w3.heap.size (.slice (some ⟨w3.heap.size, 0, none⟩) 0 0) (hasty (l.take 0)) := OwnS.made w3 (Nat.le_refl _)
      have hb0 : Below w3.heap.size w3 (w3.alloc (.cells #[] 30)) := (Below.refl _ _).alloc (Nat.le_refl _) _
      go_wp2
      go_loopw [6, 7] (fun v i wr => ∃ k : Nat, k ≤ l.length ∧ i = .int .i64 k ∧ OwnS 30 3 wcells wr w3.heap.size v (hasty (l.take k)) ∧ Below w3.heap.size w3 wr) (fun _ i _ => l.length - (intOf i).toNat)
      case atStart => exact ⟨0, Nat.zero_le _, rfl, ho0, hb0⟩
      case round =>
        clear ho0 hb0
        obtain ⟨k, hk, rfl, ho, hb⟩ := hrel
        have hdl := dl.below hb
        by_cases hlt : k < l.length
        · skip
          have hi : (k : Int) < (l.length : Int) := by omega
          obtain ⟨b, o, rfl, hbl, e0, e1, e2⟩ := (dl.sees.below hb).wish hlt
          have HT : Hid (hasty (l.take (k + 1)) = hasty (l.take k) ++ [⟨l[k].a, l[k].h, 0⟩]) := hid (hasty_succ hlt)
          have HKL : Hid ((hasty (l.take k)).length = k) := hid (by simp [hasty]; omega)
          have hok := HOKS.out k hlt
          obtain ⟨x, hx⟩ : ∃ x, x = l[k] := ⟨_, rfl⟩
          rw [← hx] at e0 e1 e2 HT hok
          obtain ⟨ok1, ok2⟩ := hok
          clear hx
          have hz := hb.size
          have hk0 : (0 : Int) ≤ (k : Int) := by omega
          have hown := hid (show wr.drew.ownsRow w3.heap.size 30 3 _ k (strip wcells (hasty (l.take k))) by have h1 := ho.out; rw [HKL.out] at h1; exact h1)
          clear ho
          go_wp2_with fail
          go_region_held_law (fun w' => w'.cell? ⟨b, o + k * 3, none⟩ = some (.int .i64 x.a) ∧ w'.cell? ⟨b, o + k * 3 + 1, none⟩ = some (.int .i64 x.h))
            (first | with_reducible exact ⟨e0, e1⟩ | with_reducible exact ⟨p0, p1⟩ | go_keep)
            (first
            | (refine step_append_own _ (by rfl) _ _ 23 (by rfl) w3.heap.size 30 i0 (.agg #[.int .i64 0, .int .i64 0, .int .i64 0]) 3 24 Try.underlying23 hi0 hz0 hz1 hz2 rfl (by decide) _ k (strip wcells (hasty (l.take k))) (by rfl) (own_alloc hown.out _) ⟨wr.heap.size, 0, none⟩ 1 1 [.int .i64 x.a, .int .i64 x.h, .int .i64 0] (by rfl) (by rfl) (by first | exact cells_new wr.drew _ _ | exact (At.newAt 30 _ rfl).drew.news) (by simp [Value.oneCell']) (by unfold maxLen; omega) (by omega) (by simp; omega) ?_; intro v2 w4 h2 hg2; have hbx : Below w3.heap.size wr w4 := ((Below.refl _ _).drew.alloc (by simpa using hz) _).grown hg2 (by simp; omega) (fun q hq => (hown.out.lt q hq).1); have p0 := ((below_cell hbx).1 b (o + k * 3) hbl).trans e0; have p1 := ((below_cell hbx).1 b (o + k * 3 + 1) hbl).trans e1)
            | fail)
          all_goals
            have ho2 : OwnS 30 3 wcells w4 w3.heap.size v2 (hasty (l.take (k + 1))) := by
              rw [HT.out]
              unfold OwnS
              rw [List.length_append, HKL.out, strip_snoc]
              exact h2
            have hb2 : Below w3.heap.size w3 w4 := hb.trans hbx
            clear h2 hg2 hbx p0 p1
            go_wp2
            go_roundw
            case rel => exact ⟨k + 1, by omega, by go_num, ho2, hb2⟩
            case measure => simp [intOf]; omega
        · skip
          have hi : ¬ (k : Int) < (l.length : Int) := by omega
          rw [take_whole hlt] at ho
          obtain ⟨A4, c4, hv4, hc4, _, hs4⟩ := ho.form
          have hl4 := hid (hasty_len l)
          rw [hl4.out] at hv4 hc4
          subst hv4
          go_wp2_with fail
          refine (iServeTimes_len hl4.out hs4 (by rw [hl4.out]; omega)).mono ?_
          rintro e w5 ⟨v5, rfl, ho5, hb5⟩
          rw [ET.out] at ho5
          have hdl5 := hdl.below hb5
          have hs5 := (hs4.below hb5).more hb5.size
          clear hs4
          obtain ⟨A5, c5, rfl, hs6⟩ := ho5.form
          have hTl : T.length = l.length := HSL.out
          go_wp2
          go_loopw [9] (fun i wr => ∃ j : Nat, j ≤ T.length ∧ i = .int .i64 j ∧ ∃ d, wr = w5.drewN d) (fun i _ => T.length - (intOf i).toNat)
          case atStart => exact ⟨0, Nat.zero_le _, rfl, 0, rfl⟩
          case round =>
            obtain ⟨j, hj, rfl, d, rfl⟩ := hrel
            have HTL := hid hTl
            have hT13 : T.length ≤ 13 := by omega
            by_cases hjt : j < T.length
            · skip
              have hji : (j : Int) < (T.length : Int) := by omega
              have hjl : j < l.length := by omega
              have hji2 : (j : Int) < (l.length : Int) := by omega
              have hj0 : (0 : Int) ≤ (j : Int) := by omega
              obtain ⟨b, o, rfl, _, e0⟩ := hs6.int hjt
              obtain ⟨b2, o2, rfl, _, f0, _, _⟩ := hs5.wish (show j < (hasty l).length by rw [hl4.out]; exact hjl)
              rw [hasty_at hjl] at f0
              obtain ⟨t, ht, hx⟩ := HSE.out j hjl
              rw [List.getElem?_eq_getElem hjt] at ht
              injection ht with ht
              rw [ht] at e0
              obtain ⟨x, hx2⟩ : ∃ x, x = l[j].a := ⟨_, rfl⟩
              simp only [] at f0
              rw [← hx2] at f0 hx
              have HJA := hid (show 0 ≤ x by rw [hx2]; exact (HOKS.out j hjl).1)
              clear ht hx2 hTl
              rcases hx with hx | hx
              · skip
                have hne : (t != -1) = false := by simp [hx]
                have HX := hid hx
                clear hx
                go_wp2
                go_quiet (fail)
                go_wp2
                go_roundw
                case rel => exact ⟨j + 1, by omega, by go_num, _, rfl⟩
                case measure => simp [intOf]; omega
              · skip
                subst hx
                have hne : (t != -1) = true := by have := HJA.out; simp; omega
                go_wp2
                go_quiet (fail)
                go_wp2
                go_roundw
                case rel => exact ⟨j + 1, by omega, by go_num, _, rfl⟩
                case measure => simp [intOf]; omega
            · skip
              have hji : ¬ (j : Int) < (T.length : Int) := by omega
              have hji2 : ¬ (j : Int) < (l.length : Int) := by omega
              have hlb : ((T.length : Int) == (l.length : Int)) = true := by rw [HTL.out]; simp
              clear hTl
              go_wp2_with fail
              refine (iLongestWait_len (m := m) hl4.out (show Sees (w5.drewN d) (w5.drewN d).heap.size A4 (strip wcells (hasty l)) from hs5.drewN d) (by rw [hl4.out]; omega)).mono ?_
              rintro e w6 ⟨he, hb6⟩
              rw [HLO.out] at he
              subst he
              go_wp2
              go_ret
              exact ⟨by simp, ((hdl5.drewN d).below hb6).bel⟩
end Go.Proofs.Ytolcnokmdohbaab

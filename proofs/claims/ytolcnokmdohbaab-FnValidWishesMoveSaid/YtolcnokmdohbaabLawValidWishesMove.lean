/-
  The walk of the law FnValidWishesMove: at every code it returns true and changes nothing that was there. Conditions: none.
-/
import Derived.Test.YtolcnokmdohbaabLawWi
import Derived.Test.YtolcnokmdohbaabLawFrame
import Derived.BigQuiet
import Derived.Deep.RegionHeldLaw
namespace Go.Proofs.Ytolcnokmdohbaab
open Go.RowKit Wis

set_option maxHeartbeats 8000000 in
theorem walkValidWishesMove (a : Option Addr) (len cap : Nat) (zs : List Int) (w : World) (hn : zs.length = len) (hc : len ≤ cap) (hcc : cap ≤ maxLen) (h : Sees w w.heap.size a (byts zs)) (hz : ∀ y ∈ zs, 0 ≤ y ∧ y ≤ 255) :
    Calls Try.prog 8 #[.slice a len cap] w fun e w' => e = .returned (.bool true) ∧ Below w.heap.size w w' := by
  have HE := hid hn
  have HC := hid hcc
  have HZ := hid hz
  clear hn hcc hz
  by_cases hbig : 1048576 < len
  · go_enter Try.func8, Try.ntmps8
    go_wp2
    go_ret
    exact ⟨rfl, Below.refl _ _⟩
  · go_enter Try.func8, Try.ntmps8
    go_wp2_with fail
    refine (drawValidWishes_any _ _ _ _ _ h HZ.out HE.out hc (by omega) HC.out).mono ?_
    rintro e w1 ⟨A, c, l, rfl, dl⟩
    have hl13 := dl.len
    rcases hv : wishB l with _ | _
    · skip
      have HV := hid hv
      clear hv
      go_wp2_with fail
      refine (iValidWishes_any A c l _ dl.sees dl.n4').mono ?_
      rintro e w2 ⟨he, hb⟩
      rw [HV.out] at he
      subst he
      replace dl := dl.below hb
      clear hb
      go_wp2_with fail
      refine (sValidWishes_any A c l _ dl.sees dl.n4').mono ?_
      rintro e w2 ⟨he, hb⟩
      rw [HV.out] at he
      subst he
      replace dl := dl.below hb
      clear hb
      go_wp2_with fail
      refine (sValidWishes_any A c l _ dl.sees dl.n4').mono ?_
      rintro e w2 ⟨he, hb⟩
      rw [HV.out] at he
      subst he
      replace dl := dl.below hb
      clear hb
      go_wp2
      go_ret
      exact ⟨by simp, dl.bel⟩
    · skip
      have HV := hid hv
      clear hv
      go_wp2_with fail
      refine (iValidWishes_any A c l _ dl.sees dl.n4').mono ?_
      rintro e w2 ⟨he, hb⟩
      rw [HV.out] at he
      subst he
      replace dl := dl.below hb
      clear hb
      go_wp2_with fail
      refine (sValidWishes_any A c l _ dl.sees dl.n4').mono ?_
      rintro e w2 ⟨he, hb⟩
      rw [HV.out] at he
      subst he
      replace dl := dl.below hb
      clear hb
      by_cases hl0 : l.length = 0
      · skip
        have hlb : ((l.length : Int) == 0) = true := by simpa using hl0
        have HL0 := hid hl0
        clear hl0
        go_wp2_with fail
        refine (sValidWishes_any A c l _ dl.sees dl.n4').mono ?_
        rintro e w2 ⟨he, hb⟩
        rw [HV.out] at he
        subst he
        replace dl := dl.below hb
        clear hb
        go_wp2
        go_ret
        exact ⟨by simp, dl.bel⟩
      · skip
        have hlb : ((l.length : Int) == 0) = false := beq_eq_false_iff_ne.2 (by omega)
        obtain ⟨n, hn⟩ : ∃ n, l.length = n + 1 := ⟨l.length - 1, by omega⟩
        have q0 : (l.length : Int) - 1 = (n : Int) := by omega
        have q1 : (0 : Int) ≤ (n : Int) := by omega
        have q2 : (n : Int) < (l.length : Int) := by omega
        have q3 : IntKind.i64.wrap ((l.length : Int) - 1) = (n : Int) := by rw [q0, IntKind.wrap_i64]; omega
        have hnl : n < l.length := by omega
        have HLM := hid (fun hh => last_one HV.out hn hnl hh)
        obtain ⟨b, o, rfl, hbl, e0, _, _⟩ := dl.sees.wish hnl
        obtain ⟨y, hy⟩ : ∃ y, y = l[n].a := ⟨_, rfl⟩
        rw [← hy] at e0 HLM
        have HN := hid hn
        clear hy hn
        rcases hyb : (y == 1000) with _ | _
        · skip
          have HLT := hid (HLM.out (by simpa using hyb))
          have HVS := hid (wish_later HV.out HLT.out)
          have HOKS := hid (fun k (hk : k < l.length) => (show 0 ≤ l[k].a ∧ l[k].a < 1000 from ⟨(Wi.ok_iff.1 (ok_of hk HV.out)).1, HLT.out _ (List.getElem_mem hk)⟩))
          obtain ⟨i0, hi0, hz0, hz1, hz2⟩ := info_parts wishInfo
          obtain ⟨w3, hw3⟩ : ∃ w3, w3 = w2 := ⟨_, rfl⟩
          subst hw3
          have ho0 : OwnS 30 3 wcells (w3.alloc (.cells #[] 30)) w3.heap.size (.slice (some ⟨w3.heap.size, 0, none⟩) 0 0) (later (l.take 0)) := OwnS.made w3 (Nat.le_refl _)
          have hb0 : Below w3.heap.size w3 (w3.alloc (.cells #[] 30)) := (Below.refl _ _).alloc (Nat.le_refl _) _
          go_wp2
          go_loopw [5, 6] (fun v i wr => ∃ k : Nat, k ≤ l.length ∧ i = .int .i64 k ∧ OwnS 30 3 wcells wr w3.heap.size v (later (l.take k)) ∧ Below w3.heap.size w3 wr) (fun _ i _ => l.length - (intOf i).toNat)
          case atStart => exact ⟨0, Nat.zero_le _, rfl, ho0, hb0⟩
          case round =>
            clear ho0 hb0
            obtain ⟨k, hk, rfl, ho, hb⟩ := hrel
            have hdl := dl.below hb
            by_cases hlt : k < l.length
            · skip
              have hi : (k : Int) < (l.length : Int) := by omega
              obtain ⟨b9, o9, hA, hbl, e0, e1, e2⟩ := (dl.sees.below hb).wish hlt
              obtain ⟨rfl, rfl⟩ : b = b9 ∧ o = o9 := by injection hA with hA; injection hA with a b; exact ⟨a, b⟩
              have HT : Hid (later (l.take (k + 1)) = later (l.take k) ++ [⟨l[k].a + 1, l[k].h, l[k].p⟩]) := hid (by unfold later; rw [List.take_succ_eq_append_getElem hlt, List.map_append]; rfl)
              have HKL : Hid ((later (l.take k)).length = k) := hid (by simp [later]; omega)
              have hok := HOKS.out k hlt
              obtain ⟨x, hx⟩ : ∃ x, x = l[k] := ⟨_, rfl⟩
              rw [← hx] at e0 e1 e2 HT hok
              obtain ⟨ok1, ok2⟩ := hok
              clear hx
              have hz := hb.size
              have hk0 : (0 : Int) ≤ (k : Int) := by omega
              have hw1 : IntKind.i64.wrap (x.a + 1) = x.a + 1 := by rw [IntKind.wrap_i64]; omega
              have hown := hid (show wr.drew.ownsRow w3.heap.size 30 3 _ k (strip wcells (later (l.take k))) by have h1 := ho.out; rw [HKL.out] at h1; exact h1)
              clear ho
              go_wp2_with fail
              go_region_held_law (fun w' => w'.cell? ⟨b, o + k * 3, none⟩ = some (.int .i64 x.a) ∧ w'.cell? ⟨b, o + k * 3 + 1, none⟩ = some (.int .i64 x.h) ∧ w'.cell? ⟨b, o + k * 3 + 2, none⟩ = some (.int .i64 x.p))
                (first | with_reducible exact ⟨e0, e1, e2⟩ | with_reducible exact ⟨p0, p1, p2⟩ | go_keep)
                (first
                | (refine step_append_own _ (by rfl) _ _ 23 (by rfl) w3.heap.size 30 i0 (.agg #[.int .i64 0, .int .i64 0, .int .i64 0]) 3 24 Try.underlying23 hi0 hz0 hz1 hz2 rfl (by decide) _ k (strip wcells (later (l.take k))) (by rfl) (own_alloc hown.out _) ⟨wr.heap.size, 0, none⟩ 1 1 [.int .i64 (x.a + 1), .int .i64 x.h, .int .i64 x.p] (by rfl) (by rfl) (by first | exact cells_new wr.drew _ _ | exact (At.newAt 30 _ rfl).drew.news) (by simp [Value.oneCell']) (by unfold maxLen; omega) (by omega) (by simp; omega) ?_; intro v2 w4 h2 hg2; have hbx : Below w3.heap.size wr w4 := ((Below.refl _ _).drew.alloc (by simpa using hz) _).grown hg2 (by simp; omega) (fun q hq => (hown.out.lt q hq).1); have p0 := ((below_cell hbx).1 b (o + k * 3) hbl).trans e0; have p1 := ((below_cell hbx).1 b (o + k * 3 + 1) hbl).trans e1; have p2 := ((below_cell hbx).1 b (o + k * 3 + 2) hbl).trans e2)
                | fail)
              all_goals
                have ho2 : OwnS 30 3 wcells w4 w3.heap.size v2 (later (l.take (k + 1))) := by
                  rw [HT.out]
                  unfold OwnS
                  rw [List.length_append, HKL.out, strip_snoc]
                  exact h2
                have hb2 : Below w3.heap.size w3 w4 := hb.trans hbx
                clear h2 hg2 hbx p0 p1 p2
                go_wp2
                go_roundw
                case rel => exact ⟨k + 1, by omega, by go_num, ho2, hb2⟩
                case measure => simp [intOf]; omega
            · skip
              have hi : ¬ (k : Int) < (l.length : Int) := by omega
              rw [take_whole hlt] at ho
              obtain ⟨A4, c4, hv4, hc4, _, hs4⟩ := ho.form
              have hl4 := hid (show (later l).length = l.length by simp [later])
              rw [hl4.out] at hv4
              subst hv4
              go_wp2_with fail
              refine (iValidWishes_len hl4.out hs4 (by rw [hl4.out]; omega)).mono ?_
              rintro e w5 ⟨he, hb5⟩
              rw [HVS.out] at he
              subst he
              go_wp2
              go_ret
              exact ⟨rfl, (hdl.below hb5).bel⟩
        · skip
          go_wp2_with fail
          refine (sValidWishes_any (some ⟨b, o, none⟩) c l _ dl.sees dl.n4').mono ?_
          rintro e w2 ⟨he, hb⟩
          rw [HV.out] at he
          subst he
          replace dl := dl.below hb
          clear hb
          go_wp2
          go_ret
          exact ⟨by simp, dl.bel⟩
end Go.Proofs.Ytolcnokmdohbaab

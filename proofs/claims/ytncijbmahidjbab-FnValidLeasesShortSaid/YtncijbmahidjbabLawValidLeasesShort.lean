/-
  The walk of the law FnValidLeasesShort: at every code it returns true and changes nothing that was there. Conditions: none.
-/
import Derived.Test.YtncijbmahidjbabLsDraw
import Derived.Test.YtncijbmahidjbabLsD
import Derived.Test.YtncijbmahidjbabLeaseMathB
import Derived.Test.YtncijbmahidjbabLawFrame
import Derived.BigQuiet
import Derived.Deep.RegionHeldLaw
namespace Go.Proofs.Ytncijbmahidjbab
open Go.RowKit Lse

set_option maxHeartbeats 4000000 in
theorem walkValidLeasesShort (a : Option Addr) (len cap : Nat) (zs : List Int) (w : World) (hn : zs.length = len) (hc : len ≤ cap) (hcc : cap ≤ maxLen) (h : Sees w w.heap.size a (byts zs)) (hz : ∀ y ∈ zs, 0 ≤ y ∧ y ≤ 255) :
    Calls Try.prog 4 #[.slice a len cap] w fun e w' => e = .returned (.bool true) ∧ Below w.heap.size w w' := by
  have HE := hid hn
  have HC := hid hcc
  have HZ := hid hz
  clear hn hcc hz
  by_cases hbig : 1048576 < len
  · go_enter Try.func4, Try.ntmps4
    go_wp2
    go_ret
    exact ⟨rfl, Below.refl _ _⟩
  · go_enter Try.func4, Try.ntmps4
    go_wp2_with fail
    refine (drawValidLeases_any _ _ _ _ _ h HZ.out HE.out hc (by omega) HC.out).mono ?_
    rintro e w1 ⟨A, c, l, rfl, dl⟩
    obtain ⟨i0, hi0, hz0, hz1, hz2⟩ := info_parts leaseInfo
    rcases hv : validB l with _ | _
    · have HV := hid hv
      clear hv
      go_wp2_with fail
      refine (iValidLeases_any A c l _ dl.sees dl.2.2.2 (Nat.le_trans dl.2.2.1 (by decide))).mono ?_
      rintro e w2 ⟨he, hb⟩
      rw [HV.out] at he
      subst he
      replace dl := dl.below hb
      clear hb
      go_wp2_with fail
      refine (sValidLeases_any A c l _ dl.sees (Nat.le_trans dl.2.2.1 (by decide))).mono ?_
      rintro e w2 ⟨he, hb⟩
      rw [HV.out] at he
      subst he
      replace dl := dl.below hb
      clear hb
      go_wp2_with fail
      refine (sValidLeases_any A c l _ dl.sees (Nat.le_trans dl.2.2.1 (by decide))).mono ?_
      rintro e w2 ⟨he, hb⟩
      rw [HV.out] at he
      subst he
      replace dl := dl.below hb
      clear hb
      go_wp2
      go_ret
      exact ⟨rfl, dl.bel⟩
    · have HV := hid hv
      have HVS := hid (short_valid hv)
      have hl12 := valid_len hv
      clear hv
      go_wp2_with fail
      refine (iValidLeases_any A c l _ dl.sees dl.2.2.2 (by omega)).mono ?_
      rintro e w2 ⟨he, hb⟩
      rw [HV.out] at he
      subst he
      replace dl := dl.below hb
      clear hb
      go_wp2_with fail
      refine (sValidLeases_any A c l _ dl.sees (by omega)).mono ?_
      rintro e w3 ⟨he, hb⟩
      rw [HV.out] at he
      subst he
      replace dl := dl.below hb
      clear hb
      have ho0 : OwnL (w3.alloc (.cells #[] 28)) w3.heap.size (.slice (some ⟨w3.heap.size, 0, none⟩) 0 0) [] := OwnS.made w3 (Nat.le_refl _)
      have hb0 := (Below.refl w3.heap.size w3).alloc (Nat.le_refl _) (.cells #[] 28)
      go_wp2
      go_loopw [5, 6] (fun v i wr => ∃ k : Nat, k ≤ l.length ∧ i = .int .i64 k ∧ OwnL wr w3.heap.size v ((l.take k).map L.short) ∧ Below w3.heap.size w3 wr) (fun _ i _ => l.length - (intOf i).toNat)
      case atStart => exact ⟨0, Nat.zero_le _, rfl, ho0, hb0⟩
      case round =>
        clear ho0 hb0
        obtain ⟨k, hk, rfl, ho, hb⟩ := hrel
        have hdl := dl.below hb
        by_cases hlt : k < l.length
        · have hi : (k : Int) < (l.length : Int) := by omega
          obtain ⟨b, o, rfl, hbl, e0, e1, e2, e3⟩ := (dl.sees.below hb).lease hlt
          have hok := L.ok_iff.1 (ok_of hlt HV.out)
          have HT : Hid ((l.take (k + 1)).map L.short = (l.take k).map L.short ++ [L.short l[k]]) := hid (by rw [List.take_succ_eq_append_getElem hlt, List.map_append]; rfl)
          have HKL : Hid (((l.take k).map L.short).length = k) := hid (by simp; omega)
          obtain ⟨x, hx⟩ : ∃ x, x = l[k] := ⟨_, rfl⟩
          rw [← hx] at e0 e1 e2 e3 HT hok
          clear hx
          obtain ⟨_, _, _, _, g5, g6, g7⟩ := hok
          have hw1 : IntKind.i64.wrap (x.f + 1) = x.f + 1 := by rw [IntKind.wrap_i64]; omega
          have hz := hb.size
          have hown := hid (show wr.drew.ownsRow w3.heap.size 28 4 _ k (strip lcells ((l.take k).map L.short)) by have h1 := ho.out; rw [HKL.out] at h1; exact h1)
          clear ho
          go_wp2_with fail
          go_region_held_law (fun w' => w'.cell? ⟨b, o + k * 4, none⟩ = some (.int .i64 x.c) ∧ w'.cell? ⟨b, o + k * 4 + 1, none⟩ = some (.int .i64 x.o) ∧ w'.cell? ⟨b, o + k * 4 + 2, none⟩ = some (.int .i64 x.f))
            (first | with_reducible exact ⟨e0, e1, e2⟩ | with_reducible exact ⟨p0, p1, p2⟩ | go_keep)
            (first
            | (refine step_append_own _ (by rfl) _ _ 23 (by rfl) w3.heap.size 28 i0 (.agg #[.int .i64 0, .int .i64 0, .int .i64 0, .int .i64 0]) 4 32 Try.underlying23 hi0 hz0 hz1 hz2 rfl (by decide) _ k (strip lcells ((l.take k).map L.short)) (by rfl) (own_alloc hown.out _) ⟨wr.heap.size, 0, none⟩ 1 1 [.int .i64 x.c, .int .i64 x.o, .int .i64 x.f, .int .i64 (x.f + 1)] (by rfl) (by rfl) (by first | exact cells_new wr.drew _ _ | exact (At.newAt 28 _ rfl).drew.news) (by simp [Value.oneCell']) (by unfold maxLen; omega) (by omega) (by simp; omega) ?_; intro v2 w4 h2 hg2; have hbx : Below w3.heap.size wr w4 := ((Below.refl _ _).drew.alloc (by simpa using hz) _).grown hg2 (by simp; omega) (fun q hq => (hown.out.lt q hq).1); have p0 := ((below_cell hbx).1 b (o + k * 4) hbl).trans e0; have p1 := ((below_cell hbx).1 b (o + k * 4 + 1) hbl).trans e1; have p2 := ((below_cell hbx).1 b (o + k * 4 + 2) hbl).trans e2)
            | fail)
          all_goals
            have ho2 : OwnL w4 w3.heap.size v2 ((l.take (k + 1)).map L.short) := by
              rw [HT.out]
              unfold OwnL OwnS
              rw [List.length_append, HKL.out, strip_snoc]
              exact h2
            have hb2 : Below w3.heap.size w3 w4 := hb.trans hbx
            clear h2 hg2 hw1 hbx p0 p1 p2
            go_wp2
            go_roundw
            case rel => exact ⟨k + 1, by omega, by go_num, ho2, hb2⟩
            case measure => simp [intOf]; omega
        · have hi : ¬ (k : Int) < (l.length : Int) := by omega
          rw [take_whole hlt] at ho
          obtain ⟨A4, c4, rfl, hc4, _, hs4⟩ := ho.form
          have hl4 := hid (show (l.map L.short).length = l.length by simp)
          rw [hl4.out] at hc4
          go_wp2_with fail
          refine (iValidLeases_len hl4.out hs4 (by rw [hl4.out]; exact hc4) (by rw [hl4.out]; omega)).mono ?_
          rintro e w5 ⟨he, hb5⟩
          rw [HVS.out] at he
          subst he
          go_wp2
          go_ret
          exact ⟨rfl, (hdl.below hb5).bel⟩
end Go.Proofs.Ytncijbmahidjbab

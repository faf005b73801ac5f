/-
  The walk of the law FnValidAgesTouch: at every code it returns true and changes nothing that was there. Conditions: none.
-/
import Derived.Test.YtlonmmkioaejmabAgGen
import Derived.Test.YtlonmmkioaejmabAgC
import Derived.Test.YtlonmmkioaejmabAgeMathB
import Derived.Test.YtlonmmkioaejmabLawAg
import Derived.Test.YtlonmmkioaejmabLawFrame
import Derived.BigQuiet
import Derived.Deep.RegionHeldLaw
namespace Go.Proofs.Ytlonmmkioaejmab
open Go.RowKit Age

set_option maxHeartbeats 4000000 in
theorem walkValidAgesTouch (a : Option Addr) (len cap : Nat) (zs : List Int) (w : World) (hn : zs.length = len) (hc : len ≤ cap) (hcc : cap ≤ maxLen) (h : Sees w w.heap.size a (byts zs)) (hz : ∀ y ∈ zs, 0 ≤ y ∧ y ≤ 255) :
    Calls Try.prog 5 #[.slice a len cap] w fun e w' => e = .returned (.bool true) ∧ Below w.heap.size w w' := by
  have HE := hid hn
  have HC := hid hcc
  have HZ := hid hz
  clear hn hcc hz
  by_cases hbig : 1048576 < len
  · go_enter Try.func5, Try.ntmps5
    go_wp2
    go_ret
    exact ⟨rfl, Below.refl _ _⟩
  · go_enter Try.func5, Try.ntmps5
    go_wp2_with fail
    refine (drawValidAges_any _ _ _ _ _ h HZ.out HE.out hc (by omega) HC.out).mono ?_
    rintro e w1 ⟨A, c, l, rfl, dl⟩
    obtain ⟨i0, hi0, hz0, hz1, hz2⟩ := info_parts ageInfo
    rcases hv : agesB l with _ | _
    · have HV := hid hv
      clear hv
      go_wp2_with fail
      refine (iValidAges_any A c l _ dl.sees (dl.n4 (by decide))).mono ?_
      rintro e w2 ⟨he, hb⟩
      rw [HV.out] at he
      subst he
      replace dl := dl.below hb
      clear hb
      go_wp2_with fail
      refine (sValidAges_any A c l _ dl.sees (dl.n4 (by decide))).mono ?_
      rintro e w2 ⟨he, hb⟩
      rw [HV.out] at he
      subst he
      replace dl := dl.below hb
      clear hb
      go_wp2_with fail
      refine (sValidAges_any A c l _ dl.sees (dl.n4 (by decide))).mono ?_
      rintro e w2 ⟨he, hb⟩
      rw [HV.out] at he
      subst he
      replace dl := dl.below hb
      clear hb
      go_wp2
      go_ret
      exact ⟨rfl, dl.bel⟩
    · have HV := hid hv
      have hl6 := (agesB_iff.1 hv).1
      clear hv
      go_wp2_with fail
      refine (iValidAges_any A c l _ dl.sees (dl.n4 (by decide))).mono ?_
      rintro e w2 ⟨he, hb⟩
      rw [HV.out] at he
      subst he
      replace dl := dl.below hb
      clear hb
      go_wp2_with fail
      refine (sValidAges_any A c l _ dl.sees (dl.n4 (by decide))).mono ?_
      rintro e w3 ⟨he, hb⟩
      rw [HV.out] at he
      subst he
      replace dl := dl.below hb
      clear hb
      have HVS := hid (fresh_ages HV.out)
      have ho0 : OwnS 31 2 acells (w3.alloc (.cells #[] 31)) w3.heap.size (.slice (some ⟨w3.heap.size, 0, none⟩) 0 0) [] := OwnS.made w3 (Nat.le_refl _)
      have hb0 := (Below.refl w3.heap.size w3).alloc (Nat.le_refl _) (.cells #[] 31)
      go_wp2
      go_loopw [5, 6] (fun v i wr => ∃ k : Nat, k ≤ l.length ∧ i = .int .i64 k ∧ OwnS 31 2 acells wr w3.heap.size v ((l.take k).map Ag.fresh) ∧ Below w3.heap.size w3 wr) (fun _ i _ => l.length - (intOf i).toNat)
      case atStart => exact ⟨0, Nat.zero_le _, rfl, ho0, hb0⟩
      case round =>
        clear ho0 hb0
        obtain ⟨k, hk, rfl, ho, hb⟩ := hrel
        have hdl := dl.below hb
        by_cases hlt : k < l.length
        · have hi : (k : Int) < (l.length : Int) := by omega
          obtain ⟨b, o, rfl, hbl, e0, e1⟩ := (dl.sees.below hb).age hlt
          have HT : Hid ((l.take (k + 1)).map Ag.fresh = (l.take k).map Ag.fresh ++ [Ag.fresh l[k]]) := hid (by rw [List.take_succ_eq_append_getElem hlt, List.map_append]; rfl)
          have HKL : Hid (((l.take k).map Ag.fresh).length = k) := hid (by simp; omega)
          obtain ⟨x, hx⟩ : ∃ x, x = l[k] := ⟨_, rfl⟩
          rw [← hx] at e0 e1 HT
          clear hx
          have hz := hb.size
          have hown := hid (show wr.drew.ownsRow w3.heap.size 31 2 _ k (strip acells ((l.take k).map Ag.fresh)) by have h1 := ho.out; rw [HKL.out] at h1; exact h1)
          clear ho
          go_wp2_with fail
          go_region_held_law (fun w' => w'.cell? ⟨b, o + k * 2, none⟩ = some (.int .i64 x.b))
            (first | with_reducible exact e0 | with_reducible exact p0 | go_keep)
            (first
            | (refine step_append_own _ (by rfl) _ _ 27 (by rfl) w3.heap.size 31 i0 (.agg #[.int .i64 0, .int .i64 0]) 2 16 Try.underlying27 hi0 hz0 hz1 hz2 rfl (by decide) _ k (strip acells ((l.take k).map Ag.fresh)) (by rfl) (own_alloc hown.out _) ⟨wr.heap.size, 0, none⟩ 1 1 [.int .i64 x.b, .int .i64 x.b] (by rfl) (by rfl) (by first | exact cells_new wr.drew _ _ | exact (At.newAt 31 _ rfl).drew.news) (by simp [Value.oneCell']) (by unfold maxLen; omega) (by omega) (by simp; omega) ?_; intro v2 w4 h2 hg2; have hbx : Below w3.heap.size wr w4 := ((Below.refl _ _).drew.alloc (by simpa using hz) _).grown hg2 (by simp; omega) (fun q hq => (hown.out.lt q hq).1); have p0 := ((below_cell hbx).1 b (o + k * 2) hbl).trans e0)
            | fail)
          all_goals
            have ho2 : OwnS 31 2 acells w4 w3.heap.size v2 ((l.take (k + 1)).map Ag.fresh) := by
              rw [HT.out]
              unfold OwnS
              rw [List.length_append, HKL.out, strip_snoc]
              exact h2
            have hb2 : Below w3.heap.size w3 w4 := hb.trans hbx
            clear h2 hg2 hbx p0
            go_wp2
            go_roundw
            case rel => exact ⟨k + 1, by omega, by go_num, ho2, hb2⟩
            case measure => simp [intOf]; omega
        · have hi : ¬ (k : Int) < (l.length : Int) := by omega
          rw [take_whole hlt] at ho
          obtain ⟨A4, c4, rfl, hc4, _, hs4⟩ := ho.form
          have hl4 := hid (show (l.map Ag.fresh).length = l.length by simp)
          go_wp2_with fail
          refine (iValidAges_len hl4.out hs4 (by rw [hl4.out]; omega)).mono ?_
          rintro e w5 ⟨he, hb5⟩
          rw [HVS.out] at he
          subst he
          go_wp2
          go_ret
          exact ⟨rfl, (hdl.below hb5).bel⟩
end Go.Proofs.Ytlonmmkioaejmab

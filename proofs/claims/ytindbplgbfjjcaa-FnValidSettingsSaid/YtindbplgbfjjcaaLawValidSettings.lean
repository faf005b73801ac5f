/-
  The walk of the law FnValidSettings: at every code it returns true and changes nothing that was there. Conditions: none.
-/
import Derived.Test.YtindbplgbfjjcaaLawSt
import Derived.Test.YtindbplgbfjjcaaLawFrame
import Derived.BigQuiet
import Derived.Deep.RegionHeldLaw
namespace Go.Proofs.Ytindbplgbfjjcaa
open Go.RowKit Stt

set_option maxHeartbeats 8000000 in
theorem walkValidSettings (a : Option Addr) (len cap : Nat) (zs : List Int) (w : World) (hn : zs.length = len) (hc : len ≤ cap) (hcc : cap ≤ maxLen) (h : Sees w w.heap.size a (byts zs)) (hz : ∀ y ∈ zs, 0 ≤ y ∧ y ≤ 255) :
    Calls Try.prog 7 #[.slice a len cap] w fun e w' => e = .returned (.bool true) ∧ Below w.heap.size w w' := by
  have HE := hid hn
  have HC := hid hcc
  have HZ := hid hz
  clear hn hcc hz
  by_cases hbig : 1048576 < len
  · go_enter Try.func7, Try.ntmps7
    go_wp2
    go_ret
    exact ⟨rfl, Below.refl _ _⟩
  · go_enter Try.func7, Try.ntmps7
    go_wp2_with fail
    refine (drawValidSettings_any _ _ _ _ _ h HZ.out HE.out hc (by omega) HC.out).mono ?_
    rintro e w1 ⟨A, c, l, rfl, dl⟩
    have hl11 := dl.len
    obtain ⟨i0, hi0, hz0, hz1, hz2⟩ := info_parts stgInfo
    rcases hv : setsB l with _ | _
    · skip
      have HV := hid hv
      clear hv
      go_wp2_with fail
      refine (iValidSettings_any A c l _ dl.sees dl.nT).mono ?_
      rintro e w2 ⟨he, hb⟩
      rw [HV.out] at he
      subst he
      replace dl := dl.below hb
      clear hb
      go_wp2_with fail
      refine (sValidSettings_any A c l _ dl.sees dl.nT).mono ?_
      rintro e w2 ⟨he, hb⟩
      rw [HV.out] at he
      subst he
      replace dl := dl.below hb
      clear hb
      go_wp2_with fail
      refine (sValidSettings_any A c l _ dl.sees dl.nT).mono ?_
      rintro e w2 ⟨he, hb⟩
      rw [HV.out] at he
      subst he
      replace dl := dl.below hb
      clear hb
      go_wp2
      go_ret
      exact ⟨by simp, dl.bel⟩
    · skip
      have HV := hid hv
      clear hv
      go_wp2_with fail
      refine (iValidSettings_any A c l _ dl.sees dl.nT).mono ?_
      rintro e w2 ⟨he, hb⟩
      rw [HV.out] at he
      subst he
      replace dl := dl.below hb
      clear hb
      go_wp2_with fail
      refine (sValidSettings_any A c l _ dl.sees dl.nT).mono ?_
      rintro e w2 ⟨he, hb⟩
      rw [HV.out] at he
      subst he
      replace dl := dl.below hb
      clear hb
      by_cases hl0 : l.length = 0
      · skip
        have hlb : ((l.length : Int) == 0) = true := by simpa using hl0
        have HL0 := hid hl0
        clear hl0
        go_wp2_with fail
        refine (sValidSettings_any A c l _ dl.sees dl.nT).mono ?_
        rintro e w2 ⟨he, hb⟩
        rw [HV.out] at he
        subst he
        replace dl := dl.below hb
        clear hb
        go_wp2
        go_ret
        exact ⟨by simp, dl.bel⟩
      · skip
        have hlb : ((l.length : Int) == 0) = false := beq_eq_false_iff_ne.2 (by omega)
        obtain ⟨w3, hw3⟩ : ∃ w3, w3 = w2 := ⟨_, rfl⟩
        subst hw3
        obtain ⟨k, hk⟩ : ∃ k, k = len % l.length := ⟨_, rfl⟩
        have hkl : k < l.length := by rw [hk]; exact Nat.mod_lt _ (by omega)
        have hmod1 : (len : Int) % (l.length : Int) = (k : Int) := by rw [hk]; rfl
        have hmod2 : (len : Int).tmod (l.length : Int) = (k : Int) := by rw [Int.tmod_eq_emod_of_nonneg (by omega)]; exact hmod1
        clear hk
        have hcap := dl.cap
        have hs3 := dl.sees
        obtain ⟨b, o, rfl, hbl, e0, e1⟩ := hs3.stg hkl
        clear e0 e1
        have hsT := stcl_take hs3 k
        have HL1 := hid (show (strip stcl (l.take k)).length = k * 2 by rw [strip_len stcl_len, List.length_take, Nat.min_eq_left (by omega)])
        have HL3 := hid (show (l.take k ++ l.drop (k + 1)).length = k + (l.length - (k + 1)) by simp; omega)
        have HX5 := hid (show [] ++ strip stcl (l.take k) ++ strip stcl (l.drop (k + 1)) = strip stcl (l.take k ++ l.drop (k + 1)) by rw [strip_app]; rfl)
        have HV1 := hid (sets_out HV.out k)
        have hl10i : (l.length : Int) ≤ 10 := by have := sets_len HV.out; omega
        have hkI : (k : Int) < (l.length : Int) := by omega
        have hkc : (k : Int) ≤ (c : Int) := by omega
        have hk0 : (0 : Int) ≤ (k : Int) := by omega
        have hk1c : (k : Int) + 1 ≤ (l.length : Int) := by omega
        have hlc : (l.length : Int) ≤ (c : Int) := by omega
        have hwk : IntKind.i64.wrap ((k : Int) + 1) = (k : Int) + 1 := by rw [IntKind.wrap_i64]; omega
        have HL2 := hid (show (strip stcl (l.drop (k + 1))).length = (l.length - (k + 1)) * 2 by rw [strip_len stcl_len, List.length_drop])
        by_cases hck : c = k + 1
        · skip
          have HD0 := hid (show strip stcl (l.drop (k + 1)) = [] by rw [List.drop_eq_nil_of_le (by omega)]; rfl)
          subst hck
          have HL5 := hid (show (l.take k ++ l.drop (k + 1)).length = k by rw [List.drop_eq_nil_of_le (by omega)]; simp; omega)
          go_wp2_with fail
          go_region_held_law (fun _ => True)
            (trivial)
            (first
              | (refine step_append_want _ (by rfl) _ _ 25 (by rfl) w3.heap.size 47 i0 (.agg #[.int .i64 0, .int .i64 0]) 2 16 Try.underlying25 hi0 hz0 hz1 hz2 rfl (by decide) (.slice (some ⟨w3.heap.size, 0, none⟩) 0 0) 0 [] (by rfl) (made_at 47 2 rfl (Nat.le_refl _)) ⟨b, o, none⟩ k (k + 1) (strip stcl (l.take k)) (by rfl) (HL1.out) (((hsT.alloc (Nat.le_refl _) _).drew).add) (stcl_one _) (by unfold maxLen; omega) (by omega) (by simp) ?_; intro v4 w4 h4 hg4; have hb4 : Below w3.heap.size w3 w4 := Below.grown (by go_grown) hg4 (by simp) (fun q hq => by injection hq with hq; exact Nat.le_of_eq hq))
              | (refine step_append_want _ (by rfl) _ _ 25 (by rfl) w3.heap.size 47 i0 (.agg #[.int .i64 0, .int .i64 0]) 2 16 Try.underlying25 hi0 hz0 hz1 hz2 rfl (by decide) v4 (0 + k) ([] ++ strip stcl (l.take k)) (by rfl) (h4) ⟨b, o, none⟩ 0 0 (strip stcl (l.drop (k + 1))) (by rfl) (by rw [HD0.out]; rfl) (by intro j u hu; rw [HD0.out] at hu; simp at hu) (stcl_one _) (by unfold maxLen; omega) (by omega) (hb4.size) ?_; intro v5 w5 h5 hg5; have hb5 : Below w3.heap.size w3 w5 := hb4.grown hg5 hb4.size (fun q hq => (h4.lt q hq).1); obtain ⟨A5, c5, hv5, hc5, _⟩ := own_form h5; subst hv5)
              | (go_at_call 13; (with_reducible refine (iValidSettings_len (l := l.take k ++ l.drop (k + 1)) HL5.out (by have hh := Sees.of_own h5; rw [HX5.out] at hh; exact hh) (by rw [HL5.out]; omega)).mono ?_); rintro e w6 ⟨he, hbx⟩; rw [HV1.out] at he; subst he; have hb6 := hb5.trans (hbx.mono hb5.size))
              | fail)
          all_goals
            go_wp2
            go_ret
            exact ⟨by simp, dl.bel.trans (hb6.mono dl.bel.size)⟩
        · skip
          have hsD : Sees w3 w3.heap.size (some ⟨b, o + (k + 1) * 2, none⟩) (strip stcl (l.drop (k + 1))) := by
            have := hs3.drop (k := (k + 1) * 2) rfl
            rwa [← strip_drop stcl_len] at this
          go_wp2_with fail
          go_region_held_law (fun _ => True)
            (trivial)
            (first
              | (refine step_append_want _ (by rfl) _ _ 25 (by rfl) w3.heap.size 47 i0 (.agg #[.int .i64 0, .int .i64 0]) 2 16 Try.underlying25 hi0 hz0 hz1 hz2 rfl (by decide) (.slice (some ⟨w3.heap.size, 0, none⟩) 0 0) 0 [] (by rfl) (made_at 47 2 rfl (Nat.le_refl _)) ⟨b, o, none⟩ k c (strip stcl (l.take k)) (by rfl) (HL1.out) (((hsT.alloc (Nat.le_refl _) _).drew).add) (stcl_one _) (by unfold maxLen; omega) (by omega) (by simp) ?_; intro v4 w4 h4 hg4; have hb4 : Below w3.heap.size w3 w4 := Below.grown (by go_grown) hg4 (by simp) (fun q hq => by injection hq with hq; exact Nat.le_of_eq hq))
              | (refine step_append_want _ (by rfl) _ _ 25 (by rfl) w3.heap.size 47 i0 (.agg #[.int .i64 0, .int .i64 0]) 2 16 Try.underlying25 hi0 hz0 hz1 hz2 rfl (by decide) v4 (0 + k) ([] ++ strip stcl (l.take k)) (by rfl) (h4) ⟨b, o + (k + 1) * 2, none⟩ (l.length - (k + 1)) (c - (k + 1)) (strip stcl (l.drop (k + 1))) (by rfl) (HL2.out) ((hsD.below hb4).add) (stcl_one _) (by unfold maxLen; omega) (by omega) (hb4.size) ?_; intro v5 w5 h5 hg5; have hb5 : Below w3.heap.size w3 w5 := hb4.grown hg5 hb4.size (fun q hq => (h4.lt q hq).1); obtain ⟨A5, c5, hv5, hc5, _⟩ := own_form h5; subst hv5)
              | (go_at_call 13; (with_reducible refine (iValidSettings_len (l := l.take k ++ l.drop (k + 1)) HL3.out (by have hh := Sees.of_own h5; rw [HX5.out] at hh; exact hh) (by rw [HL3.out]; omega)).mono ?_); rintro e w6 ⟨he, hbx⟩; rw [HV1.out] at he; subst he; have hb6 := hb5.trans (hbx.mono hb5.size))
              | fail)
          all_goals
            go_wp2
            go_ret
            exact ⟨by simp, dl.bel.trans (hb6.mono dl.bel.size)⟩
end Go.Proofs.Ytindbplgbfjjcaa

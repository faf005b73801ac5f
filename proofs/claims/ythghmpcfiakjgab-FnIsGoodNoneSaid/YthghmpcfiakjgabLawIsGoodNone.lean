/-
  The walk of the law FnIsGoodNone: at every code it returns true and changes nothing that was there. Conditions: none.
-/
import Derived.Test.YthghmpcfiakjgabChkGen
import Derived.Test.YthghmpcfiakjgabChkD
import Derived.Test.YthghmpcfiakjgabLawFrame
import Derived.Test.YthghmpcfiakjgabChkLawMath
namespace Go.Proofs.Ythghmpcfiakjgab
open Go.RowKit Chk

set_option maxHeartbeats 4000000 in
theorem walkIsGoodNone (a : Option Addr) (len cap : Nat) (zs : List Int) (w : World) (hn : zs.length = len) (hc : len ≤ cap) (hcc : cap ≤ maxLen) (h : Sees w w.heap.size a (byts zs)) (hz : ∀ y ∈ zs, 0 ≤ y ∧ y ≤ 255) :
    Calls Try.prog 7 #[.slice a len cap] w fun e w' => e = .returned (.bool true) ∧ Below w.heap.size w w' := by
  have HE := hid hn
  have HC := hid hcc
  have HZ := hid hz
  clear hn hcc hz
  by_cases hbig : 1048576 < len
  · go_enter Try.func7, Try.ntmps7
    go_wp2
    go_ret
    exact ⟨rfl, Below.refl _ _⟩
  · go_enter Try.func7, Try.ntmps7
    go_wp2_with fail
    refine (drawIsGood_any _ _ _ _ _ h HZ.out HE.out hc (by omega) HC.out).mono ?_
    rintro e w1 ⟨A, c, l, f, g, rfl, dl⟩
    clear h hbig
    have HCAP := hid dl.cap
    have HLEN := hid dl.len
    obtain ⟨V, hV⟩ : ∃ V, V = goodB l f g := ⟨_, rfl⟩
    have HV : Hid (goodB l f g = V) := hid hV.symm
    obtain ⟨R, hR⟩ : ∃ R, R = lastRun l := ⟨_, rfl⟩
    have HR : Hid (lastRun l = R) := hid hR.symm
    obtain ⟨N, hN⟩ : ∃ N, N = goodB [] f g := ⟨_, rfl⟩
    have HN : Hid (goodB [] f g = N) := hid hN.symm
    have hR0 : ¬ R < 0 → l.length ≤ 12 := fun hh => by rw [hR] at hh; unfold lastRun at hh; split at hh <;> omega
    have HF := hid (fun (m : Nat) (h1 : N = true) (h2 : m ≤ 12) => all_good (f := f) (g := g) (m := m) (by rw [← hN]; exact h1) h2)
    clear hV hR hN
    go_wp2_with fail
    refine (iIsGood_any A _ c l f g _ rfl dl.sees HCAP.out dl.n4).mono ?_
    rintro e w' ⟨he, rfl⟩
    rw [HV.out] at he
    subst he
    go_wp2_with fail
    refine (sIsGood_any A _ c l f g _ rfl dl.sees HCAP.out).mono ?_
    rintro e w2 ⟨he, hb⟩
    rw [HV.out] at he
    subst he
    replace dl := dl.below hb
    clear hb
    rcases N with _ | _
    · skip
      go_wp2_with fail
      refine (iIsGood_any (B := 0) none 0 0 [] f g _ rfl Sees.nil (Nat.le_refl _) (by decide)).mono ?_
      rintro e w' ⟨he, rfl⟩
      rw [HN.out] at he
      subst he
      go_wp2_with fail
      refine (sIsGood_any A _ c l f g _ rfl dl.sees HCAP.out).mono ?_
      rintro e w2 ⟨he, hb⟩
      rw [HV.out] at he
      subst he
      replace dl := dl.below hb
      clear hb
      go_wp2
      go_ret
      exact ⟨by first | rfl | (simp; done) | (simp; omega), dl.bel⟩
    · skip
      go_wp2_with fail
      refine (iIsGood_any (B := 0) none 0 0 [] f g _ rfl Sees.nil (Nat.le_refl _) (by decide)).mono ?_
      rintro e w' ⟨he, rfl⟩
      rw [HN.out] at he
      subst he
      go_wp2_with fail
      refine (iLastRun_any A _ c l _ rfl dl.sees dl.n4).mono ?_
      rintro e w' ⟨he, rfl⟩
      rw [HR.out] at he
      subst he
      by_cases h1 : R < 0
      · skip
        go_wp2_with fail
        refine (sIsGood_any A _ c l f g _ rfl dl.sees HCAP.out).mono ?_
        rintro e w2 ⟨he, hb⟩
        rw [HV.out] at he
        subst he
        replace dl := dl.below hb
        clear hb
        go_wp2
        go_ret
        exact ⟨by first | rfl | (simp; done) | (simp; omega), dl.bel⟩
      · skip
        have h12 := hR0 (by omega)
        have d1 : decide (R < 0) = false := decide_eq_false h1
        obtain ⟨i0, hi0, hz0, hz1, hz2⟩ := info_parts booInfo
        have hom := OwnT.made w2 w2.heap.size (Nat.le_refl _)
        have DL0 := hid dl
        have dl0 := dl.alloc (.cells #[] 4)
        have hbm := (Below.refl w2.heap.size w2).alloc (Nat.le_refl _) (.cells #[] 4)
        clear dl
        go_wp2
        go_loopw [7, 8] (fun v i wr => ∃ j : Nat, j ≤ l.length ∧ i = .int .i64 j ∧ OwnT wr w2.heap.size v (List.replicate j true) ∧ DT w wr A c l ∧ Below w2.heap.size w2 wr) (fun _ i _ => l.length - (intOf i).toNat)
        case atStart => exact ⟨0, Nat.zero_le _, rfl, hom, dl0, hbm⟩
        case round =>
          clear hom dl0 hbm
          obtain ⟨j, hj, rfl, ho, dl, hb⟩ := hrel
          by_cases hlt : j < l.length
          · skip
            have hi : (j : Int) < (l.length : Int) := by omega
            have hrl : (List.replicate j true).length = j := by simp
            have hz := hb.size
            have HRL := hid hrl
            have HRS := hid (show List.replicate (j + 1) true = List.replicate j true ++ [true] by rw [List.replicate_succ'])
            obtain ⟨R2, hR2⟩ : ∃ R2, R2 = List.replicate j true := ⟨_, rfl⟩
            rw [← hR2] at ho HRL HRS
            clear hrl hR2
            have hL := HRL.out
            go_wp2_with (at_builtin; refine wpList_append_own _ rfl _ _ 23 rfl w2.heap.size 4 i0 (.bool false) 1 1 Try.underlying23 hi0 hz0 hz1 hz2 rfl (by decide) _ _ _ rfl (ho.out.alloc _) ⟨wr.heap.size, 0, none⟩ 1 1 [.bool true] rfl rfl (by simpa using cells_new wr [.bool true] _) ?c2 ?c3 ?c4 ?c5 ?_)
            case c2 => simp [Value.oneCell']
            case c3 => unfold maxLen; omega
            case c4 => omega
            case c5 => simp; omega
            case _ =>
              intro v1 w5 h5 hg5 _
              obtain ⟨ho5, hb5⟩ := ho.snoc (x := true) hb (Nat.le_refl _) (by rw [HRL.out]; exact h5) hg5
              have dl5 := dl_app ho hb hg5 DL0.out
              clear h5 hg5
              go_wp2
              go_roundw
              case rel => exact ⟨j + 1, by omega, by go_num, by rw [HRS.out]; exact ho5, dl5, hb5⟩
              case measure => simp [intOf]; omega
          · skip
            have hi : ¬ (j : Int) < (l.length : Int) := by omega
            obtain ⟨A3, c3, rfl, hc3, _, hs3⟩ := ho.form
            have HRL := hid (show (List.replicate j true).length = j by simp)
            have HA := hid (HF.out j (by simp) (by omega))
            obtain ⟨R2, hR2⟩ : ∃ R2, R2 = List.replicate j true := ⟨_, rfl⟩
            rw [← hR2] at hs3 HRL hc3 HA ⊢
            clear hR2
            go_wp2_with fail
            refine (iIsGood_any A3 _ c3 R2 f g _ rfl hs3 hc3 (by rw [HRL.out]; omega)).mono ?_
            rintro e w' ⟨he, rfl⟩
            rw [HA.out] at he
            subst he
            go_wp2
            go_ret
            exact ⟨by first | rfl | (simp; done) | (simp; omega), dl.bel⟩
end Go.Proofs.Ythghmpcfiakjgab

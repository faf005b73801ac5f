/-
  The walk of the law FnRouteReadsShort: at every code it returns true and changes nothing that was there. Conditions: none.
-/
import Derived.Test.YtbgpdpmijlhkkabLawHo
import Derived.Test.YtbgpdpmijlhkkabHoDrawR
import Derived.Test.YtbgpdpmijlhkkabLawFrame
import Derived.BigQuiet
import Derived.Deep.RegionHeldLaw
namespace Go.Proofs.Ytbgpdpmijlhkkab
open Go.RowKit Hos

set_option maxHeartbeats 8000000 in
set_option maxRecDepth 16384 in
theorem walkRouteReadsShort (a : Option Addr) (len cap : Nat) (zs : List Int) (w : World) (hn : zs.length = len) (hc : len ≤ cap) (hcc : cap ≤ maxLen) (h : Sees w w.heap.size a (byts zs)) (hz : ∀ y ∈ zs, 0 ≤ y ∧ y ≤ 255) :
    Calls Try.prog 8 #[.slice a len cap] w fun e w' => e = .returned (.bool true) ∧ Below w.heap.size w w' := by
  have HE := hid hn
  have HC := hid hcc
  have HZ := hid hz
  clear hn hcc hz
  by_cases hbig : 1048576 < len
  · go_enter Try.func8, Try.ntmps8
    go_wp2
    go_ret
    exact ⟨rfl, Below.refl _ _⟩
  · go_enter Try.func8, Try.ntmps8
    go_wp2_with fail
    refine (drawRouteReads_any _ _ _ _ _ h HZ.out HE.out hc (by omega) HC.out).mono ?_
    rintro e w1 ⟨A, c, l, AG, cG, gs, rfl, dl⟩
    obtain ⟨_, _, _, hl6, hlc, hg14, hgc⟩ := id dl
    obtain ⟨T, hT⟩ : ∃ T, T = readsL l gs := ⟨_, rfl⟩
    have E : Hid (readsL l gs = T) := hid hT.symm
    have HT := hid hT
    have HN := hid (show T.length ≤ 14 by rw [hT]; have := readsL_len l gs; omega)
    clear hT
    go_wp2_with fail
    refine (iRouteReads_any A AG c cG l gs _ dl.sees dl.lags dl.n1 dl.n2).mono ?_
    rintro e w2 ⟨v1, rfl, ho1, hb⟩
    rw [E.out] at ho1
    replace dl := dl.below hb
    clear hb
    obtain ⟨A1, c1, rfl, _⟩ := ho1.form
    go_wp2_with fail
    refine (sRouteReads_any A AG c cG l gs _ dl.sees dl.lags dl.n1 dl.n2).mono ?_
    rintro e w2 ⟨v2, rfl, ho2, hb⟩
    rw [E.out] at ho2
    replace dl := dl.below hb
    replace ho1 := ho1.below hb
    clear hb
    obtain ⟨A2, c2, rfl, _⟩ := ho2.form
    go_wp2_with fail
    refine (hEq_same A1 A2 c1 c2 T _ (Sees.of_own ho1.out) (Sees.of_own ho2.out) (Nat.le_trans HN.out (by decide))).mono ?_
    rintro e w2 ⟨rfl, hb⟩
    replace dl := dl.below hb
    replace ho1 := ho1.below hb
    replace ho2 := ho2.below hb
    clear hb
    clear ho2
    by_cases hq0 : T.length = 0
    · skip
      have hqb : ((T.length : Int) == 0) = true := by simpa using hq0
      have HQ := hid hq0
      clear hq0
      go_wp2_with fail
      refine (sRouteReads_any A AG c cG l gs _ dl.sees dl.lags dl.n1 dl.n2).mono ?_
      rintro e w2 ⟨v3, rfl, ho3, hb⟩
      rw [E.out] at ho3
      replace dl := dl.below hb
      replace ho1 := ho1.below hb
      clear hb
      obtain ⟨A3, c3, rfl, _⟩ := ho3.form
      go_wp2_with fail
      refine (hEq_same A1 A3 c1 c3 T _ (Sees.of_own ho1.out) (Sees.of_own ho3.out) (Nat.le_trans HN.out (by decide))).mono ?_
      rintro e w2 ⟨rfl, hb⟩
      replace dl := dl.below hb
      replace ho1 := ho1.below hb
      replace ho3 := ho3.below hb
      clear hb
      clear ho3
      go_wp2
      go_ret
      exact ⟨by simp, dl.bel⟩
    · skip
      have hqb : ((T.length : Int) == 0) = false := beq_eq_false_iff_ne.2 (by omega)
      obtain ⟨n, hn⟩ : ∃ n, T.length = n + 1 := ⟨T.length - 1, by omega⟩
      obtain ⟨ht1, ht2⟩ := readsL_take (l := l) (gs := gs) (by rw [← HT.out]; omega) n
      rw [← HT.out] at ht1 ht2
      have hgn : gs.length = n + 1 := by omega
      have hcp1 : T.length ≤ c1 := by obtain ⟨_, _, e, r1, _⟩ := own_form ho1.out; injection e with _ _ e; omega
      have hN := HN.out
      have q1 : (0 : Int) ≤ (n : Int) := by omega
      have q2 : (n : Int) ≤ (gs.length : Int) := by omega
      have q2c : (n : Int) ≤ (cG : Int) := by omega
      have q2d : (n : Int) ≤ (c1 : Int) := by omega
      have q2e : (n : Int) ≤ (T.length : Int) := by omega
      have q3 : IntKind.i64.wrap ((gs.length : Int) - 1) = (n : Int) := by rw [IntKind.wrap_i64]; omega
      have q4 : IntKind.i64.wrap ((n : Int) + 1) = (n : Int) + 1 := by rw [IntKind.wrap_i64]; omega
      have q8 : ((T.length : Int) == (n : Int) + 1) = true := beq_iff_eq.2 (by omega)
      have q5 : n ≤ cG := by omega
      have q6 : n ≤ c1 := by omega
      have q7 : n ≤ 13 := by omega
      have E2 := hid ht2
      have HLT := hid (show (gs.take n).length = n by rw [List.length_take]; omega)
      have HTT := hid (show (T.take n).length = n by rw [List.length_take]; omega)
      have hs1b : Sees w2 w2.heap.size A1 (ints (T.take n)) := by rw [show ints (T.take n) = (ints T).take n by simp [ints]]; exact (Sees.of_own ho1.out).take n
      have hs2b : Sees w2 w2.heap.size AG (ints (gs.take n)) := by rw [show ints (gs.take n) = (ints gs).take n by simp [ints]]; exact dl.lags.take n
      clear ht1 ht2 hn hgn hq0 hcp1
      go_wp2_with fail
      go_region_held3 (fun _ => True)
        (trivial)
        (first
          | (go_at_call 20; (refine (iRouteReads_len rfl HLT.out dl.drew.sees hs2b.drew dl.n1 (by rw [HLT.out]; omega)).mono ?_); rintro e w3 ⟨v3, rfl, ho3, hb3⟩; rw [E2.out] at ho3; obtain ⟨A3, c3, hv3, _⟩ := ho3.form; rw [HTT.out] at hv3; subst hv3; have hd3 := dl.drew.below hb3; have hs3 := (hs1b.drew.below hb3).more hb3.size)
          | (go_at_call 21; (refine (hEq_len (Q := T.take n) HTT.out (Sees.of_own (show World.ownsRow _ _ _ _ (.slice _ n _) n _ by have hh := ho3.out; rw [HTT.out] at hh; exact hh)) hs3 (by rw [HTT.out]; omega)).mono ?_); rintro e w4 ⟨rfl, hb4⟩; have hd4 := hd3.below hb4)
          | fail)
      all_goals
        go_wp2
        go_ret
        exact ⟨rfl, hd4.bel⟩
end Go.Proofs.Ytbgpdpmijlhkkab

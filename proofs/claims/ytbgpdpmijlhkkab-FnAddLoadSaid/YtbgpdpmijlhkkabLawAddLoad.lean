/-
  The walk of the law FnAddLoad: at every code it returns true and changes nothing that was there. Conditions: none.
-/
import Derived.Test.YtbgpdpmijlhkkabLawHo
import Derived.Test.YtbgpdpmijlhkkabLawFrame
import Derived.BigQuiet
namespace Go.Proofs.Ytbgpdpmijlhkkab
open Go.RowKit Hos

set_option maxHeartbeats 8000000 in
set_option maxRecDepth 16384 in
theorem walkAddLoad (a : Option Addr) (len cap : Nat) (zs : List Int) (w : World) (hn : zs.length = len) (hc : len ≤ cap) (hcc : cap ≤ maxLen) (h : Sees w w.heap.size a (byts zs)) (hz : ∀ y ∈ zs, 0 ≤ y ∧ y ≤ 255) :
    Calls Try.prog 5 #[.slice a len cap] w fun e w' => e = .returned (.bool true) ∧ Below w.heap.size w w' := by
  have HE := hid hn
  have HC := hid hcc
  have HZ := hid hz
  clear hn hcc hz
  by_cases hbig : 1048576 < len
  · go_enter Try.func5, Try.ntmps5
    go_wp2
    go_ret
    exact ⟨rfl, Below.refl _ _⟩
  · go_enter Try.func5, Try.ntmps5
    go_wp2_with fail
    refine (drawAddLoad_any _ _ _ _ _ h HZ.out HE.out hc (by omega) HC.out).mono ?_
    rintro e w1 ⟨A, c, l, q, d, rfl, dl, hq0, hq1, hd0, hd1⟩
    have hl6 := dl.len
    obtain ⟨B, hB⟩ : ∃ B, B = loadB l q d := ⟨_, rfl⟩
    have EB : Hid (loadB l q d = B) := hid hB.symm
    obtain ⟨M, hM⟩ : ∃ M, M = loadL l q d := ⟨_, rfl⟩
    have EM : Hid (loadL l q d = M) := hid hM.symm
    have HM6 := hid (show M.length ≤ 6 by rw [hM]; have := loadL_len l q d; omega)
    have HB := hid hB
    have HM := hid hM
    clear hB hM
    go_wp2_with fail
    refine (iAddLoad_any A c l q d _ dl.sees dl.n6).mono ?_
    rintro e w2 ⟨v1, he, ho1, hb⟩
    rw [EB.out] at he
    subst he
    rw [EM.out] at ho1
    replace dl := dl.below hb
    clear hb
    obtain ⟨A1, c1, rfl, _, _, _⟩ := ho1.form
    go_wp2_with fail
    refine (sAddLoad_any A c l q d _ dl.sees dl.n6).mono ?_
    rintro e w2 ⟨v2, he, ho2, hb⟩
    rw [EB.out] at he
    subst he
    rw [EM.out] at ho2
    replace dl := dl.below hb
    replace ho1 := ho1.below hb
    clear hb
    obtain ⟨A2, c2, rfl, _, _, _⟩ := ho2.form
    go_wp2_with fail
    refine (equalHosts_same rfl ho1.sees ho2.sees (Nat.le_trans HM6.out (by decide))).mono ?_
    rintro e w2 ⟨rfl, hb⟩
    replace dl := dl.below hb
    replace ho1 := ho1.below hb
    replace ho2 := ho2.below hb
    clear hb
    rcases B with _ | _
    · skip
      go_wp2_with fail
      refine (equalHosts_same rfl ho1.sees ho2.sees (Nat.le_trans HM6.out (by decide))).mono ?_
      rintro e w2 ⟨rfl, hb⟩
      replace dl := dl.below hb
      replace ho1 := ho1.below hb
      replace ho2 := ho2.below hb
      clear hb
      go_wp2
      go_ret
      exact ⟨by simp, dl.bel⟩
    · skip
      clear ho2
      obtain ⟨j, hj, hqj, hv, hd2, hd3, _⟩ := load_yes EB.out
      subst hqj
      obtain ⟨hb1, hb2⟩ := load_back EB.out
      have hMe : M = addTo l j d := by rw [HM.out]; exact loadL_yes EB.out
      rw [← hMe] at hb1 hb2
      have EB2 := hid hb1
      have EM2 := hid hb2
      have HVl : Hid (M.length = l.length) := hid (by rw [hMe, addTo_len])
      have HVk : Hid (∀ k (h1 : k < M.length) (h2 : k < l.length), M[k] = if j = k then ⟨l[k].l + d, l[k].g, l[k].d⟩ else l[k]) := hid (by
        intro k h1 h2
        have e2 : ∀ (N : List Hst) (h : k < N.length), N = addTo l j d → N[k] = if j = k then ⟨l[k].l + d, l[k].g, l[k].d⟩ else l[k] := by
          intro N h hN
          subst hN
          exact addTo_at h2
        exact e2 M h1 hMe)
      have HOK := hid (fun (h : j < l.length) => Hst.ok_iff.1 (hosts_ok hv h))
      have q0 : IntKind.i64.wrap (-d) = -d := by rw [IntKind.wrap_i64]; omega
      clear hb1 hb2 hMe hv
      go_wp2_with fail
      refine (iAddLoad_any A1 c1 M j (-d) _ ho1.sees (Nat.le_trans HM6.out (by decide))).mono ?_
      rintro e w2 ⟨v4, he, ho4, hb⟩
      rw [EB2.out] at he
      subst he
      rw [EM2.out] at ho4
      replace dl := dl.below hb
      replace ho1 := ho1.below hb
      clear hb
      obtain ⟨A4, c4, rfl, _, _, _⟩ := ho4.form
      go_wp2
      go_loopw [12] (fun i wr => ∃ k : Nat, k ≤ l.length ∧ i = .int .i64 k ∧ DH w wr A c l ∧ (∃ B, OwnS 28 3 hcl wr B (.slice A1 M.length c1) M) ∧ ∃ B, OwnS 28 3 hcl wr B (.slice A4 l.length c4) l) (fun i _ => l.length - (intOf i).toNat)
      case atStart => exact ⟨0, Nat.zero_le _, rfl, dl, ⟨_, ho1⟩, _, ho4⟩
      case round =>
        clear dl ho1 ho4
        obtain ⟨k, hk, rfl, dl, ⟨B1, ho1⟩, B4, ho4⟩ := hrel
        have hl6 := dl.len
        by_cases hlt : k < l.length
        · skip
          have hi : (k : Int) < (l.length : Int) := by omega
          have hkv : k < M.length := by rw [HVl.out]; exact hlt
          have hiv : ¬ (M.length : Int) ≤ (k : Int) := by omega
          have hiv3 : ¬ M.length ≤ k := by omega
          have hiv2 : (k : Int) < (M.length : Int) := by omega
          have hk0 : (0 : Int) ≤ (k : Int) := by omega
          obtain ⟨b, o, rfl, hbl, e0, e1, e2⟩ := dl.sees.host hlt
          obtain ⟨b2, o2, rfl, hbl2, f0, f1, f2⟩ := ho1.sees.host hkv
          have hvk := HVk.out k hkv hlt
          rw [hvk] at f0 f1 f2
          have hok := HOK.out hj
          have hxj : k = j → l[k].l = l[j].l := fun e => by subst e; rfl
          obtain ⟨x, hx⟩ : ∃ x, x = l[k] := ⟨_, rfl⟩
          rw [← hx] at f0 f1 f2 e0 e1 e2 hxj
          clear hx hvk
          have hne : ¬ wr.heap.size = b2 := by omega
          have hne2 : ¬ b2 = wr.heap.size := by omega
          by_cases hkj : j = k
          · skip
            rw [if_pos hkj] at f0 f1 f2
            have hkji : (k : Int) = (j : Int) := by omega
            have hkjb : ((k : Int) == (j : Int)) = true := beq_iff_eq.2 hkji
            have hw : IntKind.i64.wrap (x.l + d) = x.l + d := by have := hxj hkj.symm; rw [IntKind.wrap_i64]; omega
            clear hkj hkji hxj hok
            simp only [] at f0 f1 f2
            go_wp2
            go_quiet (fail)
            go_wp2
            go_roundw
            case rel => exact ⟨k + 1, by omega, by go_num, (dl.below ((Below.refl _ _).alloc (Nat.le_refl _) _)).drewN _, ⟨B1, OwnS.drewH (ho1.below ((Below.refl _ _).alloc (Nat.le_refl _) _)) _⟩, B4, OwnS.drewH (ho4.below ((Below.refl _ _).alloc (Nat.le_refl _) _)) _⟩
            case measure => simp [intOf]; omega
          · skip
            rw [if_neg hkj] at f0 f1 f2
            have hkjb : ((k : Int) == (j : Int)) = false := beq_eq_false_iff_ne.2 (by omega)
            clear hxj hok
            go_wp2
            go_quiet (fail)
            go_wp2
            go_roundw
            case rel => exact ⟨k + 1, by omega, by go_num, (dl.below ((Below.refl _ _).alloc (Nat.le_refl _) _)).drewN _, ⟨B1, OwnS.drewH (ho1.below ((Below.refl _ _).alloc (Nat.le_refl _) _)) _⟩, B4, OwnS.drewH (ho4.below ((Below.refl _ _).alloc (Nat.le_refl _) _)) _⟩
            case measure => simp [intOf]; omega
        · skip
          have hi : ¬ (k : Int) < (l.length : Int) := by omega
          go_wp2_with fail
          refine (equalHosts_same rfl ho4.sees dl.sees dl.n6).mono ?_
          rintro e w5 ⟨rfl, hb⟩
          replace dl := dl.below hb
          go_wp2
          go_ret
          exact ⟨rfl, dl.bel⟩
end Go.Proofs.Ytbgpdpmijlhkkab

/-
  The walk of the law FnCountWaits: at every code it returns true and changes nothing that was there. Conditions: none.
-/
import Derived.Test.YtiiieollemhjmabLawWtB
import Derived.Test.YtiiieollemhjmabLawFrame
import Derived.BigQuiet

namespace Go.Proofs.Ytiiieollemhjmab
open Go.RowKit Wt

set_option maxHeartbeats 8000000 in
theorem walkCountWaits (a : Option Addr) (len cap : Nat) (zs : List Int) (w : World) (hn : zs.length = len) (hc : len ≤ cap) (hcc : cap ≤ maxLen) (h : Sees w w.heap.size a (byts zs)) (hz : ∀ y ∈ zs, 0 ≤ y ∧ y ≤ 255) :
    Calls Try.prog 5 #[.slice a len cap] w fun e w' => e = .returned (.bool true) ∧ Below w.heap.size w w' := by
  have HE := hid hn
  have HC := hid hcc
  have HZ := hid hz
  clear hn hcc hz
  by_cases hbig : 1048576 < len
  · go_enter Try.func5, Try.ntmps5
    go_wp2
    go_ret
    exact ⟨rfl, Below.refl _ _⟩
  · go_enter Try.func5, Try.ntmps5
    go_wp2_with fail
    refine (drawCountWaits_any _ _ _ _ _ h HZ.out HE.out hc (by omega) HC.out).mono ?_
    rintro e w2 ⟨A, c, l, rfl, dl⟩
    have HV8 := hid (Nat.le_trans (cntW_len l) (by decide) : (cntW l).length ≤ 4194304)
    have HW8 := hid (fun (K : waitsB l = true) => waits_empty K)
    have HW0 := hid (fun (K : waitsB l = false) => waits_none K)
    have HYS := hid (fun (K : waitsB l = true) => cntW_yes K)
    have HVL := hid (fun (K : waitsB l = true) => cntW_valid K)
    have HPA := hid (fun (K : waitsB l = true) => parts_add K (l.length / 2))
    obtain ⟨V, hV⟩ : ∃ V, V = cntW l := ⟨_, rfl⟩
    have EV : Hid (cntW l = V) := hid hV.symm
    rw [← hV] at HV8 HW8 HW0 HYS HVL HPA
    clear hV
    rcases hw : waitsB l with _ | _
    · skip
      have hl0 := HW0.out hw
      have hl0b : ((V.length : Int) == 0) = true := by simp [hl0]
      have HL0 := hid hl0
      clear hl0 hw
      go_wp2_with fail
      refine (iCountWaits_any A c l _ dl.sees dl.n4).mono ?_
      rintro e w3 he
      obtain ⟨A1, c1, he, ho1, hb⟩ := CwAns.get he
      rw [EV.out] at he ho1
      subst he
      replace dl := dl.below hb
      clear hb
      go_wp2_with fail
      refine (sCountWaits_any A c l _ dl.sees dl.n4).mono ?_
      rintro e w4 he
      obtain ⟨A2, c2, he, ho2, hb⟩ := CwAns.get he
      rw [EV.out] at he ho2
      subst he
      replace dl := dl.below hb
      replace ho1 := ho1.below hb
      clear hb
      go_wp2_with fail
      refine (equalInts_same A1 A2 c1 c2 V _ ho1.seesW ho2.seesW HV8.out).mono ?_
      rintro e w5 ⟨rfl, hb⟩
      replace dl := dl.below hb
      replace ho1 := ho1.below hb
      replace ho2 := ho2.below hb
      clear hb
      go_wp2_with fail
      refine (sCountWaits_any A c l _ dl.sees dl.n4).mono ?_
      rintro e w6 he
      obtain ⟨A3, c3, he, ho3, hb⟩ := CwAns.get he
      rw [EV.out] at he ho3
      subst he
      replace dl := dl.below hb
      replace ho1 := ho1.below hb
      replace ho2 := ho2.below hb
      clear hb
      go_wp2_with fail
      refine (equalInts_same A1 A3 c1 c3 V _ ho1.seesW ho3.seesW HV8.out).mono ?_
      rintro e w7 ⟨rfl, hb⟩
      replace dl := dl.below hb
      replace ho1 := ho1.below hb
      replace ho2 := ho2.below hb
      replace ho3 := ho3.below hb
      clear hb
      go_wp2
      go_ret
      exact ⟨by first | rfl | (simp; done) | (simp; omega), dl.bel⟩
    · skip
      have hl8 := HW8.out hw
      have hl0b : ((V.length : Int) == 0) = false := beq_eq_false_iff_ne.2 (by omega)
      have HL8 := hid hl8
      have HV := hid (HYS.out hw)
      have HVV := hid (HVL.out hw)
      have HCS := hid (fun (j : Nat) (hj : j < l.length) (b : Nat) => cn_step hw hj b)
      have HIv := hid (cntB_iff.1 HVV.out).2
      have Hs := hid (show V.sum = l.length by rw [HV.out]; exact cnts_sum l)
      clear hl8 hw
      go_wp2_with fail
      refine (iCountWaits_any A c l _ dl.sees dl.n4).mono ?_
      rintro e w3 he
      obtain ⟨A1, c1, he, ho1, hb⟩ := CwAns.get he
      rw [EV.out] at he ho1
      subst he
      replace dl := dl.below hb
      clear hb
      go_wp2_with fail
      refine (sCountWaits_any A c l _ dl.sees dl.n4).mono ?_
      rintro e w4 he
      obtain ⟨A2, c2, he, ho2, hb⟩ := CwAns.get he
      rw [EV.out] at he ho2
      subst he
      replace dl := dl.below hb
      replace ho1 := ho1.below hb
      clear hb
      go_wp2_with fail
      refine (equalInts_same A1 A2 c1 c2 V _ ho1.seesW ho2.seesW HV8.out).mono ?_
      rintro e w5 ⟨rfl, hb⟩
      replace dl := dl.below hb
      replace ho1 := ho1.below hb
      replace ho2 := ho2.below hb
      clear hb
      clear ho2
      go_wp2_with fail
      go_loop [5] (fun b => ∃ k : Nat, k ≤ 8 ∧ b = .int .i64 k) (fun b => 8 - (intOf b).toNat)
      case atStart => exact ⟨0, by omega, rfl⟩
      case round =>
        obtain ⟨k, hk, rfl⟩ := hrel
        have hl8i : (V.length : Int) = 8 := by have := HL8.out; omega
        by_cases hk8 : k < 8
        · skip
          have hki : (k : Int) < (V.length : Int) := by omega
          have hkl : k < V.length := by have := HL8.out; omega
          have HL9 := hid hl8i
          clear hl8i
          have HVk := hid (show V[k] = cn l k by have e := HV.out; subst e; exact cnts_at l hkl)
          obtain ⟨b1, o1, rfl, _, hcv⟩ := ho1.seesW.int hkl
          rw [HVk.out] at hcv
          go_wp2_with fail
          go_loop [6, 7] (fun n i => ∃ j : Nat, j ≤ l.length ∧ i = .int .i64 j ∧ n = .int .i64 (cn (l.take j) k)) (fun _ i => l.length - (intOf i).toNat)
          case atStart => exact ⟨0, Nat.zero_le _, rfl, rfl⟩
          case round =>
            obtain ⟨j, hj, rfl, rfl⟩ := hrel
            by_cases hjl : j < l.length
            · skip
              have hji : (j : Int) < (l.length : Int) := by omega
              obtain ⟨b2, o2, rfl, _, hcl⟩ := dl.sees.int hjl
              obtain ⟨s1, s2⟩ := HCS.out j hjl k
              have hcr := cn_range (l.take j) k
              have htl : (l.take j).length = j := by rw [List.length_take]; omega
              rw [htl] at hcr
              have h18 := dl.n18
              have HS1 := hid s1
              have HS2 := hid s2
              obtain ⟨x, hx⟩ : ∃ x, x = l[j] := ⟨_, rfl⟩
              rw [← hx] at hcl HS1 HS2
              clear hx htl s1 s2
              obtain ⟨N, hN⟩ : ∃ N, N = cn (l.take j) k := ⟨_, rfl⟩
              have EN : Hid (cn (l.take j) k = N) := hid hN.symm
              rw [← hN] at hcr HS1 HS2
              rw [← hN]
              clear hN
              have hw1 : IntKind.i64.wrap (N + 1) = N + 1 := by rw [IntKind.wrap_i64]; omega
              obtain ⟨X, hX⟩ : ∃ X, X = binV x := ⟨_, rfl⟩
              have EX : Hid (binV x = X) := hid hX.symm
              rw [← hX] at HS1 HS2
              clear hX
              by_cases hxk : X = (k : Int)
              · skip
                have hb1 : (X == (k : Int)) = true := by simp [hxk]
                have HT := hid (HS1.out hxk)
                clear hxk
                go_wp2_with fail
                with_reducible refine (iBinOf_any x _).mono ?_
                rintro e w' ⟨he, rfl⟩
                rw [EX.out] at he
                subst he
                go_wp2
                go_round
                case rel => exact ⟨j + 1, by omega, by go_num, by rw [HT.out]⟩
                case measure => simp [intOf]; omega
              · skip
                have hb1 : (X == (k : Int)) = false := beq_eq_false_iff_ne.2 hxk
                have HT := hid (HS2.out hxk)
                clear hxk
                go_wp2_with fail
                with_reducible refine (iBinOf_any x _).mono ?_
                rintro e w' ⟨he, rfl⟩
                rw [EX.out] at he
                subst he
                go_wp2
                go_round
                case rel => exact ⟨j + 1, by omega, by go_num, by rw [HT.out]⟩
                case measure => simp [intOf]; omega
            · skip
              have hji : ¬ (j : Int) < (l.length : Int) := by omega
              rw [take_whole hjl]
              obtain ⟨N, hN⟩ : ∃ N, N = cn l k := ⟨_, rfl⟩
              have EN : Hid (cn l k = N) := hid hN.symm
              rw [← hN] at hcv
              rw [← hN]
              clear hN
              go_wp2
              go_round
              case rel => exact ⟨k + 1, by omega, by go_num⟩
              case measure => simp [intOf]; omega
        · skip
          have hki : ¬ (k : Int) < (V.length : Int) := by omega
          have HL9 := hid hl8i
          clear hl8i
          go_wp2_with fail
          with_reducible refine (waLSum_any A1 c1 V _ ho1.seesW (by rw [HL8.out]; decide) HIv.out).mono ?_
          rintro e w' ⟨he, rfl⟩
          rw [Hs.out] at he
          subst he
          go_wp2_with fail
          with_reducible refine (iValidCounts_any A1 c1 V _ ho1.seesW HV8.out).mono ?_
          rintro e w' ⟨he, rfl⟩
          rw [HVV.out] at he
          subst he
          go_wp2
          go_ret
          exact ⟨by first | rfl | (simp; done) | (simp; omega), dl.bel⟩
end Go.Proofs.Ytiiieollemhjmab

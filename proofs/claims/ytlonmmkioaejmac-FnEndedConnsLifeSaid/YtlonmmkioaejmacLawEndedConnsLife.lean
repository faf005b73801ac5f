/-
  The walk of the law FnEndedConnsLife: at every code it returns true and changes nothing that was there. Conditions: none.
-/
import Derived.Test.YtlonmmkioaejmacAgGen
import Derived.Test.YtlonmmkioaejmacAgC
import Derived.Test.YtlonmmkioaejmacAgeMathB
import Derived.Test.YtlonmmkioaejmacLawAg
import Derived.Test.YtlonmmkioaejmacLawAgE
import Derived.Test.YtlonmmkioaejmacLawFrame
import Derived.BigQuiet
import Derived.Deep.RegionHeldLaw
namespace Go.Proofs.Ytlonmmkioaejmac
open Go.RowKit Age

set_option maxHeartbeats 4000000 in
theorem walkEndedConnsLife (a : Option Addr) (len cap : Nat) (zs : List Int) (w : World) (hn : zs.length = len) (hc : len ≤ cap) (hcc : cap ≤ maxLen) (h : Sees w w.heap.size a (byts zs)) (hz : ∀ y ∈ zs, 0 ≤ y ∧ y ≤ 255) :
    Calls Try.prog 5 #[.slice a len cap] w fun e w' => e = .returned (.bool true) ∧ Below w.heap.size w w' := by
  have HE := hid hn
  have HC := hid hcc
  have HZ := hid hz
  clear hn hcc hz
  by_cases hbig : 1048576 < len
  · go_enter Try.func5, Try.ntmps5
    go_wp2
    go_ret
    exact ⟨rfl, Below.refl _ _⟩
  · go_enter Try.func5, Try.ntmps5
    go_wp2_with fail
    refine (drawEndedConns_any _ _ _ _ _ h HZ.out HE.out hc (by omega) HC.out).mono ?_
    rintro e w1 ⟨A, c, l, now, life, rest, rfl, dl, hn0, hn1, hlo, hro⟩
    have HLN := hid (ended_len l now life rest)
    have HLE := hid (ended_le (l := l) (now := now) (life := life) (rest := rest))
    obtain ⟨Q, hQ⟩ : ∃ Q, Q = ended l now life rest := ⟨_, rfl⟩
    have EQ : Hid (ended l now life rest = Q) := hid hQ.symm
    rw [← hQ] at HLN HLE
    have HQ4 : Hid (Q.length ≤ 4194304) := hid (Nat.le_trans HLN.out (by decide))
    clear hQ
    go_wp2_with fail
    refine (iEndedConns_any A c l now life rest _ dl.sees (dl.n4 (by decide))).mono ?_
    rintro e w2 ⟨v1, rfl, ho1, hb⟩
    rw [EQ.out] at ho1
    replace dl := dl.below hb
    clear hb
    obtain ⟨A1, c1, rfl, _⟩ := ho1.form
    go_wp2_with fail
    refine (sEndedConns_any A c l now life rest _ dl.sees (dl.n4 (by decide))).mono ?_
    rintro e w2 ⟨v2, rfl, ho2, hb⟩
    rw [EQ.out] at ho2
    replace dl := dl.below hb
    replace ho1 := ho1.below hb
    clear hb
    obtain ⟨A2, c2, rfl, _⟩ := ho2.form
    go_wp2_with fail
    refine (eqI4_same A1 A2 c1 c2 Q _ (Sees.of_own ho1.out) (Sees.of_own ho2.out) HQ4.out).mono ?_
    rintro e w2 ⟨rfl, hb⟩
    replace dl := dl.below hb
    replace ho1 := ho1.below hb
    clear hb
    by_cases hl1 : 1000 ≤ life
    · go_wp2_with fail
      refine (sEndedConns_any A c l now life rest _ dl.sees (dl.n4 (by decide))).mono ?_
      rintro e w2 ⟨v3, rfl, ho3, hb⟩
      rw [EQ.out] at ho3
      replace dl := dl.below hb
      replace ho1 := ho1.below hb
      clear hb
      obtain ⟨A3, c3, rfl, _⟩ := ho3.form
      go_wp2_with fail
      refine (eqI4_same A1 A3 c1 c3 Q _ (Sees.of_own ho1.out) (Sees.of_own ho3.out) HQ4.out).mono ?_
      rintro e w2 ⟨rfl, hb⟩
      replace dl := dl.below hb
      replace ho1 := ho1.below hb
      clear hb
      go_wp2
      go_ret
      exact ⟨by simp, dl.bel⟩
    · by_cases hr1 : 1000 ≤ rest
      · go_wp2_with fail
        refine (sEndedConns_any A c l now life rest _ dl.sees (dl.n4 (by decide))).mono ?_
        rintro e w2 ⟨v3, rfl, ho3, hb⟩
        rw [EQ.out] at ho3
        replace dl := dl.below hb
        replace ho1 := ho1.below hb
        clear hb
        obtain ⟨A3, c3, rfl, _⟩ := ho3.form
        go_wp2_with fail
        refine (eqI4_same A1 A3 c1 c3 Q _ (Sees.of_own ho1.out) (Sees.of_own ho3.out) HQ4.out).mono ?_
        rintro e w2 ⟨rfl, hb⟩
        replace dl := dl.below hb
        replace ho1 := ho1.below hb
        clear hb
        go_wp2
        go_ret
        exact ⟨by simp, dl.bel⟩
      · have hw1 : IntKind.i64.wrap (life + 1) = life + 1 := by rw [IntKind.wrap_i64]; omega
        have hw2 : IntKind.i64.wrap (rest + 1) = rest + 1 := by rw [IntKind.wrap_i64]; omega
        have HLL := hid (ended_len l now (life + 1) rest)
        have HLL2 := hid (ended_len l now life (rest + 1))
        have HIN := hid (fun (h1 : 1 ≤ life) (h2 : 1 ≤ rest) (q : Int) (hq : q ∈ ended l now (life + 1) rest) => ended_longer (rest' := rest) h1 (by omega) h2 (by omega) (.inr ⟨rfl, by omega⟩) (Int.le_refl _) hq)
        have HIN2 := hid (fun (h1 : 1 ≤ life) (h2 : 1 ≤ rest) (q : Int) (hq : q ∈ ended l now life (rest + 1)) => ended_longer (life' := life) h1 (by omega) h2 (by omega) (.inl rfl) (by omega) hq)
        have HNO := hid (fun (h : life < 1 ∨ rest < 1) => ended_none (l := l) (now := now) h)
        rw [EQ.out] at HIN HIN2 HNO
        obtain ⟨R, hR⟩ : ∃ R, R = ended l now (life + 1) rest := ⟨_, rfl⟩
        have ER : Hid (ended l now (life + 1) rest = R) := hid hR.symm
        rw [← hR] at HLL HIN
        clear hR
        obtain ⟨T, hT⟩ : ∃ T, T = ended l now life (rest + 1) := ⟨_, rfl⟩
        have ET : Hid (ended l now life (rest + 1) = T) := hid hT.symm
        rw [← hT] at HLL2 HIN2
        clear hT
        go_wp2_with fail
        refine (iEndedConns_any A c l now (life + 1) rest _ dl.sees (dl.n4 (by decide))).mono ?_
        rintro e w2 ⟨v4, rfl, ho4, hb⟩
        rw [ER.out] at ho4
        replace dl := dl.below hb
        replace ho1 := ho1.below hb
        clear hb
        obtain ⟨A4, c4, rfl, _⟩ := ho4.form
        go_wp2_with fail
        refine (iEndedConns_any A c l now life (rest + 1) _ dl.sees (dl.n4 (by decide))).mono ?_
        rintro e w2 ⟨v5, rfl, ho5, hb⟩
        rw [ET.out] at ho5
        replace dl := dl.below hb
        replace ho1 := ho1.below hb
        replace ho4 := ho4.below hb
        clear hb
        obtain ⟨A5, c5, rfl, _⟩ := ho5.form
        by_cases h1 : life < 1
        · have hq0 : (Q.length : Int) = 0 := by rw [HNO.out (.inl h1)]; rfl
          have hqb : ((Q.length : Int) == 0) = true := by simpa using hq0
          clear hq0
          go_wp2
          go_ret
          exact ⟨by simp, dl.bel⟩
        · by_cases h2 : rest < 1
          · have hq0 : (Q.length : Int) = 0 := by rw [HNO.out (.inr h2)]; rfl
            have hqb : ((Q.length : Int) == 0) = true := by simpa using hq0
            clear hq0
            go_wp2
            go_ret
            exact ⟨by simp, dl.bel⟩
          · have HI1 := hid (HIN.out (by omega) (by omega))
            have HI2 := hid (HIN2.out (by omega) (by omega))
            have hs1 := Sees.of_own ho1.out
            have hs4 := Sees.of_own ho4.out
            have hs5 := Sees.of_own ho5.out
            have hq6 := HLN.out
            have hr6 := HLL.out
            have ht6 := HLL2.out
            go_wp2
            go_loop [10] (fun i => ∃ k : Nat, k ≤ R.length ∧ i = .int .i64 k) (fun i => R.length - (intOf i).toNat)
            case atStart => exact ⟨0, Nat.zero_le _, rfl⟩
            case round =>
              obtain ⟨k, hk, rfl⟩ := hrel
              by_cases hlt : k < R.length
              · have hi : (k : Int) < (R.length : Int) := by omega
                obtain ⟨b, o, hab, hbl, hcell⟩ := hs4.int hlt
                have HM := hid (memB_iff.2 (HI1.out _ (List.getElem_mem hlt)))
                obtain ⟨q, hq⟩ : ∃ q, q = R[k] := ⟨_, rfl⟩
                rw [← hq] at hcell HM
                clear hq
                subst hab
                go_wp2_with fail
                refine (lisIn_any A1 c1 Q q _ hs1 (Nat.le_trans hq6 (by decide))).mono ?_
                rintro e w9 ⟨he, rfl⟩
                rw [HM.out] at he
                subst he
                go_wp2
                go_round
                case rel => exact ⟨k + 1, by omega, by go_num⟩
                case measure => simp [intOf]; omega
              · have hi : ¬ (k : Int) < (R.length : Int) := by omega
                go_wp2
                go_loop [11] (fun i => ∃ k : Nat, k ≤ T.length ∧ i = .int .i64 k) (fun i => T.length - (intOf i).toNat)
                case atStart => exact ⟨0, Nat.zero_le _, rfl⟩
                case round =>
                  obtain ⟨k, hk, rfl⟩ := hrel
                  by_cases hlt : k < T.length
                  · have hi : (k : Int) < (T.length : Int) := by omega
                    obtain ⟨b, o, hab, hbl, hcell⟩ := hs5.int hlt
                    have HM := hid (memB_iff.2 (HI2.out _ (List.getElem_mem hlt)))
                    obtain ⟨q, hq⟩ : ∃ q, q = T[k] := ⟨_, rfl⟩
                    rw [← hq] at hcell HM
                    clear hq
                    subst hab
                    go_wp2_with fail
                    refine (lisIn_any A1 c1 Q q _ hs1 (Nat.le_trans hq6 (by decide))).mono ?_
                    rintro e w9 ⟨he, rfl⟩
                    rw [HM.out] at he
                    subst he
                    go_wp2
                    go_round
                    case rel => exact ⟨k + 1, by omega, by go_num⟩
                    case measure => simp [intOf]; omega
                  · have hi : ¬ (k : Int) < (T.length : Int) := by omega
                    go_wp2
                    go_ret
                    exact ⟨rfl, dl.bel⟩
end Go.Proofs.Ytlonmmkioaejmac

/-
  The walk of the law FnBusyAtPart: at every code it returns true and changes nothing that was there. Conditions: none.
-/
import Derived.Test.YtncijbmahidjbabLsDraw
import Derived.Test.YtncijbmahidjbabLsI
import Derived.Test.YtncijbmahidjbabBusyMath
import Derived.Test.YtncijbmahidjbabLawLs
import Derived.Test.YtncijbmahidjbabLawFrame
import Derived.BigQuiet
import Derived.Deep.RegionHeldLaw
namespace Go.Proofs.Ytncijbmahidjbab
open Go.RowKit Lse

set_option maxHeartbeats 4000000 in
theorem walkBusyAtPart (a : Option Addr) (len cap : Nat) (zs : List Int) (w : World) (hn : zs.length = len) (hc : len ≤ cap) (hcc : cap ≤ maxLen) (h : Sees w w.heap.size a (byts zs)) (hz : ∀ y ∈ zs, 0 ≤ y ∧ y ≤ 255) :
    Calls Try.prog 7 #[.slice a len cap] w fun e w' => e = .returned (.bool true) ∧ Below w.heap.size w w' := by
  have HE := hid hn
  have HC := hid hcc
  have HZ := hid hz
  clear hn hcc hz
  by_cases hbig : 1048576 < len
  · go_enter Try.func7, Try.ntmps7
    go_wp2
    go_ret
    exact ⟨rfl, Below.refl _ _⟩
  · go_enter Try.func7, Try.ntmps7
    go_wp2_with fail
    refine (drawBusyAt_any _ _ _ _ _ h HZ.out HE.out hc (by omega) HC.out).mono ?_
    rintro e w1 ⟨A, c, l, t, rfl, dl⟩
    obtain ⟨V, hV⟩ : ∃ V, V = busy l t := ⟨_, rfl⟩
    have E : Hid (busy l t = V) := hid hV.symm
    have HVn : Hid (V.length ≤ 4194304) := hid (by rw [hV]; exact Nat.le_trans (busy_len l t) (by decide))
    clear hV
    go_wp2_with fail
    refine (iBusyAt_any A c l t _ dl.sees dl.2.2.2 (Nat.le_trans dl.2.2.1 (by decide))).mono ?_
    rintro e w2 ⟨v2, rfl, ho2, hb⟩
    rw [E.out] at ho2
    replace dl := dl.below hb
    clear hb
    obtain ⟨A2, c2, rfl, hs2⟩ := ho2.form
    go_wp2_with fail
    refine (sBusyAt_any A c l t _ dl.sees (Nat.le_trans dl.2.2.1 (by decide))).mono ?_
    rintro e w3 ⟨v3, rfl, ho3, hb⟩
    rw [E.out] at ho3
    replace dl := dl.below hb
    replace ho2 := ho2.below hb
    clear hb hs2
    obtain ⟨A3, c3, rfl, hs3⟩ := ho3.form
    have hs2 := Sees.of_own ho2.out
    go_wp2_with fail
    refine (eqI_same A2 A3 c2 c3 V _ hs2 hs3 HVn.out).mono ?_
    rintro e w4 ⟨rfl, hb⟩
    replace dl := dl.below hb
    replace ho2 := ho2.below hb
    clear hb hs2 hs3 ho3
    have fin : ∀ {B : Nat} (w5 : World), True := fun _ => trivial
    clear fin
    rcases hv : validB l with _ | _
    · have HV := hid hv
      clear hv
      go_wp2_with fail
      refine (iValidLeases_any A c l _ dl.sees dl.2.2.2 (Nat.le_trans dl.2.2.1 (by decide))).mono ?_
      rintro e w2 ⟨he, hb⟩
      rw [HV.out] at he
      subst he
      replace dl := dl.below hb
      replace ho2 := ho2.below hb
      clear hb
      go_wp2_with fail
      refine (sBusyAt_any A c l t _ dl.sees (Nat.le_trans dl.2.2.1 (by decide))).mono ?_
      rintro e w6 ⟨v6, rfl, ho6, hb⟩
      rw [E.out] at ho6
      replace dl := dl.below hb
      replace ho2 := ho2.below hb
      clear hb
      obtain ⟨A6, c6, rfl, hs6⟩ := ho6.form
      have hs2 := Sees.of_own ho2.out
      go_wp2_with fail
      refine (eqI_same A2 A6 c2 c6 V _ hs2 hs6 HVn.out).mono ?_
      rintro e w7 ⟨rfl, hb⟩
      replace dl := dl.below hb
      go_wp2
      go_ret
      exact ⟨rfl, dl.bel⟩
    · have HV := hid hv
      clear hv
      go_wp2_with fail
      refine (iValidLeases_any A c l _ dl.sees dl.2.2.2 (Nat.le_trans dl.2.2.1 (by decide))).mono ?_
      rintro e w2 ⟨he, hb⟩
      rw [HV.out] at he
      subst he
      replace dl := dl.below hb
      replace ho2 := ho2.below hb
      clear hb
      by_cases hl0 : l.length = 0
      · have hl00 : (l.length : Int) = 0 := by omega
        have hlb : ((l.length : Int) == 0) = true := by simpa using hl00
        clear hl00 hl0
        go_wp2_with fail
        refine (sBusyAt_any A c l t _ dl.sees (Nat.le_trans dl.2.2.1 (by decide))).mono ?_
        rintro e w6 ⟨v6, rfl, ho6, hb⟩
        rw [E.out] at ho6
        replace dl := dl.below hb
        replace ho2 := ho2.below hb
        clear hb
        obtain ⟨A6, c6, rfl, hs6⟩ := ho6.form
        have hs2 := Sees.of_own ho2.out
        go_wp2_with fail
        refine (eqI_same A2 A6 c2 c6 V _ hs2 hs6 HVn.out).mono ?_
        rintro e w7 ⟨rfl, hb⟩
        replace dl := dl.below hb
        go_wp2
        go_ret
        exact ⟨rfl, dl.bel⟩
      · obtain ⟨m, hm⟩ : ∃ m, l.length = m + 1 := ⟨l.length - 1, by omega⟩
        have HM := hid hm
        have hmc : (m : Int) ≤ (c : Int) := by have := dl.2.2.2; omega
        have hm0 : (0 : Int) ≤ (m : Int) := by omega
        have hm13 : m ≤ 13 := by have := dl.2.2.1; omega
        have hne : ((l.length : Int) == 0) = false := by simpa using (by omega : ¬ (l.length : Int) = 0)
        have hsub : IntKind.i64.wrap ((l.length : Int) - 1) = (m : Int) := by rw [IntKind.wrap_i64]; have := dl.2.2.1; omega
        have hsub2 : (l.length : Int) - 1 = (m : Int) := by omega
        have hml : (l.take m).length = m := by rw [List.length_take]; omega
        have HML := hid hml
        have HMO := hid (busy_more HV.out hm t)
        have HMB := hid (fun (q : Int) (hq : q ∈ busy (l.take m) t) => busy_take HV.out m t hq)
        rw [E.out] at HMO HMB
        obtain ⟨Q, hQ⟩ : ∃ Q, Q = busy (l.take m) t := ⟨_, rfl⟩
        have EQ : Hid (busy (l.take m) t = Q) := hid hQ.symm
        rw [← hQ] at HMO HMB
        have HQn : Hid (Q.length ≤ 6) := hid (by rw [hQ]; exact busy_len _ t)
        clear hQ hm hml hl0
        go_wp2_with fail
        refine (iBusyAt_len HML.out (dl.sees.leases_take m) (by have := HML.out; have := dl.2.2.2; omega) (by have := HML.out; have := dl.2.2.1; have := HM.out; omega)).mono ?_
        rintro e w6 ⟨v6, rfl, ho6, hb⟩
        rw [EQ.out] at ho6
        replace dl := dl.below hb
        replace ho2 := ho2.below hb
        clear hb
        obtain ⟨A6, c6, rfl, hs6⟩ := ho6.form
        have hs2 := Sees.of_own ho2.out
        have hQ6 := HQn.out
        have hV4 := HVn.out
        clear hsub hsub2 hne hmc hm0
        go_wp2
        go_loop [7] (fun i => ∃ k : Nat, k ≤ Q.length ∧ i = .int .i64 k) (fun i => Q.length - (intOf i).toNat)
        case atStart => exact ⟨0, Nat.zero_le _, rfl⟩
        case round =>
          obtain ⟨k, hk, rfl⟩ := hrel
          by_cases hlt : k < Q.length
          · have hi : (k : Int) < (Q.length : Int) := by omega
            obtain ⟨b, o, rfl, hbl, hcell⟩ := hs6.int hlt
            have HIN := hid (memB_iff.2 (HMB.out _ (List.getElem_mem hlt)))
            obtain ⟨q, hq⟩ : ∃ q, q = Q[k] := ⟨_, rfl⟩
            rw [← hq] at hcell HIN
            clear hq
            go_wp2_with fail
            refine (lisIn_any A2 c2 V q _ hs2 (Nat.le_trans hV4 (by decide))).mono ?_
            rintro e w9 ⟨he, rfl⟩
            rw [HIN.out] at he
            subst he
            go_wp2
            go_round
            case rel => exact ⟨k + 1, by omega, by go_num⟩
            case measure => simp [intOf]; omega
          · have hi : ¬ (k : Int) < (Q.length : Int) := by omega
            have hle : (V.length : Int) ≤ (Q.length : Int) + 1 := by have := HMO.out; omega
            have hw : IntKind.i64.wrap ((Q.length : Int) + 1) = (Q.length : Int) + 1 := by rw [IntKind.wrap_i64]; omega
            go_wp2
            go_ret
            exact ⟨by simp; try omega, dl.bel⟩
end Go.Proofs.Ytncijbmahidjbab

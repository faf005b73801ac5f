/-
  The walk of the law FnBusyAt: at every code it returns true and changes nothing that was there. Conditions: none.
-/
import Derived.Test.YtnkdhkhgfgcloaaSzG
import Derived.Test.YtnkdhkhgfgcloaaLsI
import Derived.Test.YtnkdhkhgfgcloaaLawLs
import Derived.Test.YtnkdhkhgfgcloaaBusyMath
import Derived.BigQuiet
import Derived.Deep.RegionHeldLaw
namespace Go.Proofs.Ytnkdhkhgfgcloaa
open Go.RowKit Lse

set_option maxHeartbeats 4000000 in
theorem walkBusyAt (a : Option Addr) (len cap : Nat) (zs : List Int) (w : World) (hn : zs.length = len) (hc : len ≤ cap) (hcc : cap ≤ maxLen) (h : Sees w w.heap.size a (byts zs)) (hz : ∀ y ∈ zs, 0 ≤ y ∧ y ≤ 255) :
    Calls Try.prog 8 #[.slice a len cap] w fun e w' => e = .returned (.bool true) ∧ Below w.heap.size w w' := by
  have HE := hid hn
  have HC := hid hcc
  have HZ := hid hz
  clear hn hcc hz
  by_cases hbig : 1048576 < len
  · go_enter Try.func8, Try.ntmps8
    go_wp2
    go_ret
    exact ⟨rfl, Below.refl _ _⟩
  · go_enter Try.func8, Try.ntmps8
    go_wp2_with fail
    refine (drawBusyAt_any _ _ _ _ _ h HZ.out HE.out hc (by omega) HC.out).mono ?_
    rintro e w1 ⟨A, c, l, t, rfl, dl⟩
    obtain ⟨V, hV⟩ : ∃ V, V = busy l t := ⟨_, rfl⟩
    have E : Hid (busy l t = V) := hid hV.symm
    have HVn : Hid (V.length ≤ 4194304) := hid (by rw [hV]; exact Nat.le_trans (busy_len l t) (by decide))
    have HASC := hid (busy_asc l t)
    have HBM := hid (fun hv => busy_most (l := l) hv t)
    rw [← hV] at HASC HBM
    have HEB := hid (busy_early l (t := -1) (by decide))
    clear hV
    go_wp2_with fail
    refine (iBusyAt_any A c l t _ dl.sees dl.2.2.2 (Nat.le_trans dl.2.2.1 (by decide))).mono ?_
    rintro e w2 ⟨v2, rfl, ho2, hb⟩
    rw [E.out] at ho2
    replace dl := dl.below hb
    clear hb
    obtain ⟨A2, c2, rfl, hs2⟩ := ho2.form
    go_wp2_with fail
    refine (sBusyAt_any A c l t _ dl.sees (Nat.le_trans dl.2.2.1 (by decide))).mono ?_
    rintro e w3 ⟨v3, rfl, ho3, hb⟩
    rw [E.out] at ho3
    replace dl := dl.below hb
    replace ho2 := ho2.below hb
    clear hb hs2
    obtain ⟨A3, c3, rfl, hs3⟩ := ho3.form
    have hs2 := Sees.of_own ho2.out
    go_wp2_with fail
    refine (eqI_same A2 A3 c2 c3 V _ hs2 hs3 HVn.out).mono ?_
    rintro e w4 ⟨rfl, hb⟩
    replace dl := dl.below hb
    replace ho2 := ho2.below hb
    clear hb hs2 hs3 ho3
    rcases hv : validB l with _ | _
    · have HV := hid hv
      clear hv
      go_wp2_with fail
      refine (iValidLeases_any A c l _ dl.sees dl.2.2.2 (Nat.le_trans dl.2.2.1 (by decide))).mono ?_
      rintro e w2 ⟨he, hb⟩
      rw [HV.out] at he
      subst he
      replace dl := dl.below hb
      replace ho2 := ho2.below hb
      clear hb
      go_wp2_with fail
      refine (sBusyAt_any A c l t _ dl.sees (Nat.le_trans dl.2.2.1 (by decide))).mono ?_
      rintro e w6 ⟨v6, rfl, ho6, hb⟩
      rw [E.out] at ho6
      replace dl := dl.below hb
      replace ho2 := ho2.below hb
      clear hb
      obtain ⟨A6, c6, rfl, hs6⟩ := ho6.form
      have hs2 := Sees.of_own ho2.out
      go_wp2_with fail
      refine (eqI_same A2 A6 c2 c6 V _ hs2 hs6 HVn.out).mono ?_
      rintro e w7 ⟨rfl, hb⟩
      replace dl := dl.below hb
      go_wp2
      go_ret
      exact ⟨rfl, dl.bel⟩
    · have HV := hid hv
      clear hv
      go_wp2_with fail
      refine (iValidLeases_any A c l _ dl.sees dl.2.2.2 (Nat.le_trans dl.2.2.1 (by decide))).mono ?_
      rintro e w2 ⟨he, hb⟩
      rw [HV.out] at he
      subst he
      replace dl := dl.below hb
      replace ho2 := ho2.below hb
      clear hb
      have hs2 := Sees.of_own ho2.out
      have hle : (V.length : Int) ≤ mostOf l := HBM.out HV.out
      have HV6 := hid (show V.length ≤ 6 by rw [← E.out]; exact busy_len l t)
      obtain ⟨M, hM⟩ : ∃ M, M = mostOf l := ⟨_, rfl⟩
      have EM : Hid (mostOf l = M) := hid hM.symm
      rw [← hM] at hle
      have HLE := hid hle
      clear hM hle HBM
      obtain ⟨w9, hw9⟩ : ∃ w9 : World, w9 = w2 := ⟨_, rfl⟩
      subst hw9
      go_wp2
      go_loopw [6] (fun i wr => ∃ k : Nat, Hid (1 ≤ k) ∧ i = .int .i64 k ∧ DL w wr A c l ∧ Below w9.heap.size w9 wr) (fun i _ => V.length - (intOf i).toNat)
      case atStart => exact ⟨1, hid (by omega), rfl, dl, Below.refl _ _⟩
      case round =>
        clear dl
        obtain ⟨k, HK, rfl, dl, hbw⟩ := hrel
        have hV6 := HV6.out
        by_cases hlt : k < V.length
        · have hi : (k : Int) < (V.length : Int) := by omega
          obtain ⟨q, hq⟩ : ∃ q, q + 1 = k := ⟨k - 1, by have := HK.out; omega⟩
          have hqv : q < V.length := by omega
          have hs := hs2.below hbw
          obtain ⟨b, o, rfl, hbl, e0⟩ := hs.int hlt
          obtain ⟨b', o', he, _, e1⟩ := hs.int hqv
          injection he with he
          injection he with he1 he2
          subst he1 he2
          have hasc : V[q] < V[k] := List.pairwise_iff_getElem.1 HASC.out q k hqv hlt (by omega)
          obtain ⟨x, hx⟩ : ∃ x, x = V[k] := ⟨_, rfl⟩
          obtain ⟨y, hy⟩ : ∃ y, y = V[q] := ⟨_, rfl⟩
          rw [← hx] at e0 hasc
          rw [← hy] at e1 hasc
          clear hx hy
          have hk0 : (0 : Int) ≤ (k : Int) := by omega
          have hq0 : (0 : Int) ≤ (q : Int) := by omega
          have hqi : (q : Int) < (V.length : Int) := by omega
          have hw : IntKind.i64.wrap ((k : Int) - 1) = (q : Int) := by rw [IntKind.wrap_i64]; omega
          have hng : ¬ x ≤ y := by omega
          have hk6 : k ≤ 6 := by omega
          clear hq
          go_wp2
          go_quiet (fail)
          go_wp2
          go_roundw
          case rel => exact ⟨k + 1, hid (by omega), by go_num, dl.drewN _, below_drewN hbw _⟩
          case measure => simp [intOf]; omega
        · have hi : ¬ (k : Int) < (V.length : Int) := by omega
          go_wp2_with fail
          refine (iMostLeased_any A c l _ dl.sees dl.cap dl.n4).mono ?_
          rintro e w6 ⟨he, hb⟩
          rw [EM.out] at he
          subst he
          replace dl := dl.below hb
          clear hb hbw
          have hle : (V.length : Int) ≤ M := HLE.out
          go_wp2_with fail
          refine (iBusyAt_any A c l (-1) _ dl.sees dl.cap dl.n4).mono ?_
          rintro e w7 ⟨v7, rfl, ho7, hb⟩
          rw [HEB.out] at ho7
          replace dl := dl.below hb
          obtain ⟨A7, c7, rfl, _⟩ := ho7.form
          clear hb ho7
          go_wp2
          go_ret
          exact ⟨by simp; try omega, dl.bel⟩
end Go.Proofs.Ytnkdhkhgfgcloaa

/-
  The walk of the law FnMeanLeased: at every code it returns true and changes nothing that was there. Conditions: none.
-/
import Derived.Test.YtnkdhkhgfgcloaaSzG
import Derived.Test.YtnkdhkhgfgcloaaLsI
import Derived.Test.YtnkdhkhgfgcloaaLawMeanLeasedMore
import Derived.BigQuiet
namespace Go.Proofs.Ytnkdhkhgfgcloaa
open Go.RowKit Lse

set_option maxHeartbeats 4000000 in
theorem walkMeanLeased (a : Option Addr) (len cap : Nat) (zs : List Int) (w : World) (hn : zs.length = len) (hc : len ≤ cap) (hcc : cap ≤ maxLen) (h : Sees w w.heap.size a (byts zs)) (hz : ∀ y ∈ zs, 0 ≤ y ∧ y ≤ 255) :
    Calls Try.prog 7 #[.slice a len cap] w fun e w' => e = .returned (.bool true) ∧ Below w.heap.size w w' := by
  have HE := hid hn
  have HC := hid hcc
  have HZ := hid hz
  clear hn hcc hz
  by_cases hbig : 1048576 < len
  · go_enter Try.func7, Try.ntmps7
    go_wp2
    go_ret
    exact ⟨rfl, Below.refl _ _⟩
  · go_enter Try.func7, Try.ntmps7
    go_wp2_with fail
    refine (drawMeanLeased_any _ _ _ _ _ h HZ.out HE.out hc (by omega) HC.out).mono ?_
    rintro e w1 ⟨A, c, l, u, rfl, dl⟩
    have hl13 := dl.2.2.1
    have HPO := hid (mean_pos (l := l) (u := u))
    have HEQ := hid (fun h1 h2 => mean_yes (l := l) (u := u) h1 h2)
    obtain ⟨V, hV⟩ : ∃ V, V = meanOf l u := ⟨_, rfl⟩
    have E : Hid (meanOf l u = V) := hid hV.symm
    rw [← hV] at HPO HEQ
    clear hV
    go_wp2_with fail
    refine (iMeanLeased_any A c l u _ dl.sees dl.cap dl.n4).mono ?_
    rintro e w2 ⟨he, hb⟩
    rw [E.out] at he
    subst he
    replace dl := dl.below hb
    clear hb
    go_wp2_with fail
    refine (sMeanLeased_any A c l u _ dl.sees dl.n4).mono ?_
    rintro e w2 ⟨he, hb⟩
    rw [E.out] at he
    subst he
    replace dl := dl.below hb
    clear hb
    by_cases hv0 : V < 0
    · skip
      go_wp2_with fail
      refine (sMeanLeased_any A c l u _ dl.sees dl.n4).mono ?_
      rintro e w2 ⟨he, hb⟩
      rw [E.out] at he
      subst he
      replace dl := dl.below hb
      clear hb
      go_wp2
      go_ret
      exact ⟨by simp, dl.bel⟩
    · obtain ⟨hv, hu⟩ := HPO.out (by omega)
      have HVE := hid (HEQ.out hv hu)
      obtain ⟨u1, u2⟩ := inB_iff.1 hu
      have HV := hid hv
      have HL13 := hid hl13
      clear hv hu hl13 HPO HEQ
      go_wp2
      go_loopw [6, 7] (fun s i wr => ∃ (k : Nat) (S : Int), Hid ((k : Int) ≤ u) ∧ i = .int .i64 k ∧ s = .int .i64 S ∧ Hid (S = aheads l k) ∧ DL w wr A c l) (fun _ i _ => u.toNat - (intOf i).toNat)
      case atStart => exact ⟨0, 0, hid (by omega), rfl, rfl, hid (aheads_zero l (validB_iff.1 HV.out).2.1).symm, dl⟩
      case round =>
        clear dl
        obtain ⟨k, S, HK, rfl, rfl, HS, dl⟩ := hrel
        have hl13 := HL13.out
        have hSb : 0 ≤ S ∧ S ≤ 12000 := by have h1 := aheads_bd (validB_iff.1 HV.out).2.1 (k : Int); have h2 := (validB_iff.1 HV.out).1; have := HS.out; omega
        obtain ⟨s0, s1⟩ := hSb
        by_cases hlt : (k : Int) < u
        · have hk0 : (0 : Int) ≤ (k : Int) := by omega
          have HN2 := hid (aheads_next l (validB_iff.1 HV.out).2.1 (k : Int))
          rw [← busy_over HV.out, ← HS.out] at HN2
          obtain ⟨Q, hQ⟩ : ∃ Q, Q = busy l (k : Int) := ⟨_, rfl⟩
          rw [← hQ] at HN2
          have EQ : Hid (busy l (k : Int) = Q) := hid hQ.symm
          have hQ6 : Q.length ≤ 6 := by rw [hQ]; exact busy_len l _
          clear hQ
          go_wp2_with fail
          refine (iBusyAt_any A c l k _ dl.sees dl.cap dl.n4).mono ?_
          rintro e w2 ⟨v2, rfl, ho2, hb⟩
          rw [EQ.out] at ho2
          replace dl := dl.below hb
          clear hb
          obtain ⟨A2, c2, rfl, hs2⟩ := ho2.form
          clear ho2 hs2
          have hw : IntKind.i64.wrap (S + (Q.length : Int)) = S + (Q.length : Int) := by rw [IntKind.wrap_i64]; omega
          have hk1000 : k ≤ 1000 := by omega
          go_wp2
          go_roundw
          case rel => exact ⟨k + 1, S + Q.length, hid (by omega), by go_num, rfl, hid (by have := HN2.out; rw [show ((k + 1 : Nat) : Int) = (k : Int) + 1 by omega]; exact this.symm), dl⟩
          case measure => simp [intOf]; omega
        · have hku : (k : Int) = u := by have := HK.out; omega
          have HM0 := hid (aheads_most l (validB_iff.1 HV.out).2.1 k)
          have HMV := hid (most_yes HV.out)
          have hM13 : mostV l ≤ 13 := Nat.le_trans (most_le l) hl13
          rw [← HS.out] at HM0
          have hS := HS.out
          rw [hku] at hS HM0
          have hVE := HVE.out
          rw [← hS] at hVE
          obtain ⟨M, hM⟩ : ∃ M : Int, M = (mostV l : Int) := ⟨_, rfl⟩
          rw [← hM] at HM0 HMV
          have m0 : 0 ≤ M ∧ M ≤ 13 := by omega
          obtain ⟨m0, m1⟩ := m0
          have hVM : V ≤ 100 * M := by
            have hm := HM0.out
            rw [hVE]
            refine Int.ediv_le_of_le_mul (by omega) ?_
            have e : 100 * M * u = 100 * (u * M) := by rw [Int.mul_assoc, Int.mul_comm M u]
            omega
          have hw1 : IntKind.i64.wrap (100 * S) = 100 * S := by rw [IntKind.wrap_i64]; omega
          have hw2 : IntKind.i64.wrap (100 * M) = 100 * M := by rw [IntKind.wrap_i64]; omega
          have hw3 : (100 * S).tdiv u = V := by rw [Int.tdiv_eq_ediv_of_nonneg (by omega)]; exact hVE.symm
          have hw4 : IntKind.i64.wrap V = V := by rw [IntKind.wrap_i64]; omega
          have hu0 : ¬ u = 0 := by omega
          have hu0b : (u == 0) = false := beq_eq_false_iff_ne.2 hu0
          clear hVE hS hM hku hM13 HM0
          go_wp2_with fail
          refine (iMostLeased_any A c l _ dl.sees dl.cap dl.n4).mono ?_
          rintro e w2 ⟨he, hb⟩
          rw [HMV.out] at he
          subst he
          replace dl := dl.below hb
          clear hb
          go_wp2
          go_ret
          exact ⟨by simp; try omega, dl.bel⟩
end Go.Proofs.Ytnkdhkhgfgcloaa

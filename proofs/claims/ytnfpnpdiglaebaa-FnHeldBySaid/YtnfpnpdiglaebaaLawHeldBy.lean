/-
  The walk of the law FnHeldBy: at every code it returns true and changes nothing that was there. Conditions: none.
-/
import Derived.Test.YtnfpnpdiglaebaaLawPl
import Derived.Test.YtnfpnpdiglaebaaLawFrame
import Derived.BigQuiet
import Derived.Deep.RegionHeld3
import Derived.Test.YtnfpnpdiglaebaaLawPlB
namespace Go.Proofs.Ytnfpnpdiglaebaa
open Go.RowKit Pol

set_option maxHeartbeats 8000000 in
set_option maxRecDepth 16384 in
theorem walkHeldBy (a : Option Addr) (len cap : Nat) (zs : List Int) (w : World) (hn : zs.length = len) (hc : len ≤ cap) (hcc : cap ≤ maxLen) (h : Sees w w.heap.size a (byts zs)) (hz : ∀ y ∈ zs, 0 ≤ y ∧ y ≤ 255) :
    Calls Try.prog 8 #[.slice a len cap] w fun e w' => e = .returned (.bool true) ∧ Below w.heap.size w w' := by
  have HE := hid hn
  have HC := hid hcc
  have HZ := hid hz
  clear hn hcc hz
  by_cases hbig : 1048576 < len
  · go_enter Try.func8, Try.ntmps8
    go_wp2
    go_ret
    exact ⟨rfl, Below.refl _ _⟩
  · go_enter Try.func8, Try.ntmps8
    go_wp2_with fail
    refine (drawHeldBy_any _ _ _ _ _ h HZ.out HE.out hc (by omega) HC.out).mono ?_
    rintro e w2 ⟨A1, A2, A3, c1, c2, c3, p, i, rfl, dq, hi1, hi2⟩
    have dp := dq.ownk
    have hB : DB w w2 := dq.belw
    have hl7 := dq.2.2
    clear dq
    replace dp := dp.alloc (.cells #[.int .i64 p.mx, .slice A1 p.idle.length c1, .slice A2 p.held.length c2, .slice A3 p.wait.length c3] 26)
    replace hB := hB.alloc (.cells #[.int .i64 p.mx, .slice A1 p.idle.length c1, .slice A2 p.held.length c2, .slice A3 p.wait.length c3] 26)
    have ps := At.new w2 26 #[.int .i64 p.mx, .slice A1 p.idle.length c1, .slice A2 p.held.length c2, .slice A3 p.wait.length c3]
    obtain ⟨H0, hH0⟩ : ∃ H, H = heldBy p i := ⟨_, rfl⟩
    have EH0 : Hid (heldBy p i = H0) := hid hH0.symm
    have HL0 := hid (show H0.length ≤ 4194304 by rw [hH0]; have := heldBy_len p i; omega)
    clear hH0
    obtain ⟨ps0, ps1, ps2, ps3, psl, psf⟩ := ps.fourP
    go_wp2_with fail
    with_reducible refine (iHeldBy_any p A1 A2 A3 c1 c2 c3 i _ dp.sees dp.i2 dp.h2 dp.w2).mono ?_
    rintro e w3 ⟨v3, rfl, ho, hb⟩
    rw [EH0.out] at ho
    replace dp := dp.below hb
    replace hB := hB.below hb
    replace ps := ps.below hb ps.lt
    clear hb
    clear ps0 ps1 ps2 ps3 psl psf
    obtain ⟨Al3, cl3, rfl, k3, _⟩ := own_form ho.out
    have l1 : Own w3 _ (.slice Al3 H0.length cl3) H0 := ho
    clear ho
    obtain ⟨ps0, ps1, ps2, ps3, psl, psf⟩ := ps.fourP
    go_wp2_with fail
    with_reducible refine (sHeldBy_any p A1 A2 A3 c1 c2 c3 i _ dp.sees dp.i2 dp.h2 dp.w2).mono ?_
    rintro e w4 ⟨v4, rfl, ho, hb⟩
    rw [EH0.out] at ho
    replace dp := dp.below hb
    replace hB := hB.below hb
    replace l1 := l1.below hb
    replace ps := ps.below hb ps.lt
    clear hb
    clear ps0 ps1 ps2 ps3 psl psf
    obtain ⟨Al4, cl4, rfl, k4, _⟩ := own_form ho.out
    have l2 : Own w4 _ (.slice Al4 H0.length cl4) H0 := ho
    clear ho
    obtain ⟨ps0, ps1, ps2, ps3, psl, psf⟩ := ps.fourP
    go_wp2_with fail
    with_reducible refine (kEq_same Al3 Al4 cl3 cl4 H0 _ (Sees.of_own l1.out) (Sees.of_own l2.out) HL0.out).mono ?_
    rintro e w5 ⟨rfl, hb⟩
    replace dp := dp.below hb
    replace hB := hB.below hb
    replace l1 := l1.below hb
    replace l2 := l2.below hb
    replace ps := ps.below hb ps.lt
    clear hb
    clear ps0 ps1 ps2 ps3 psl psf
    clear l2
    rcases hv : okB p with _ | _
    · skip
      have HV := hid hv
      clear hv
      obtain ⟨ps0, ps1, ps2, ps3, psl, psf⟩ := ps.fourP
      go_wp2_with fail
      with_reducible refine (iValidPool_any p A1 A2 A3 c1 c2 c3 _ dp.sees dp.i2 dp.h2 (Nat.le_trans dp.w2 (by decide))).mono ?_
      rintro e w6 ⟨he, hb⟩
      rw [HV.out] at he
      subst he
      replace dp := dp.below hb
      replace hB := hB.below hb
      replace l1 := l1.below hb
      replace ps := ps.below hb ps.lt
      clear hb
      clear ps0 ps1 ps2 ps3 psl psf
      obtain ⟨ps0, ps1, ps2, ps3, psl, psf⟩ := ps.fourP
      go_wp2_with fail
      with_reducible refine (sHeldBy_any p A1 A2 A3 c1 c2 c3 i _ dp.sees dp.i2 dp.h2 dp.w2).mono ?_
      rintro e w7 ⟨v7, rfl, ho, hb⟩
      rw [EH0.out] at ho
      replace dp := dp.below hb
      replace hB := hB.below hb
      replace l1 := l1.below hb
      replace ps := ps.below hb ps.lt
      clear hb
      clear ps0 ps1 ps2 ps3 psl psf
      obtain ⟨Al7, cl7, rfl, k7, _⟩ := own_form ho.out
      have l2 : Own w7 _ (.slice Al7 H0.length cl7) H0 := ho
      clear ho
      obtain ⟨ps0, ps1, ps2, ps3, psl, psf⟩ := ps.fourP
      go_wp2_with fail
      with_reducible refine (kEq_same Al3 Al7 cl3 cl7 H0 _ (Sees.of_own l1.out) (Sees.of_own l2.out) HL0.out).mono ?_
      rintro e w8 ⟨rfl, hb⟩
      replace dp := dp.below hb
      replace hB := hB.below hb
      replace l1 := l1.below hb
      replace l2 := l2.below hb
      replace ps := ps.below hb ps.lt
      clear hb
      clear ps0 ps1 ps2 ps3 psl psf
      obtain ⟨ps0, ps1, ps2, ps3, psl, psf⟩ := ps.fourP
      go_wp2
      go_ret
      exact ⟨by first | rfl | (simp; done) | (simp; omega), hB.bel⟩
    · skip
      have HV := hid hv
      have HALL := hid (heldSum_all hv)
      clear hv
      obtain ⟨ps0, ps1, ps2, ps3, psl, psf⟩ := ps.fourP
      go_wp2_with fail
      with_reducible refine (iValidPool_any p A1 A2 A3 c1 c2 c3 _ dp.sees dp.i2 dp.h2 (Nat.le_trans dp.w2 (by decide))).mono ?_
      rintro e w6 ⟨he, hb⟩
      rw [HV.out] at he
      subst he
      replace dp := dp.below hb
      replace hB := hB.below hb
      replace l1 := l1.below hb
      replace ps := ps.below hb ps.lt
      clear hb
      clear ps0 ps1 ps2 ps3 psl psf
      clear l1
      go_wp2
      go_loopw [6, 7] (fun n i wr => ∃ k : Nat, k ≤ 5 ∧ n = .int .i64 (heldSum p k : Nat) ∧ i = .int .i64 k ∧ (∃ bs : Nat, OwnK wr bs A1 A2 A3 c1 c2 c3 p) ∧ DB w wr ∧ At wr w2.heap.size 26 #[.int .i64 p.mx, .slice A1 p.idle.length c1, .slice A2 p.held.length c2, .slice A3 p.wait.length c3]) (fun _ i _ => 5 - (intOf i).toNat)
      case atStart => exact ⟨0, by decide, rfl, rfl, ⟨_, dp⟩, hB, ps⟩
      case round =>
        clear dp
        clear hB
        clear ps
        obtain ⟨k, hk, rfl, rfl, ⟨_, dp⟩, hB, ps⟩ := hrel
        by_cases hk5 : k < 5
        · skip
          have hki : (k : Int) < 5 := by omega
          obtain ⟨H, hH⟩ : ∃ H, H = heldBy p (k : Int) := ⟨_, rfl⟩
          have EH : Hid (heldBy p (k : Int) = H) := hid hH.symm
          have HNI := hid (show ∀ x, x ∈ H → memB p.idle x = false by rw [hH]; exact fun x hx => decide_eq_false (held_idle hx))
          have hH6 : H.length ≤ 6 := by rw [hH]; exact heldBy_len p (k : Int)
          have HS := hid (show heldSum p (k + 1) = heldSum p k + H.length by rw [hH]; exact heldSum_succ p k)
          have hle := heldSum_le p k
          clear hH
          obtain ⟨Q, hQ⟩ : ∃ Q, Q = heldSum p k := ⟨_, rfl⟩
          rw [← hQ] at HS hle
          simp only [← hQ]
          clear hQ
          have hwq : IntKind.i64.wrap ((Q : Int) + (H.length : Int)) = (Q : Int) + (H.length : Int) := by rw [IntKind.wrap_i64]; omega
          obtain ⟨ps0, ps1, ps2, ps3, psl, psf⟩ := ps.fourP
          go_wp2_with fail
          with_reducible refine (iHeldBy_any p A1 A2 A3 c1 c2 c3 (k : Int) _ dp.sees dp.i2 dp.h2 dp.w2).mono ?_
          rintro e w7 ⟨v7, rfl, ho, hb⟩
          rw [EH.out] at ho
          replace dp := dp.below hb
          replace hB := hB.below hb
          replace ps := ps.below hb ps.lt
          clear hb
          clear ps0 ps1 ps2 ps3 psl psf
          obtain ⟨Al7, cl7, rfl, k7, _⟩ := own_form ho.out
          have l1 : Own w7 _ (.slice Al7 H.length cl7) H := ho
          clear ho
          go_wp2
          go_loopw [9] (fun t wr => ∃ q : Nat, q ≤ H.length ∧ t = .int .i64 q ∧ (∃ bs : Nat, OwnK wr bs A1 A2 A3 c1 c2 c3 p) ∧ DB w wr ∧ (∃ bs : Nat, Own wr bs (.slice Al7 H.length cl7) H) ∧ At wr w2.heap.size 26 #[.int .i64 p.mx, .slice A1 p.idle.length c1, .slice A2 p.held.length c2, .slice A3 p.wait.length c3]) (fun t _ => H.length - (intOf t).toNat)
          case atStart => exact ⟨0, Nat.zero_le _, rfl, ⟨_, dp⟩, hB, ⟨_, l1⟩, ps⟩
          case round =>
            clear dp
            clear hB
            clear l1
            clear ps
            obtain ⟨q, hq, rfl, ⟨_, dp⟩, hB, ⟨_, l1⟩, ps⟩ := hrel
            by_cases hq : q < H.length
            · skip
              have hqi : (q : Int) < (H.length : Int) := by omega
              have hq0 : (0 : Int) ≤ (q : Int) := by omega
              obtain ⟨bb, oo, hE, _, e0⟩ := (Sees.of_own l1.out).int hq
              subst hE
              have HX := hid (HNI.out _ (List.getElem_mem hq))
              obtain ⟨x, hx⟩ : ∃ x, x = H[q] := ⟨_, rfl⟩
              rw [← hx] at e0 HX
              clear hx
              have hs1 := dp.sees.idle
              have hn4 := dp.n4.1
              obtain ⟨ps0, ps1, ps2, ps3, psl, psf⟩ := ps.fourP
              go_wp2_with fail
              go_quiet (first
                | (go_at_call 17; (with_reducible refine lisIn_qp HX.out rfl _ hs1 hn4)))
              clear ps0 ps1 ps2 ps3 psl psf
              replace dp := dp.below (below_drewN (Below.refl _ _) nq)
              replace hB := hB.below (below_drewN (Below.refl _ _) nq)
              replace l1 := l1.below (below_drewN (Below.refl _ _) nq)
              replace ps := ps.drewN nq
              clear e0 hs1 hn4
              obtain ⟨ps0, ps1, ps2, ps3, psl, psf⟩ := ps.fourP
              go_wp2
              go_roundw
              case rel => exact ⟨q + 1, by omega, by go_num, ⟨_, dp⟩, hB, ⟨_, l1⟩, ps⟩
              case measure => simp [intOf]; omega
            · skip
              have hqi : ¬ (q : Int) < (H.length : Int) := by omega
              clear l1
              obtain ⟨ps0, ps1, ps2, ps3, psl, psf⟩ := ps.fourP
              go_wp2
              go_roundw
              case rel => exact ⟨k + 1, by omega, by rw [HS.out]; go_num, by go_num, ⟨_, dp⟩, hB, ps⟩
              case measure => simp [intOf]; omega
        · skip
          have hki : ¬ (k : Int) < 5 := by omega
          have hk5e : k = 5 := by omega
          subst hk5e
          rw [HALL.out]
          obtain ⟨ps0, ps1, ps2, ps3, psl, psf⟩ := ps.fourP
          go_wp2
          go_ret
          exact ⟨by first | rfl | (simp; done) | (simp; omega), hB.bel⟩
end Go.Proofs.Ytnfpnpdiglaebaa

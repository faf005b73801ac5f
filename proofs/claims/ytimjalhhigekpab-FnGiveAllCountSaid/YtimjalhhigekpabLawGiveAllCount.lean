/-
  The walk of the law FnGiveAllCount: at every code it returns true and changes nothing that was there. Conditions: none.
-/
import Derived.Test.YtimjalhhigekpabLawSh

import Derived.Test.YtimjalhhigekpabLawFrame
import Derived.BigQuiet
import Derived.Deep.RegionHeld3
import Derived.Deep.CutRange
import Derived.Test.YtimjalhhigekpabShCountMath
import Derived.Test.YtimjalhhigekpabShareMathB
namespace Go.Proofs.Ytimjalhhigekpab
open Go.RowKit Sha

set_option maxHeartbeats 8000000 in
set_option maxRecDepth 16384 in
theorem walkGiveAllCount (a : Option Addr) (len cap : Nat) (zs : List Int) (w : World) (hn : zs.length = len) (hc : len ≤ cap) (hcc : cap ≤ maxLen) (h : Sees w w.heap.size a (byts zs)) (hz : ∀ y ∈ zs, 0 ≤ y ∧ y ≤ 255) :
    Calls Try.prog 7 #[.slice a len cap] w fun e w' => e = .returned (.bool true) ∧ Below w.heap.size w w' := by
  have HE := hid hn
  have HC := hid hcc
  have HZ := hid hz
  clear hn hcc hz
  by_cases hbig : 1048576 < len
  · go_enter Try.func7, Try.ntmps7
    go_wp2
    go_ret
    exact ⟨rfl, Below.refl _ _⟩
  · go_enter Try.func7, Try.ntmps7
    go_wp2_with fail
    refine (drawGiveAll_any _ _ _ _ _ h HZ.out HE.out hc (by omega) HC.out).mono ?_
    rintro e w2 ⟨A1, A2, c1, c2, s, A, c, gs, rfl, dl, sg, hg14, hgc⟩
    have hl6 := dl.2.2.2
    have HG4 := hid (Nat.le_trans hg14 (show 14 ≤ 4194304 by decide))
    replace dl := dl.alloc (.cells #[.int .i64 s.t, .slice A1 s.m.length c1, .slice A2 s.h.length c2] 25)
    replace sg := sg.alloc (.cells #[.int .i64 s.t, .slice A1 s.m.length c1, .slice A2 s.h.length c2] 25)
    have ps := At.new w2 25 #[.int .i64 s.t, .slice A1 s.m.length c1, .slice A2 s.h.length c2]
    obtain ⟨G, hG⟩ : ∃ G, G = giveA s gs := ⟨_, rfl⟩
    have EG : Hid (giveA s gs = G) := hid hG.symm
    have HG12 := hid (show G.length ≤ 12 by rw [hG]; exact giveA_len _ _)
    have HG5 := hid (Nat.le_trans HG12.out (show 12 ≤ 4194304 by decide))
    have HCT := hid (fun o => (show G.count o ≤ gs.count o by rw [hG]; exact giveA_count s gs o))
    have HRM := hid (fun (h : shareB s = true) => (show (G.length : Int) ≤ s.t - sm s.h by rw [hG]; exact giveA_room h gs))
    clear hG
    obtain ⟨ps0, ps1, ps2, psl, psf⟩ := ps.three
    go_wp2_with fail
    with_reducible refine (iGiveAll_any s gs A1 A2 A c1 c2 c _ dl.sees sg.sees dl.m4 dl.h4 HG4.out).mono ?_
    rintro e w3 ⟨vv, rfl, ho, hb⟩
    rw [EG.out] at ho
    replace dl := dl.below hb
    replace sg := sg.below hb
    replace ps := ps.below hb ps.lt
    clear hb
    clear ps0 ps1 ps2 psl psf
    obtain ⟨B3, d3, rfl, _⟩ := ho.form
    have u := ho
    clear ho
    obtain ⟨ps0, ps1, ps2, psl, psf⟩ := ps.three
    go_wp2_with fail
    with_reducible refine (sGiveAll_any s gs A1 A2 A c1 c2 c _ dl.sees sg.sees dl.m4 dl.h4 HG4.out).mono ?_
    rintro e w4 ⟨vv, rfl, ho, hb⟩
    rw [EG.out] at ho
    replace dl := dl.below hb
    replace sg := sg.below hb
    replace u := u.below hb
    replace ps := ps.below hb ps.lt
    clear hb
    clear ps0 ps1 ps2 psl psf
    obtain ⟨B4, d4, rfl, _⟩ := ho.form
    have v := ho
    clear ho
    obtain ⟨ps0, ps1, ps2, psl, psf⟩ := ps.three
    go_wp2_with fail
    with_reducible refine (qEq_same B3 B4 d3 d4 G _ (Sees.of_own u.out) (Sees.of_own v.out) HG5.out).mono ?_
    rintro e w5 ⟨rfl, hb⟩
    replace dl := dl.below hb
    replace sg := sg.below hb
    replace u := u.below hb
    replace v := v.below hb
    replace ps := ps.below hb ps.lt
    clear hb
    clear ps0 ps1 ps2 psl psf
    rcases hv : shareB s with _ | _
    · skip
      have HV := hid hv
      clear hv
      obtain ⟨ps0, ps1, ps2, psl, psf⟩ := ps.three
      go_wp2_with fail
      with_reducible refine (iValidShare_any s A1 A2 c1 c2 _ dl.sees dl.m4 dl.h4).mono ?_
      rintro e w6 ⟨he, hb⟩
      rw [HV.out] at he
      subst he
      replace dl := dl.below hb
      replace sg := sg.below hb
      replace u := u.below hb
      replace v := v.below hb
      replace ps := ps.below hb ps.lt
      clear hb
      clear ps0 ps1 ps2 psl psf
      obtain ⟨ps0, ps1, ps2, psl, psf⟩ := ps.three
      go_wp2_with fail
      with_reducible refine (sGiveAll_any s gs A1 A2 A c1 c2 c _ dl.sees sg.sees dl.m4 dl.h4 HG4.out).mono ?_
      rintro e w7 ⟨vv, rfl, ho, hb⟩
      rw [EG.out] at ho
      replace dl := dl.below hb
      replace sg := sg.below hb
      replace u := u.below hb
      replace v := v.below hb
      replace ps := ps.below hb ps.lt
      clear hb
      clear ps0 ps1 ps2 psl psf
      obtain ⟨B7, d7, rfl, _⟩ := ho.form
      have z := ho
      clear ho
      obtain ⟨ps0, ps1, ps2, psl, psf⟩ := ps.three
      go_wp2_with fail
      with_reducible refine (qEq_same B3 B7 d3 d7 G _ (Sees.of_own u.out) (Sees.of_own z.out) HG5.out).mono ?_
      rintro e w8 ⟨rfl, hb⟩
      replace dl := dl.below hb
      replace sg := sg.below hb
      replace u := u.below hb
      replace v := v.below hb
      replace z := z.below hb
      replace ps := ps.below hb ps.lt
      clear hb
      clear ps0 ps1 ps2 psl psf
      obtain ⟨ps0, ps1, ps2, psl, psf⟩ := ps.three
      go_wp2
      go_ret
      exact ⟨by first | rfl | (simp; done) | (simp; omega), dl.bel⟩
    · skip
      have HV := hid hv
      have hrm := HRM.out hv
      have HR1 := hid (share_range hv)
      have hsb := sm_bound (share_range hv)
      obtain ⟨⟨t0, t20⟩, h25, h35, h45, h55, h65⟩ := shareB_iff.1 hv
      rw [h45] at hsb
      have hw : IntKind.i64.wrap (s.t - sm s.h) = s.t - sm s.h := by rw [IntKind.wrap_i64]; omega
      have HRX := hid hrm
      clear hv h25 h35 h45 h55 h65 hsb hrm t0 t20
      obtain ⟨ps0, ps1, ps2, psl, psf⟩ := ps.three
      go_wp2_with fail
      with_reducible refine (iValidShare_any s A1 A2 c1 c2 _ dl.sees dl.m4 dl.h4).mono ?_
      rintro e w6 ⟨he, hb⟩
      rw [HV.out] at he
      subst he
      replace dl := dl.below hb
      replace sg := sg.below hb
      replace u := u.below hb
      replace v := v.below hb
      replace ps := ps.below hb ps.lt
      clear hb
      clear ps0 ps1 ps2 psl psf
      obtain ⟨ps0, ps1, ps2, psl, psf⟩ := ps.three
      go_wp2_with fail
      go_loop [6] (fun i => ∃ k : Nat, k ≤ 5 ∧ i = .int .i64 k) (fun i => 5 - (intOf i).toNat)
      case atStart => exact ⟨0, Nat.zero_le _, rfl⟩
      case round =>
        obtain ⟨k, hk, rfl⟩ := hrel
        by_cases hk5 : k < 5
        · skip
          have hki : (k : Int) < 5 := by omega
          have HK5 := hid hk5
          clear hk5
          have hg12 := HG12.out
          go_wp2_with fail
          go_loop [7, 8] (fun n i => ∃ j : Nat, j ≤ G.length ∧ i = .int .i64 j ∧ n = .int .i64 (((G.take j).count (k : Int) : Nat) : Int)) (fun _ i => G.length - (intOf i).toNat)
          case atStart => exact ⟨0, Nat.zero_le _, rfl, by simp⟩
          case round =>
            obtain ⟨j, hj, rfl, rfl⟩ := hrel
            by_cases hjl : j < G.length
            · skip
              have hji : (j : Int) < (G.length : Int) := by omega
              have hj0 : (0 : Int) ≤ (j : Int) := by omega
              obtain ⟨b, o, rfl, hbl, hcl⟩ := (Sees.of_own u.out).int hjl
              obtain ⟨s1, s2⟩ := cnt_succ hjl (k : Int)
              have hcb := cnt_le (G.take j) (k : Int)
              have htl : (G.take j).length ≤ 14 := by rw [List.length_take]; omega
              have HS1 := hid s1
              have HS2 := hid s2
              obtain ⟨x, hx⟩ : ∃ x, x = G[j]'hjl := ⟨_, rfl⟩
              rw [← hx] at hcl HS1 HS2
              clear hx s1 s2
              obtain ⟨Q, hQ⟩ : ∃ Q : Nat, Q = (G.take j).count (k : Int) := ⟨_, rfl⟩
              rw [← hQ] at hcb HS1 HS2
              have HJL := hid hjl
              rw [← hQ]
              clear hQ hjl
              have hw1 : IntKind.i64.wrap ((Q : Int) + 1) = (Q : Int) + 1 := by rw [IntKind.wrap_i64]; omega
              by_cases hx1 : x = (k : Int)
              · skip
                have hxb : (x == (k : Int)) = true := by simp [hx1]
                have HT := hid (HS1.out hx1)
                clear hx1
                go_wp2
                go_round
                case rel => exact ⟨j + 1, by have := HJL.out; omega, by go_num, by rw [HT.out]⟩
                case measure => have := HJL.out; simp [intOf]; omega
              · skip
                have hxb : (x == (k : Int)) = false := beq_eq_false_iff_ne.2 hx1
                have HT := hid (HS2.out hx1)
                clear hx1
                go_wp2
                go_round
                case rel => exact ⟨j + 1, by have := HJL.out; omega, by go_num, by rw [HT.out]⟩
                case measure => have := HJL.out; simp [intOf]; omega
            · skip
              have hji : ¬ (j : Int) < (G.length : Int) := by omega
              rw [take_whole hjl]
              have hcg := HCT.out (k : Int)
              have hcl := cnt_le G (k : Int)
              have hcm := cnt_le gs (k : Int)
              obtain ⟨M, hM⟩ : ∃ M : Nat, M = G.count (k : Int) := ⟨_, rfl⟩
              rw [← hM] at hcg hcl
              rw [← hM]
              have HCG := hid hcg
              clear hM hcg hjl hj
              go_wp2_with fail
              go_loop [7, 9] (fun n i => ∃ j : Nat, j ≤ gs.length ∧ i = .int .i64 j ∧ n = .int .i64 ((M : Int) - (((gs.take j).count (k : Int) : Nat) : Int))) (fun _ i => gs.length - (intOf i).toNat)
              case atStart => exact ⟨0, Nat.zero_le _, rfl, by simp⟩
              case round =>
                obtain ⟨j, hj, rfl, rfl⟩ := hrel
                by_cases hjl : j < gs.length
                · skip
                  have hji : (j : Int) < (gs.length : Int) := by omega
                  have hj0 : (0 : Int) ≤ (j : Int) := by omega
                  obtain ⟨b, o, rfl, hbl, hcl⟩ := sg.sees.int hjl
                  obtain ⟨s1, s2⟩ := cnt_succ hjl (k : Int)
                  have hcb := cnt_le (gs.take j) (k : Int)
                  have htl : (gs.take j).length ≤ 14 := by rw [List.length_take]; omega
                  have HS1 := hid s1
                  have HS2 := hid s2
                  obtain ⟨x, hx⟩ : ∃ x, x = gs[j]'hjl := ⟨_, rfl⟩
                  rw [← hx] at hcl HS1 HS2
                  clear hx s1 s2
                  obtain ⟨Q, hQ⟩ : ∃ Q : Nat, Q = (gs.take j).count (k : Int) := ⟨_, rfl⟩
                  rw [← hQ] at hcb HS1 HS2
                  have HJL := hid hjl
                  rw [← hQ]
                  clear hQ hjl
                  have hw1 : IntKind.i64.wrap ((M : Int) - (Q : Int) - 1) = (M : Int) - (Q : Int) - 1 := by rw [IntKind.wrap_i64]; omega
                  by_cases hx1 : x = (k : Int)
                  · skip
                    have hxb : (x == (k : Int)) = true := by simp [hx1]
                    have HT := hid (HS1.out hx1)
                    clear hx1
                    go_wp2
                    go_round
                    case rel => exact ⟨j + 1, by have := HJL.out; omega, by go_num, by rw [HT.out]; congr 1; omega⟩
                    case measure => have := HJL.out; simp [intOf]; omega
                  · skip
                    have hxb : (x == (k : Int)) = false := beq_eq_false_iff_ne.2 hx1
                    have HT := hid (HS2.out hx1)
                    clear hx1
                    go_wp2
                    go_round
                    case rel => exact ⟨j + 1, by have := HJL.out; omega, by go_num, by rw [HT.out]⟩
                    case measure => have := HJL.out; simp [intOf]; omega
                · skip
                  have hji : ¬ (j : Int) < (gs.length : Int) := by omega
                  rw [take_whole hjl]
                  have hcg := HCG.out
                  obtain ⟨Q, hQ⟩ : ∃ Q : Nat, Q = gs.count (k : Int) := ⟨_, rfl⟩
                  rw [← hQ] at hcg
                  rw [← hQ]
                  have hng : ¬ (0 : Int) < (M : Int) - (Q : Int) := by omega
                  clear hQ hcg hjl hj hcm
                  go_wp2
                  go_round
                  case rel => exact ⟨k + 1, by have := HK5.out; omega, by go_num⟩
                  case measure => have := HK5.out; simp [intOf]; omega
        · skip
          clear ps0 ps1 ps2 psl psf
          have hki : ¬ (k : Int) < 5 := by omega
          have ddl := dl.drew
          have dsg := sg.drew
          have du := u.drew
          have dv := v.drew
          have dps := ps.drew
          obtain ⟨ps0, ps1, ps2, psl, psf⟩ := ps.three
          go_wp2_with fail
          go_region_held3 (fun w' => w'.cell? ⟨w2.heap.size, 0, none⟩ = some (.int .i64 s.t) ∧ w'.cell? ⟨w2.heap.size, 1, none⟩ = some (.slice A1 s.m.length c1) ∧ w'.cell? ⟨w2.heap.size, 2, none⟩ = some (.slice A2 s.h.length c2))
            (first | with_reducible exact ⟨ps0, ps1, ps2⟩ | go_keep)
            (first
              | (go_at_call 20; with_reducible refine (lsum_any A2 c2 s.h _ ddl.seesh ddl.h5 HR1.out).mono ?_; rintro e w' ⟨rfl, rfl⟩)
              | fail)
          all_goals
            have hrx := HRX.out
            go_wp2
            go_ret
            exact ⟨by first | rfl | (simp; done) | (simp; omega), ddl.bel⟩
end Go.Proofs.Ytimjalhhigekpab

/-
  The walk of the law FnApplySettings: at every code it returns true and changes nothing that was there. Conditions: none.
-/
import Derived.Test.YtindbplgbfjjcaaLawSt
import Derived.Test.YtindbplgbfjjcaaLawFrame
import Derived.BigQuiet

namespace Go.Proofs.Ytindbplgbfjjcaa
open Go.RowKit Stt

set_option maxHeartbeats 8000000 in
theorem walkApplySettings (a : Option Addr) (len cap : Nat) (zs : List Int) (w : World) (hn : zs.length = len) (hc : len ≤ cap) (hcc : cap ≤ maxLen) (h : Sees w w.heap.size a (byts zs)) (hz : ∀ y ∈ zs, 0 ≤ y ∧ y ≤ 255) :
    Calls Try.prog 8 #[.slice a len cap] w fun e w' => e = .returned (.bool true) ∧ Below w.heap.size w w' := by
  have HE := hid hn
  have HC := hid hcc
  have HZ := hid hz
  clear hn hcc hz
  by_cases hbig : 1048576 < len
  · go_enter Try.func8, Try.ntmps8
    go_wp2
    go_ret
    exact ⟨rfl, Below.refl _ _⟩
  · go_enter Try.func8, Try.ntmps8
    go_wp2_with fail
    refine (drawApplySettings_any _ _ _ _ _ h HZ.out HE.out hc (by omega) HC.out).mono ?_
    rintro e w1 ⟨A, c, l, B, d, m, rfl, dl⟩
    obtain ⟨_, _, _, hl17, hlc, hm17, hmc, hcm⟩ := id dl
    unfold maxLen at hcm
    have HTL := hid (applyL_len l m)
    have HVT := hid (fun hh => apply_valid (l := l) (cs := m) hh)
    obtain ⟨T, hT⟩ : ∃ T, T = applyL l m := ⟨_, rfl⟩
    have ET : Hid (applyL l m = T) := hid hT.symm
    rw [← hT] at HTL
    rw [← hT] at HVT
    have HTN := hid (show T.length ≤ 4194304 by have := HTL.out; omega)
    have HT := hid hT
    clear hT
    rcases hk : applyB l m with _ | _
    · skip
      have EK := hid hk
      clear hk
      go_wp2_with fail
      refine (iApplySettings_any A B c d l m _ dl.s1 dl.s2 dl.n1 dl.n2).mono ?_
      rintro e w2 ⟨v1, he, ho1, hb⟩
      rw [ET.out] at ho1
      rw [EK.out] at he
      subst he
      replace dl := dl.below hb
      clear hb
      obtain ⟨A1, c1, rfl, hc1, hcm1, _⟩ := ho1.form
      go_wp2_with fail
      refine (sApplySettings_any A B c d l m _ dl.s1 dl.s2 dl.n1 dl.n2).mono ?_
      rintro e w2 ⟨v2, he, ho2, hb⟩
      rw [ET.out] at ho2
      rw [EK.out] at he
      subst he
      replace dl := dl.below hb
      replace ho1 := ho1.below hb
      clear hb
      obtain ⟨A2, c2, rfl, hc2, hcm2, _⟩ := ho2.form
      go_wp2_with fail
      refine (equalSettings_same A1 A2 c1 c2 T _ ho1.sees ho2.sees HTN.out).mono ?_
      rintro e w2 ⟨rfl, hb⟩
      replace dl := dl.below hb
      replace ho1 := ho1.below hb
      replace ho2 := ho2.below hb
      clear hb
      go_wp2_with fail
      refine (equalSettings_same A1 A2 c1 c2 T _ ho1.sees ho2.sees HTN.out).mono ?_
      rintro e w2 ⟨rfl, hb⟩
      replace dl := dl.below hb
      replace ho1 := ho1.below hb
      replace ho2 := ho2.below hb
      clear hb
      go_wp2
      go_ret
      exact ⟨by simp, dl.bel⟩
    · skip
      have EK := hid hk
      have HLA := hid (fun (k : Nat) (h1 : k < m.length) (h2 : k + 1 = m.length) => apply_last hk h1 h2)
      have HVV := hid (HVT.out hk)
      rw [ET.out] at HLA
      clear hk
      go_wp2_with fail
      refine (iApplySettings_any A B c d l m _ dl.s1 dl.s2 dl.n1 dl.n2).mono ?_
      rintro e w2 ⟨v1, he, ho1, hb⟩
      rw [ET.out] at ho1
      rw [EK.out] at he
      subst he
      replace dl := dl.below hb
      clear hb
      obtain ⟨A1, c1, rfl, hc1, hcm1, _⟩ := ho1.form
      go_wp2_with fail
      refine (sApplySettings_any A B c d l m _ dl.s1 dl.s2 dl.n1 dl.n2).mono ?_
      rintro e w2 ⟨v2, he, ho2, hb⟩
      rw [ET.out] at ho2
      rw [EK.out] at he
      subst he
      replace dl := dl.below hb
      replace ho1 := ho1.below hb
      clear hb
      obtain ⟨A2, c2, rfl, hc2, hcm2, _⟩ := ho2.form
      go_wp2_with fail
      refine (equalSettings_same A1 A2 c1 c2 T _ ho1.sees ho2.sees HTN.out).mono ?_
      rintro e w2 ⟨rfl, hb⟩
      replace dl := dl.below hb
      replace ho1 := ho1.below hb
      replace ho2 := ho2.below hb
      clear hb
      by_cases hm0 : m.length = 0
      · skip
        have hmb : ((m.length : Int) == 0) = true := by simpa using hm0
        have HM0 := hid hm0
        clear hm0
        go_wp2_with fail
        refine (equalSettings_same A1 A2 c1 c2 T _ ho1.sees ho2.sees HTN.out).mono ?_
        rintro e w2 ⟨rfl, hb⟩
        replace dl := dl.below hb
        replace ho1 := ho1.below hb
        replace ho2 := ho2.below hb
        clear hb
        go_wp2
        go_ret
        exact ⟨by simp, dl.bel⟩
      · skip
        have hmb : ((m.length : Int) == 0) = false := beq_eq_false_iff_ne.2 (by omega)
        obtain ⟨n, hn⟩ : ∃ n, m.length = n + 1 := ⟨m.length - 1, by omega⟩
        have hnm : n < m.length := by omega
        obtain ⟨b, o, rfl, hbl, f0, f1⟩ := dl.s2.stg hnm
        have HX := hid (HLA.out n hnm hn.symm)
        obtain ⟨x, hx⟩ : ∃ x, x = m[n] := ⟨_, rfl⟩
        rw [← hx] at f0 f1 HX
        clear hx hm0
        have hw1 : IntKind.i64.wrap ((m.length : Int) - 1) = (m.length : Int) - 1 := by rw [IntKind.wrap_i64]; omega
        have hw2 : (m.length : Int) - 1 = (n : Int) := by omega
        have p0 : (0 : Int) ≤ (n : Int) := by omega
        have p2 : (n : Int) < (m.length : Int) := by omega
        clear ho2
        obtain ⟨w3, hw3⟩ : ∃ w3, w3 = w2 := ⟨_, rfl⟩
        subst hw3
        have hB3 := dl.bel
        have hd3 : Below w3.heap.size w3 (w3.alloc (.cells #[.int .i64 x.n, .int .i64 x.v] 47)) := (Below.refl _ _).alloc (Nat.le_refl _) _
        have px := At.new w3 47 #[.int .i64 x.n, .int .i64 x.v]
        have ho1 := ho1.below hd3
        have hBw := hB3.trans (hd3.mono hB3.size)
        have hgw := hB3.size
        go_wp2
        go_loopw [10, 11] (fun v i wr => ∃ (k : Nat) (V : Int), k ≤ T.length ∧ i = .int .i64 k ∧ v = .int .i64 V ∧ Hid (val (T.take k) x.n = V) ∧ At wr w3.heap.size 47 #[.int .i64 x.n, .int .i64 x.v] ∧ Sees wr wr.heap.size A1 (strip stcl T) ∧ Below w.heap.size w wr) (fun _ i _ => T.length - (intOf i).toNat)
        case atStart => exact ⟨0, -1, Nat.zero_le _, rfl, rfl, hid rfl, px, ho1.sees, hBw⟩
        case round =>
          clear px ho1 hBw hd3 hB3 dl
          obtain ⟨k, V, hk, rfl, rfl, HV, px, hs, hb⟩ := hrel
          obtain ⟨p0, p1⟩ := (show _ ∧ _ from ⟨px.cell 0, px.cell 1⟩)
          have hTL := HTL.out
          by_cases hlt : k < T.length
          · skip
            have hi : (k : Int) < (T.length : Int) := by omega
            have hi0 : (0 : Int) ≤ (k : Int) := by omega
            obtain ⟨bb, oo, rfl, hbb, e0, e1⟩ := hs.stg hlt
            have HY := hid (fun hh => val_take_yes (n := x.n) HVV.out hlt hh)
            have HNO := hid (fun hh => val_take_no (n := x.n) hlt hh)
            obtain ⟨y, hy⟩ : ∃ y, y = T[k] := ⟨_, rfl⟩
            rw [← hy] at e0 e1
            rw [← hy] at HY
            rw [← hy] at HNO
            clear hy
            rcases hyx : (y.n == x.n) with _ | _
            · skip
              have HZ1 := hid (HNO.out (by simpa using hyx))
              go_wp2
              go_quiet (fail)
              go_wp2
              go_roundw
              case rel => exact ⟨k + 1, V, by omega, by go_num, rfl, hid (by rw [HZ1.out, HV.out]), px.drewN _, hs.drewN _, below_drewN hb _⟩
              case measure => simp [intOf]; omega
            · skip
              have HZ1 := hid (HY.out (by simpa using hyx))
              go_wp2
              go_quiet (fail)
              go_wp2
              go_roundw
              case rel => exact ⟨k + 1, y.v, by omega, by go_num, rfl, HZ1, px.drewN _, hs.drewN _, below_drewN hb _⟩
              case measure => simp [intOf]; omega
          · skip
            have hi : ¬ (k : Int) < (T.length : Int) := by omega
            have hv := HV.out
            rw [show T.take k = T from List.take_of_length_le (by omega), HX.out] at hv
            subst hv
            go_wp2_with fail
            refine (iValidSettings_any A1 c1 T _ hs HTN.out).mono ?_
            rintro e w4 ⟨he, hb4⟩
            rw [HVV.out] at he
            subst he
            go_wp2
            go_ret
            exact ⟨by simp, hb.trans (hb4.mono hb.size)⟩
end Go.Proofs.Ytindbplgbfjjcaa

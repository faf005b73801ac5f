/-
  The walk of the law FnValidPoolIdle: at every code it returns true and changes nothing that was there. Conditions: none.
-/
import Derived.Test.YtnfpnpdiglaebabLawPl
import Derived.Test.YtnfpnpdiglaebabLawFrame
import Derived.BigQuiet
import Derived.Deep.RegionHeld3
import Derived.Test.YtnfpnpdiglaebabLawPlB
namespace Go.Proofs.Ytnfpnpdiglaebab
open Go.RowKit Pol

set_option maxHeartbeats 8000000 in
set_option maxRecDepth 16384 in
theorem walkValidPoolIdle (a : Option Addr) (len cap : Nat) (zs : List Int) (w : World) (hn : zs.length = len) (hc : len ≤ cap) (hcc : cap ≤ maxLen) (h : Sees w w.heap.size a (byts zs)) (hz : ∀ y ∈ zs, 0 ≤ y ∧ y ≤ 255) :
    Calls Try.prog 6 #[.slice a len cap] w fun e w' => e = .returned (.bool true) ∧ Below w.heap.size w w' := by
  have HE := hid hn
  have HC := hid hcc
  have HZ := hid hz
  clear hn hcc hz
  by_cases hbig : 1048576 < len
  · go_enter Try.func6, Try.ntmps6
    go_wp2
    go_ret
    exact ⟨rfl, Below.refl _ _⟩
  · go_enter Try.func6, Try.ntmps6
    go_wp2_with fail
    refine (drawValidPool_any _ _ _ _ _ h HZ.out HE.out hc (by omega) HC.out).mono ?_
    rintro e w2 ⟨A1, A2, A3, c1, c2, c3, p, rfl, dq⟩
    have dp := dq.ownk
    have hB : DB w w2 := dq.belw
    have hl7 := dq.2.2
    clear dq
    replace dp := dp.alloc (.cells #[.int .i64 p.mx, .slice A1 p.idle.length c1, .slice A2 p.held.length c2, .slice A3 p.wait.length c3] 26)
    replace hB := hB.alloc (.cells #[.int .i64 p.mx, .slice A1 p.idle.length c1, .slice A2 p.held.length c2, .slice A3 p.wait.length c3] 26)
    have ps := At.new w2 26 #[.int .i64 p.mx, .slice A1 p.idle.length c1, .slice A2 p.held.length c2, .slice A3 p.wait.length c3]
    obtain ⟨j0, hj0, hy0, hy1, hy2⟩ := info_parts intInfo
    rcases hv : okB p with _ | _
    · skip
      have HV := hid hv
      clear hv
      obtain ⟨ps0, ps1, ps2, ps3, psl, psf⟩ := ps.fourP
      go_wp2_with fail
      with_reducible refine (iValidPool_any p A1 A2 A3 c1 c2 c3 _ dp.sees dp.i2 dp.h2 (Nat.le_trans dp.w2 (by decide))).mono ?_
      rintro e w3 ⟨he, hb⟩
      rw [HV.out] at he
      subst he
      replace dp := dp.below hb
      replace hB := hB.below hb
      replace ps := ps.below hb ps.lt
      clear hb
      clear ps0 ps1 ps2 ps3 psl psf
      obtain ⟨ps0, ps1, ps2, ps3, psl, psf⟩ := ps.fourP
      go_wp2_with fail
      with_reducible refine (sValidPool_any p A1 A2 A3 c1 c2 c3 _ dp.sees dp.i2 dp.h2 (Nat.le_trans dp.w2 (by decide))).mono ?_
      rintro e w4 ⟨he, hb⟩
      rw [HV.out] at he
      subst he
      replace dp := dp.below hb
      replace hB := hB.below hb
      replace ps := ps.below hb ps.lt
      clear hb
      clear ps0 ps1 ps2 ps3 psl psf
      obtain ⟨ps0, ps1, ps2, ps3, psl, psf⟩ := ps.fourP
      go_wp2_with fail
      with_reducible refine (sValidPool_any p A1 A2 A3 c1 c2 c3 _ dp.sees dp.i2 dp.h2 (Nat.le_trans dp.w2 (by decide))).mono ?_
      rintro e w5 ⟨he, hb⟩
      rw [HV.out] at he
      subst he
      replace dp := dp.below hb
      replace hB := hB.below hb
      replace ps := ps.below hb ps.lt
      clear hb
      clear ps0 ps1 ps2 ps3 psl psf
      obtain ⟨ps0, ps1, ps2, ps3, psl, psf⟩ := ps.fourP
      go_wp2
      go_ret
      exact ⟨by first | rfl | (simp; done) | (simp; omega), hB.bel⟩
    · skip
      have HV := hid hv
      have HBK := hid (ok_back (okB_iff.1 hv))
      have HIW := hid (ok_idle_wait (okB_iff.1 hv))
      clear hv
      obtain ⟨ps0, ps1, ps2, ps3, psl, psf⟩ := ps.fourP
      go_wp2_with fail
      with_reducible refine (iValidPool_any p A1 A2 A3 c1 c2 c3 _ dp.sees dp.i2 dp.h2 (Nat.le_trans dp.w2 (by decide))).mono ?_
      rintro e w3 ⟨he, hb⟩
      rw [HV.out] at he
      subst he
      replace dp := dp.below hb
      replace hB := hB.below hb
      replace ps := ps.below hb ps.lt
      clear hb
      clear ps0 ps1 ps2 ps3 psl psf
      obtain ⟨ps0, ps1, ps2, ps3, psl, psf⟩ := ps.fourP
      go_wp2_with fail
      with_reducible refine (sValidPool_any p A1 A2 A3 c1 c2 c3 _ dp.sees dp.i2 dp.h2 (Nat.le_trans dp.w2 (by decide))).mono ?_
      rintro e w4 ⟨he, hb⟩
      rw [HV.out] at he
      subst he
      replace dp := dp.below hb
      replace hB := hB.below hb
      replace ps := ps.below hb ps.lt
      clear hb
      clear ps0 ps1 ps2 ps3 psl psf
      have hn4 := dp.n4
      have hl0 := hl7.1
      have hw0 : IntKind.i64.wrap ((p.idle.length : Int) - 1) = (p.idle.length : Int) - 1 := by rw [IntKind.wrap_i64]; omega
      have dp0 := dp.alloc (.cells #[] 3)
      have hB0 := hB.alloc (.cells #[] 3)
      have ps0 := ps.alloc (.cells #[] 3)
      have ho0 : Own (w4.alloc (.cells #[] 3)) w4.heap.size (.slice (some ⟨w4.heap.size, 0, none⟩) 0 0) [] := made_at 3 1 rfl (Nat.le_refl _)
      have hb0 := (Below.refl w4.heap.size w4).alloc (Nat.le_refl _) (.cells #[] 3)
      obtain ⟨p0, p1, p2, p3, pl, pf⟩ := ps0.fourP
      go_wp2
      clear p0 p1 p2 p3 pl pf ps0 dp0 hB0
      go_loopw [5, 6] (fun v i wr => ∃ (j : Nat) (t : Int) (ys : List Int) (B : Option Addr) (d : Nat), j ≤ p.idle.length ∧ i = .int .i64 t ∧ Hid (t = (p.idle.length : Int) - 1 - (j : Int)) ∧ v = .slice B ys.length d ∧ Hid (ys = p.idle.reverse.take j) ∧ Own wr w4.heap.size v ys ∧ Below w4.heap.size w4 wr) (fun _ i _ => (intOf i + 1).toNat)
      case atStart => exact ⟨0, _, [], _, _, Nat.zero_le _, rfl, hid (by simp), rfl, hid rfl, ho0, hb0⟩
      case round =>
        clear ho0 hb0
        obtain ⟨j, t, ys, B, d, hj, rfl, HT, rfl, HY, ho, hbr⟩ := hrel
        have dpr := dp.below hbr
        have psr := ps.below hbr ps.lt
        have hBr := hB.below hbr
        have hyl : ys.length ≤ j := by rw [HY.out, List.length_take]; omega
        by_cases hlt : j < p.idle.length
        · skip
          obtain ⟨m, hm⟩ : ∃ m : Nat, t = m := ⟨t.toNat, by have := HT.out; omega⟩
          subst hm
          have hml : m < p.idle.length := by have := HT.out; omega
          have HS := hid (show p.idle.reverse.take (j + 1) = p.idle.reverse.take j ++ [p.idle[m]] by
            rw [List.take_succ_eq_append_getElem (by simpa using hlt), List.getElem_reverse]
            congr 3
            have := HT.out
            omega)
          obtain ⟨bb, oo, hE, _, e0⟩ := dpr.sees.idle.int hml
          obtain ⟨x, hx⟩ : ∃ x, x = p.idle[m] := ⟨_, rfl⟩
          rw [← hx] at e0 HS
          clear hx
          subst hE
          have m0 : (0 : Int) ≤ (m : Int) := by omega
          have m00 : (m : Int) ≥ 0 := by omega
          have m1 : (m : Int) < (p.idle.length : Int) := by omega
          have hw1 : IntKind.i64.wrap ((m : Int) - 1) = (m : Int) - 1 := by rw [IntKind.wrap_i64]; omega
          have hlow := ho.out.lt
          have hz5 := hbr.size
          obtain ⟨p0, p1, p2, p3, pl, pf⟩ := psr.fourP
          go_wp2_with (at_builtin; refine wpList_append_own _ rfl _ _ 23 rfl w4.heap.size 3 j0 (.int .i64 0) 1 8 Try.underlying23 hj0 hy0 hy1 hy2 rfl (by decide) _ _ _ rfl (own_alloc ho.out _) ⟨wr.heap.size, 0, none⟩ 1 1 [.int .i64 x] rfl rfl (cell_one_new _ _ _) ?c2 ?c3 ?c4 ?c5 ?_)
          case c2 => simp [Value.oneCell']
          case c3 => unfold maxLen; omega
          case c4 => omega
          case c5 => simp; omega
          case _ =>
            intro v6 w6 h6 hg7 _
            have ho6 : Own w6 w4.heap.size v6 (ys ++ [x]) := by unfold Own; rw [ints_app, List.length_append]; exact h6
            have hb6 : Below w4.heap.size (wr.alloc (.cells #[.int .i64 x] 3)) w6 := (Below.refl _ _).grown hg7 (by simp; omega) (fun q hq => (hlow q hq).1)
            have hb7 := (hbr.alloc hbr.size (.cells #[.int .i64 x] 3)).trans hb6
            obtain ⟨A6, c6, rfl, _⟩ := own_form h6
            have e6 : (ys ++ [x]).length = ys.length + 1 := by simp
            have HY6 := hid (show ys ++ [x] = p.idle.reverse.take (j + 1) by rw [HS.out, HY.out])
            have HT6 := hid (show (m : Int) - 1 = (p.idle.length : Int) - 1 - ((j + 1 : Nat) : Int) by have := HT.out; omega)
            clear h6 hg7 hb6 hlow ho psr dpr hBr p0 p1 p2 p3 pl pf e0
            go_wp2
            go_roundw
            case rel => exact ⟨j + 1, _, ys ++ [x], A6, c6, by omega, rfl, HT6, by rw [e6], HY6, ho6, hb7⟩
            case measure => simp [intOf]
        · skip
          have ht : t = -1 := by have := HT.out; omega
          have HYR := hid (show ys = p.idle.reverse by rw [HY.out]; exact List.take_of_length_le (by simp; omega))
          subst ht
          have HK := hid (show okB ⟨p.mx, ys, p.held, p.wait⟩ = true by rw [HYR.out]; exact HBK.out)
          have hs := Sees.of_own ho.out
          obtain ⟨p0, p1, p2, p3, pl, pf⟩ := psr.fourP
          go_wp2_with fail
          refine (iValidPool_any ⟨p.mx, ys, p.held, p.wait⟩ B A2 A3 d c2 c3 _ ⟨hs, dpr.sees.held, dpr.sees.wait⟩ (by show ys.length ≤ 2097152; omega) dpr.h2 (Nat.le_trans dpr.w2 (by decide))).mono ?_
          rintro e w9 ⟨he, hb9⟩
          rw [HK.out] at he
          subst he
          have ps9 := psr.below hb9 psr.lt
          have hB9 := hBr.below hb9
          clear p0 p1 p2 p3 pl pf
          obtain ⟨p0, p1, p2, p3, pl, pf⟩ := ps9.fourP
          rcases HIW.out with hz | hz
          · have hzb : ((p.wait.length : Int) == 0) = true := beq_iff_eq.2 (by omega)
            clear hz
            go_wp2
            go_ret
            exact ⟨rfl, hB9.bel⟩
          · have hzb : ((p.idle.length : Int) == 0) = true := beq_iff_eq.2 (by omega)
            clear hz
            rcases hwz : ((p.wait.length : Int) == 0) with _ | _
            · go_wp2
              go_ret
              exact ⟨rfl, hB9.bel⟩
            · go_wp2
              go_ret
              exact ⟨rfl, hB9.bel⟩
end Go.Proofs.Ytnfpnpdiglaebab

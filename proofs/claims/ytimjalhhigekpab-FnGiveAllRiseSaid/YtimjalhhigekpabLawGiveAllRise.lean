/-
  The walk of the law FnGiveAllRise: at every code it returns true and changes nothing that was there. Conditions: none.
-/
import Derived.Test.YtimjalhhigekpabLawSh

import Derived.Test.YtimjalhhigekpabLawFrame
import Derived.BigQuiet
import Derived.Deep.RegionHeld3
import Derived.Deep.CutRange
import Derived.Test.YtimjalhhigekpabShRiseMath
import Derived.Test.YtimjalhhigekpabShareMathB
import Derived.StillTailTactics
namespace Go.Proofs.Ytimjalhhigekpab
open Go.RowKit Sha

theorem own_at {w : World} {base n c : Nat} {A : Option Addr} {xs : List Int} (h : Own w base (.slice A n c) xs) (hn : 0 < xs.length) : ∃ g, A = some ⟨g, 0, none⟩ := by
  rcases h.out.2 with ⟨_, e⟩ | ⟨g, cap, cur, e, _⟩
  · omega
  · injection e with e1 _ _; exact ⟨g, e1⟩
theorem own_drew_set {w : World} {base : Nat} {v : Value} {xs : List Int} {a : Addr} {u : Value} (h : Own (w.setCell a u) base v xs) : Own (w.drew.setCell a u) base v xs := Own.below (w' := (w.setCell a u).drew) h (Below.refl _ _).drew
theorem below_drew_set {w w0 : World} {B : Nat} {a : Addr} {u : Value} (h : Below B w0 (w.setCell a u)) : Below B w0 (w.drew.setCell a u) := show Below B w0 (w.setCell a u).drew from h.drew
theorem own_cell {w : World} {base n c g : Nat} {xs : List Int} (h : Own w base (.slice (some ⟨g, 0, none⟩) n c) xs) (hn : xs.length = n) {p : Nat} (hp : p < xs.length) : w.cell? ⟨g, p, none⟩ = some (.int .i64 xs[p]) := by
  subst hn
  obtain ⟨b, o, e, _, hc⟩ := (Sees.of_own h.out).int hp
  injection e with e
  injection e with e1 e2
  subst e1 e2
  simpa using hc
set_option maxHeartbeats 8000000 in
set_option maxRecDepth 16384 in
theorem walkGiveAllRise (a : Option Addr) (len cap : Nat) (zs : List Int) (w : World) (hn : zs.length = len) (hc : len ≤ cap) (hcc : cap ≤ maxLen) (h : Sees w w.heap.size a (byts zs)) (hz : ∀ y ∈ zs, 0 ≤ y ∧ y ≤ 255) :
    Calls Try.prog 6 #[.slice a len cap] w fun e w' => e = .returned (.bool true) ∧ Below w.heap.size w w' := by
  have HE := hid hn
  have HC := hid hcc
  have HZ := hid hz
  clear hn hcc hz
  by_cases hbig : 1048576 < len
  · go_enter Try.func6, Try.ntmps6
    go_wp2
    go_ret
    exact ⟨rfl, Below.refl _ _⟩
  · go_enter Try.func6, Try.ntmps6
    go_wp2_with fail
    refine (drawGiveAll_any _ _ _ _ _ h HZ.out HE.out hc (by omega) HC.out).mono ?_
    rintro e w2 ⟨A1, A2, c1, c2, s, A, c, gs, rfl, dl, sg, hg14, hgc⟩
    have hl6 := dl.2.2.2
    have HG4 := hid (Nat.le_trans hg14 (show 14 ≤ 4194304 by decide))
    replace dl := dl.alloc (.cells #[.int .i64 s.t, .slice A1 s.m.length c1, .slice A2 s.h.length c2] 25)
    replace sg := sg.alloc (.cells #[.int .i64 s.t, .slice A1 s.m.length c1, .slice A2 s.h.length c2] 25)
    have ps := At.new w2 25 #[.int .i64 s.t, .slice A1 s.m.length c1, .slice A2 s.h.length c2]
    obtain ⟨G, hG⟩ : ∃ G, G = giveA s gs := ⟨_, rfl⟩
    have EG : Hid (giveA s gs = G) := hid hG.symm
    have HG12 := hid (show G.length ≤ 12 by rw [hG]; exact giveA_len _ _)
    have HG5 := hid (Nat.le_trans HG12.out (show 12 ≤ 4194304 by decide))
    have HRS := hid (fun (h : shareB s = true) => (show Rise s.h 0 G by rw [hG]; exact giveA_rise s gs h))
    have HGL := hid (show G.length ≤ gs.length by rw [hG]; exact giveA_le s gs)
    clear hG
    obtain ⟨ps0, ps1, ps2, psl, psf⟩ := ps.three
    go_wp2_with fail
    with_reducible refine (iGiveAll_any s gs A1 A2 A c1 c2 c _ dl.sees sg.sees dl.m4 dl.h4 HG4.out).mono ?_
    rintro e w3 ⟨vv, rfl, ho, hb⟩
    rw [EG.out] at ho
    replace dl := dl.below hb
    replace sg := sg.below hb
    replace ps := ps.below hb ps.lt
    clear hb
    clear ps0 ps1 ps2 psl psf
    obtain ⟨B3, d3, rfl, _⟩ := ho.form
    have u := ho
    clear ho
    obtain ⟨ps0, ps1, ps2, psl, psf⟩ := ps.three
    go_wp2_with fail
    with_reducible refine (sGiveAll_any s gs A1 A2 A c1 c2 c _ dl.sees sg.sees dl.m4 dl.h4 HG4.out).mono ?_
    rintro e w4 ⟨vv, rfl, ho, hb⟩
    rw [EG.out] at ho
    replace dl := dl.below hb
    replace sg := sg.below hb
    replace u := u.below hb
    replace ps := ps.below hb ps.lt
    clear hb
    clear ps0 ps1 ps2 psl psf
    obtain ⟨B4, d4, rfl, _⟩ := ho.form
    have v := ho
    clear ho
    obtain ⟨ps0, ps1, ps2, psl, psf⟩ := ps.three
    go_wp2_with fail
    with_reducible refine (qEq_same B3 B4 d3 d4 G _ (Sees.of_own u.out) (Sees.of_own v.out) HG5.out).mono ?_
    rintro e w5 ⟨rfl, hb⟩
    replace dl := dl.below hb
    replace sg := sg.below hb
    replace u := u.below hb
    replace v := v.below hb
    replace ps := ps.below hb ps.lt
    clear hb
    clear ps0 ps1 ps2 psl psf
    rcases hv : shareB s with _ | _
    · skip
      have HV := hid hv
      clear hv
      obtain ⟨ps0, ps1, ps2, psl, psf⟩ := ps.three
      go_wp2_with fail
      with_reducible refine (iValidShare_any s A1 A2 c1 c2 _ dl.sees dl.m4 dl.h4).mono ?_
      rintro e w6 ⟨he, hb⟩
      rw [HV.out] at he
      subst he
      replace dl := dl.below hb
      replace sg := sg.below hb
      replace u := u.below hb
      replace v := v.below hb
      replace ps := ps.below hb ps.lt
      clear hb
      clear ps0 ps1 ps2 psl psf
      obtain ⟨ps0, ps1, ps2, psl, psf⟩ := ps.three
      go_wp2_with fail
      with_reducible refine (sGiveAll_any s gs A1 A2 A c1 c2 c _ dl.sees sg.sees dl.m4 dl.h4 HG4.out).mono ?_
      rintro e w7 ⟨vv, rfl, ho, hb⟩
      rw [EG.out] at ho
      replace dl := dl.below hb
      replace sg := sg.below hb
      replace u := u.below hb
      replace v := v.below hb
      replace ps := ps.below hb ps.lt
      clear hb
      clear ps0 ps1 ps2 psl psf
      obtain ⟨B7, d7, rfl, _⟩ := ho.form
      have z := ho
      clear ho
      obtain ⟨ps0, ps1, ps2, psl, psf⟩ := ps.three
      go_wp2_with fail
      with_reducible refine (qEq_same B3 B7 d3 d7 G _ (Sees.of_own u.out) (Sees.of_own z.out) HG5.out).mono ?_
      rintro e w8 ⟨rfl, hb⟩
      replace dl := dl.below hb
      replace sg := sg.below hb
      replace u := u.below hb
      replace v := v.below hb
      replace z := z.below hb
      replace ps := ps.below hb ps.lt
      clear hb
      clear ps0 ps1 ps2 psl psf
      obtain ⟨ps0, ps1, ps2, psl, psf⟩ := ps.three
      go_wp2
      go_ret
      exact ⟨by first | rfl | (simp; done) | (simp; omega), dl.bel⟩
    · skip
      have HV := hid hv
      have HRI := hid (HRS.out hv)
      obtain ⟨_, h25, h35, h45, h55, h65⟩ := shareB_iff.1 hv
      have H45 := hid h45
      have HNB := hid (fun (k : Nat) (hk : k < 5) => (show 0 ≤ nth s.h (k : Int) ∧ nth s.h (k : Int) ≤ 20 by
        have a := h55 k (by omega)
        have b := h35 s.m[k] (List.getElem_mem (by omega : k < s.m.length))
        rw [nth_at (by omega : k < s.m.length)] at a
        omega))
      clear hv h25 h35 h45 h55 h65
      obtain ⟨ps0, ps1, ps2, psl, psf⟩ := ps.three
      go_wp2_with fail
      with_reducible refine (iValidShare_any s A1 A2 c1 c2 _ dl.sees dl.m4 dl.h4).mono ?_
      rintro e w6 ⟨he, hb⟩
      rw [HV.out] at he
      subst he
      replace dl := dl.below hb
      replace sg := sg.below hb
      replace u := u.below hb
      replace v := v.below hb
      replace ps := ps.below hb ps.lt
      clear hb
      clear ps0 ps1 ps2 psl psf
      clear v
      obtain ⟨i0, hi0, hz0, hz1, hz2⟩ := info_parts intInfo
      have h5 := H45.out
      obtain ⟨b0, o0, rfl, hz8, hz9⟩ := dl.seesh.int (by omega : 0 < s.h.length)
      clear hz8 hz9 h5
      have ho := Own.made w6 w6.heap.size (Nat.le_refl _)
      have hb := (Below.refl w6.heap.size w6).alloc (Nat.le_refl _) (.cells #[] 3)
      have hsh := dl.seesh
      have HDL := hid dl
      have HU := hid u
      obtain ⟨ps0, ps1, ps2, psl, psf⟩ := ps.three
      go_wp2_with (at_builtin; refine wpList_append_own _ rfl _ _ 23 rfl w6.heap.size 3 i0 (.int .i64 0) 1 8 Try.underlying23 hi0 hz0 hz1 hz2 rfl (by decide) _ _ _ rfl ho.out ⟨b0, o0, none⟩ s.h.length c2 (ints s.h) rfl ?c1 ?cn ?c2 ?c3 ?c4 ?c5 ?_)
      case c1 => simp [ints]
      case cn => exact (hsh.alloc (Nat.le_refl _) _).add
      case c2 => exact ints_one s.h
      case c3 => have := H45.out; unfold maxLen; simp; omega
      case c4 => have := H45.out; simp; omega
      case c5 => first | (simp; done) | (simp; omega)
      case _ =>
        intro v1 w9 h1 hg1 _
        have hO : Own w9 w6.heap.size v1 s.h := by simpa [Own, ints] using h1
        obtain ⟨A6, c6, rfl, _⟩ := hO.form
        obtain ⟨gh, rfl⟩ := own_at hO (by have := H45.out; omega)
        have hB := hb.grown hg1 (by simp) fun k hk => (ho.out.lt k hk).1
        clear h1 hg1 ho hb hsh dl u ps
        clear ps0 ps1 ps2 psl psf
        have h45 := H45.out
        go_wp2_with fail
        go_loopw [7, 8] (fun v i wr => ∃ (j : Nat) (H : List Int) (L : Int), j ≤ G.length ∧ i = .int .i64 j ∧ v = .int .i64 L ∧ Hid (H.length = 5) ∧ Hid (Rise H L (G.drop j)) ∧ Hid (∀ k : Nat, k < 5 → 0 ≤ nth H (k : Int) ∧ nth H (k : Int) ≤ 20 + j) ∧ Own wr w6.heap.size (.slice (some ⟨gh, 0, none⟩) 5 c6) H ∧ Below w6.heap.size w6 wr) (fun _ i _ => G.length - (intOf i).toNat)
        case atStart => exact ⟨0, s.h, 0, Nat.zero_le _, rfl, rfl, hid h45, hid HRI.out, hid (fun k hk => by have := HNB.out k hk; omega), by rw [← h45]; exact hO, hB⟩
        case round =>
          clear h45 hO hB
          obtain ⟨j, H, L, hj, rfl, rfl, HL5, HR, HB, hO, hB⟩ := hrel
          have hg12 := HG12.out
          have dl := HDL.out.below hB
          have u := HU.out.below hB
          by_cases hjl : j < G.length
          · skip
            have hji : (j : Int) < (G.length : Int) := by omega
            have hj0 : (0 : Int) ≤ (j : Int) := by omega
            obtain ⟨⟨p0, p5⟩, hle, hri⟩ := rise_drop hjl HR.out
            obtain ⟨bu, ou, rfl, _, cu⟩ := (Sees.of_own u.out).int hjl
            obtain ⟨y, hy⟩ : ∃ y, y = G[j]'hjl := ⟨_, rfl⟩
            rw [← hy] at cu p0 p5 hle hri
            obtain ⟨p, rfl⟩ : ∃ p : Nat, y = p := ⟨y.toNat, by omega⟩
            have hl5 := HL5.out
            have hpl : p < H.length := by omega
            have hnb := HB.out p (by omega)
            rw [nth_at hpl] at hle hnb hri
            rw [addO_set hpl] at hri
            have ch := own_cell hO hl5 hpl
            have hO4 : Own wr w6.heap.size (.slice (some ⟨gh, 0, none⟩) H.length c6) H := by rw [hl5]; exact hO
            have hput := row_put hO4.out p (.int .i64 (H[p] + 1))
            rw [ints_set, hl5] at hput
            have hfr := row_thaw hO4.out
            have hbg := row_base hO4.out
            obtain ⟨x, hx⟩ : ∃ x, x = H[p]'hpl := ⟨_, rfl⟩
            rw [← hx] at hle hnb hri ch hput
            have hB2 := below_put hB (grown_set wr gh p (.int .i64 (x + 1))) hbg.1 hB.size
            have HO2 := hid (show Own (wr.setCell ⟨gh, p, none⟩ (.int .i64 (x + 1))) w6.heap.size (.slice (some ⟨gh, 0, none⟩) 5 c6) (H.set p (x + 1)) by unfold Own; rw [List.length_set, hl5]; exact hput)
            have HB2 := hid hB2
            have HR2 := hid hri
            have HN2 := hid (show ∀ k : Nat, k < 5 → 0 ≤ nth (H.set p (x + 1)) (k : Int) ∧ nth (H.set p (x + 1)) (k : Int) ≤ 20 + ((j + 1 : Nat) : Int) from fun k hk => by
              have e := addO_set hpl 1
              rw [← hx] at e
              rw [← e, addO_nth (by omega) (by omega) (by omega)]
              have a := HB.out k hk
              rw [show ((j + 1 : Nat) : Int) = (j : Int) + 1 by omega]
              split <;> omega)
            have HL2 := hid (show (H.set p (x + 1)).length = 5 by rw [List.length_set]; exact HL5.out)
            have q1 : (0 : Int) ≤ (p : Int) := by omega
            have q2 : (p : Int) < 5 := by omega
            have q3 : ¬ (5 : Int) ≤ (p : Int) := by omega
            have q4 : decide (5 ≤ p) = false := decide_eq_false (by omega)
            have q5 : ¬ x < L := by omega
            have q6 : ¬ (p : Int) < 0 := by omega
            have q7 : (p : Int) < (s.h.length : Int) := by have := H45.out; omega
            have q8 : decide (s.h.length ≤ p) = false := decide_eq_false (by have := H45.out; omega)
            have hw : IntKind.i64.wrap (x + 1) = x + 1 := by rw [IntKind.wrap_i64]; omega
            have HJL := hid hjl
            clear hy hx p0 p5 hle hri hl5 hpl hnb hput hbg hB2 hjl dl u hO hO4 hB
            have cud : wr.drew.cell? ⟨bu, ou + j, none⟩ = some (.int .i64 (p : Int)) := cu
            have chd : wr.drew.cell? ⟨gh, p, none⟩ = some (.int .i64 x) := ch
            have hfd : ∀ i, wr.drew.frozen? ⟨gh, i, none⟩ = false := hfr
            go_wp2_with fail
            refine wp_region_still_tail 14 (by kernel_rfl) (by kernel_rfl) ?_
            simp only [List.take_succ_cons, List.take_zero, List.drop_succ_cons, List.drop_zero]
            change wpStill _ _ (World.drew wr) (fun a' => wpList _ _ _ _ a' (World.drew wr)) _ _
            obtain ⟨wd, hwd⟩ : ∃ wd, wd = World.drew wr := ⟨_, rfl⟩
            rw [← hwd] at cud chd hfd ⊢
            have HWD := hid hwd
            clear hwd
            skip
            clear cu ch hfr
            repeat still_step
            refine wpStill_nil ?_
            go_wp2
            go_roundw
            case rel => exact ⟨j + 1, H.set p (x + 1), x, by have := HJL.out; omega, by go_num, rfl, HL2, HR2, HN2, by rw [HWD.out]; exact own_drew_set HO2.out, by rw [HWD.out]; exact below_drew_set HB2.out⟩
            case measure => have := HJL.out; simp [intOf]; omega
          · skip
            have hji : ¬ (j : Int) < (G.length : Int) := by omega
            have hgl := HGL.out
            go_wp2
            go_ret
            exact ⟨by first | rfl | (simp; done) | (simp; omega), dl.bel⟩
end Go.Proofs.Ytimjalhhigekpab

/-
  The walk of the law FnGiveAll: at every code it returns true and changes nothing that was there. Conditions: none.
-/
import Derived.Test.YtimjalhhigekpabLawSh

import Derived.Test.YtimjalhhigekpabLawFrame
import Derived.BigQuiet
import Derived.Deep.RegionHeld3
import Derived.Deep.CutRange
import Derived.Test.YtimjalhhigekpabShStepMath
import Derived.Test.YtimjalhhigekpabShareMathB
import Derived.Deep.RegionHeldLaw
namespace Go.Proofs.Ytimjalhhigekpab
open Go.RowKit Sha

theorem ints_takes {w : World} {B : Nat} {A : Option Addr} {l : List Int} (h : Sees w B A (ints l)) (k : Nat) : Sees w B A (ints (l.take k)) := by
  rw [show ints (l.take k) = (ints l).take k by simp [ints]]; exact h.take k
theorem ints_drops {w : World} {B b o : Nat} {l : List Int} (h : Sees w B (some ⟨b, o, none⟩) (ints l)) (k : Nat) : Sees w B (some ⟨b, o + k, none⟩) (ints (l.drop k)) := by
  rw [show ints (l.drop k) = (ints l).drop k by simp [ints]]; exact h.drop (k := k) rfl
theorem own_erase {w : World} {base k m : Nat} {v : Value} {l : List Int} (hk : k < l.length) (hm : m = l.length - (k + 1)) (h : w.ownsRow base 3 1 v (0 + k + m) ([] ++ ints (l.take k) ++ ints (l.drop (k + 1)))) : Own w base v (l.eraseIdx k) := by
  have e1 : (l.eraseIdx k).length = 0 + k + m := by rw [List.length_eraseIdx, if_pos hk]; omega
  have e2 : ints (l.eraseIdx k) = [] ++ ints (l.take k) ++ ints (l.drop (k + 1)) := by rw [erase_two]; simp [ints]
  unfold Own
  rw [e1, e2]
  exact h
set_option maxHeartbeats 8000000 in
set_option maxRecDepth 16384 in
theorem walkGiveAll (a : Option Addr) (len cap : Nat) (zs : List Int) (w : World) (hn : zs.length = len) (hc : len ≤ cap) (hcc : cap ≤ maxLen) (h : Sees w w.heap.size a (byts zs)) (hz : ∀ y ∈ zs, 0 ≤ y ∧ y ≤ 255) :
    Calls Try.prog 5 #[.slice a len cap] w fun e w' => e = .returned (.bool true) ∧ Below w.heap.size w w' := by
  have HE := hid hn
  have HC := hid hcc
  have HZ := hid hz
  clear hn hcc hz
  by_cases hbig : 1048576 < len
  · go_enter Try.func5, Try.ntmps5
    go_wp2
    go_ret
    exact ⟨rfl, Below.refl _ _⟩
  · go_enter Try.func5, Try.ntmps5
    go_wp2_with fail
    refine (drawGiveAll_any _ _ _ _ _ h HZ.out HE.out hc (by omega) HC.out).mono ?_
    rintro e w2 ⟨A1, A2, c1, c2, s, A, c, gs, rfl, dl, sg, hg14, hgc⟩
    have hl6 := dl.2.2.2
    have HG4 := hid (Nat.le_trans hg14 (show 14 ≤ 4194304 by decide))
    replace dl := dl.alloc (.cells #[.int .i64 s.t, .slice A1 s.m.length c1, .slice A2 s.h.length c2] 25)
    replace sg := sg.alloc (.cells #[.int .i64 s.t, .slice A1 s.m.length c1, .slice A2 s.h.length c2] 25)
    have ps := At.new w2 25 #[.int .i64 s.t, .slice A1 s.m.length c1, .slice A2 s.h.length c2]
    obtain ⟨G, hG⟩ : ∃ G, G = giveA s gs := ⟨_, rfl⟩
    have EG : Hid (giveA s gs = G) := hid hG.symm
    have HG12 := hid (show G.length ≤ 12 by rw [hG]; exact giveA_len _ _)
    have HG5 := hid (Nat.le_trans HG12.out (show 12 ≤ 4194304 by decide))
    clear hG
    obtain ⟨ps0, ps1, ps2, psl, psf⟩ := ps.three
    go_wp2_with fail
    with_reducible refine (iGiveAll_any s gs A1 A2 A c1 c2 c _ dl.sees sg.sees dl.m4 dl.h4 HG4.out).mono ?_
    rintro e w3 ⟨vv, rfl, ho, hb⟩
    rw [EG.out] at ho
    replace dl := dl.below hb
    replace sg := sg.below hb
    replace ps := ps.below hb ps.lt
    clear hb
    clear ps0 ps1 ps2 psl psf
    obtain ⟨B3, d3, rfl, _⟩ := ho.form
    have u := ho
    clear ho
    obtain ⟨ps0, ps1, ps2, psl, psf⟩ := ps.three
    go_wp2_with fail
    with_reducible refine (sGiveAll_any s gs A1 A2 A c1 c2 c _ dl.sees sg.sees dl.m4 dl.h4 HG4.out).mono ?_
    rintro e w4 ⟨vv, rfl, ho, hb⟩
    rw [EG.out] at ho
    replace dl := dl.below hb
    replace sg := sg.below hb
    replace u := u.below hb
    replace ps := ps.below hb ps.lt
    clear hb
    clear ps0 ps1 ps2 psl psf
    obtain ⟨B4, d4, rfl, _⟩ := ho.form
    have v := ho
    clear ho
    obtain ⟨ps0, ps1, ps2, psl, psf⟩ := ps.three
    go_wp2_with fail
    with_reducible refine (qEq_same B3 B4 d3 d4 G _ (Sees.of_own u.out) (Sees.of_own v.out) HG5.out).mono ?_
    rintro e w5 ⟨rfl, hb⟩
    replace dl := dl.below hb
    replace sg := sg.below hb
    replace u := u.below hb
    replace v := v.below hb
    replace ps := ps.below hb ps.lt
    clear hb
    clear ps0 ps1 ps2 psl psf
    rcases hv : shareB s with _ | _
    · skip
      have HV := hid hv
      clear hv
      obtain ⟨ps0, ps1, ps2, psl, psf⟩ := ps.three
      go_wp2_with fail
      with_reducible refine (iValidShare_any s A1 A2 c1 c2 _ dl.sees dl.m4 dl.h4).mono ?_
      rintro e w6 ⟨he, hb⟩
      rw [HV.out] at he
      subst he
      replace dl := dl.below hb
      replace sg := sg.below hb
      replace u := u.below hb
      replace v := v.below hb
      replace ps := ps.below hb ps.lt
      clear hb
      clear ps0 ps1 ps2 psl psf
      obtain ⟨ps0, ps1, ps2, psl, psf⟩ := ps.three
      go_wp2_with fail
      with_reducible refine (sGiveAll_any s gs A1 A2 A c1 c2 c _ dl.sees sg.sees dl.m4 dl.h4 HG4.out).mono ?_
      rintro e w7 ⟨vv, rfl, ho, hb⟩
      rw [EG.out] at ho
      replace dl := dl.below hb
      replace sg := sg.below hb
      replace u := u.below hb
      replace v := v.below hb
      replace ps := ps.below hb ps.lt
      clear hb
      clear ps0 ps1 ps2 psl psf
      obtain ⟨B7, d7, rfl, _⟩ := ho.form
      have z := ho
      clear ho
      obtain ⟨ps0, ps1, ps2, psl, psf⟩ := ps.three
      go_wp2_with fail
      with_reducible refine (qEq_same B3 B7 d3 d7 G _ (Sees.of_own u.out) (Sees.of_own z.out) HG5.out).mono ?_
      rintro e w8 ⟨rfl, hb⟩
      replace dl := dl.below hb
      replace sg := sg.below hb
      replace u := u.below hb
      replace v := v.below hb
      replace z := z.below hb
      replace ps := ps.below hb ps.lt
      clear hb
      clear ps0 ps1 ps2 psl psf
      obtain ⟨ps0, ps1, ps2, psl, psf⟩ := ps.three
      go_wp2
      go_ret
      exact ⟨by first | rfl | (simp; done) | (simp; omega), dl.bel⟩
    · skip
      have HV := hid hv
      clear hv
      obtain ⟨ps0, ps1, ps2, psl, psf⟩ := ps.three
      go_wp2_with fail
      with_reducible refine (iValidShare_any s A1 A2 c1 c2 _ dl.sees dl.m4 dl.h4).mono ?_
      rintro e w6 ⟨he, hb⟩
      rw [HV.out] at he
      subst he
      replace dl := dl.below hb
      replace sg := sg.below hb
      replace u := u.below hb
      replace v := v.below hb
      replace ps := ps.below hb ps.lt
      clear hb
      clear ps0 ps1 ps2 psl psf
      by_cases hl12 : gs.length ≤ 12
      · skip
        have hlb : ¬ (12 : Int) < (gs.length : Int) := by omega
        have hl13 : decide (12 < gs.length) = false := decide_eq_false (by omega)
        have HL12 := hid hl12
        clear hl12
        obtain ⟨i0, hi0, hz0, hz1, hz2⟩ := info_parts intInfo
        clear v
        have HDL := hid dl
        have HU := hid u
        have HSG := hid sg
        obtain ⟨ps0, ps1, ps2, psl, psf⟩ := ps.three
        have hBw := (Below.refl w6.heap.size w6).alloc (Nat.le_refl _) (.cells #[.int .i64 s.t, .slice A1 s.m.length c1, .slice A2 s.h.length c2] 25)
        have pn := At.new w6 25 #[.int .i64 s.t, .slice A1 s.m.length c1, .slice A2 s.h.length c2]
        have sgn := sg.alloc (.cells #[.int .i64 s.t, .slice A1 s.m.length c1, .slice A2 s.h.length c2] 25)
        have dln := dl.alloc (.cells #[.int .i64 s.t, .slice A1 s.m.length c1, .slice A2 s.h.length c2] 25)
        have t1 := (show SeesF w6 (fun b => b = w6.heap.size) A1 (ints s.m) from dl.1.imp (fun b hb e => by omega)).alloc (.cells #[.int .i64 s.t, .slice A1 s.m.length c1, .slice A2 s.h.length c2] 25)
        have t2 := (show SeesF w6 (fun b => b = w6.heap.size) A2 (ints s.h) from dl.2.1.imp (fun b hb e => by omega)).alloc (.cells #[.int .i64 s.t, .slice A1 s.m.length c1, .slice A2 s.h.length c2] 25)
        obtain ⟨w1, hw1⟩ : ∃ w1, w1 = w6.alloc (.cells #[.int .i64 s.t, .slice A1 s.m.length c1, .slice A2 s.h.length c2] 25) := ⟨_, rfl⟩
        obtain ⟨gn, hgn⟩ : ∃ gn, gn = w6.heap.size := ⟨_, rfl⟩
        have HWG := hid hgn
        go_upto_region 8 with fail
        rw [← hw1] at hBw pn sgn dln t1 t2 ⊢
        rw [← hgn] at pn t1 t2 ⊢
        clear hw1 hgn dl u sg ps
        have hgl := pn.lt
        go_cut [7] from 45 to 47 (fun v7 wx => Own wx w1.heap.size v7 gs ∧ Below w1.heap.size w1 wx)
        case first =>
          have hl12 := HL12.out
          have hs := sgn.sees
          have ho := Own.made w1 w1.heap.size (Nat.le_refl _)
          have hb := (Below.refl w1.heap.size w1).alloc (Nat.le_refl _) (.cells #[] 3)
          rcases A with _ | ad
          · have e := hs.none_nil
            have e : gs = [] := by cases gs <;> simp_all [ints]
            subst e
            go_wp2_with fail
            go_meet
            exact ⟨ho, hb⟩
          · go_wp2_with (at_builtin; refine wpList_append_own _ rfl _ _ 23 rfl w1.heap.size 3 i0 (.int .i64 0) 1 8 Try.underlying23 hi0 hz0 hz1 hz2 rfl (by decide) _ _ _ rfl ho.out ad gs.length c (ints gs) rfl ?c1 ?cn ?c2 ?c3 ?c4 ?c5 ?_)
            case c1 => simp [ints]
            case cn => exact (hs.alloc (Nat.le_refl _) _).add
            case c2 => exact ints_one gs
            case c3 => unfold maxLen; simp; omega
            case c4 => simp; omega
            case c5 => first | (simp; done) | (simp; omega)
            case _ =>
              intro v9 w9 h9 hg9 _
              go_wp2_with fail
              go_meet
              exact ⟨by simpa [Own, ints] using h9, hb.grown hg9 (by simp) fun k hk => (ho.out.lt k hk).1⟩
        case rest =>
          obtain ⟨hO, hB7⟩ := hcut
          obtain ⟨A7, c7, rfl, _⟩ := hO.form
          have hB := hBw.trans (hB7.mono hBw.size)
          have pn2 := pn.below hB7 pn.lt
          have dn2 := dln.below hB7
          have hrel9 : shareB s = true ∧ giveA s gs = G.drop 0 := ⟨HV.out, by rw [EG.out]; rfl⟩
          have hl12 := HL12.out
          have hsf1 := t1.below hB7
          have hsf2 := t2.below hB7
          have HL6 := hid hl6
          clear pn sgn dln hBw hB7 dn2 t1 t2
          go_wp2_with fail
          go_loopw [7, 8] (fun v i wr => ∃ (j : Nat) (S : Shr) (A7 B1 B2 : Option Addr) (c7 d1 d2 : Nat) (Lf : List Int), j ≤ G.length ∧ i = .int .i64 j ∧ v = .slice A7 Lf.length c7 ∧ Hid (shareB S = true ∧ giveA S Lf = G.drop j) ∧ Hid (S.m.length ≤ 6 ∧ S.h.length ≤ 6) ∧ Hid (Lf.length ≤ 12) ∧ At wr gn 25 #[.int .i64 S.t, .slice B1 S.m.length d1, .slice B2 S.h.length d2] ∧ SeesF wr (fun b => b = gn) B1 (ints S.m) ∧ SeesF wr (fun b => b = gn) B2 (ints S.h) ∧ Own wr w1.heap.size (.slice A7 Lf.length c7) Lf ∧ Below w6.heap.size w6 wr) (fun _ i _ => G.length - (intOf i).toNat)
          case atStart => exact ⟨0, s, A7, A1, A2, c7, c1, c2, gs, Nat.zero_le _, rfl, rfl, hid hrel9, HL6, hid hl12, pn2, hsf1, hsf2, hO, hB⟩
          case round =>
            clear hl12 hsf1 hsf2 hrel9 pn2 hO hB
            obtain ⟨j, S, A8, B1, B2, c8, d1, d2, Lf, hj, rfl, rfl, HS, HSl, HLf, pn, hb1, hb2, hO, hB⟩ := hrel
            have hg12 := HG12.out
            have HN4 := hid (Nat.le_trans HSl.out.1 (show 6 ≤ 4194304 by decide))
            have HN5 := hid (Nat.le_trans HSl.out.2 (show 6 ≤ 4194304 by decide))
            have HLf4 := hid (Nat.le_trans HLf.out (show 12 ≤ 4194304 by decide))
            obtain ⟨n0, n1, n2, nl, nf⟩ := pn.three
            by_cases hjl : j < G.length
            · skip
              have hji : (j : Int) < (G.length : Int) := by omega
              have hj0 : (0 : Int) ≤ (j : Int) := by omega
              have HJL := hid hjl
              obtain ⟨o, ho⟩ : ∃ o, o = G[j]'hjl := ⟨_, rfl⟩
              have hst := HS.out.2
              rw [List.drop_eq_getElem_cons hjl, ← ho] at hst
              obtain ⟨k, hk1, hk2, hk3, hk4, hk5, hk6⟩ := all_step HS.out.1 hst
              have EX := hid hk1
              have HO := hid ho
              have EB := hid hk4
              have HS5 := hid hk5
              have HS6 := hid hk6
              have HK3 := hid hk3
              have HK2 := hid hk2
              clear hst hk1 hk3 hk4 hk5 hk6
              go_wp2_with fail
              refine (iNextOwner_any S Lf B1 B2 A8 d1 d2 c8 _ ⟨hb1.sees, hb2.sees⟩ (Sees.of_own hO.out) HN4.out HN5.out HLf4.out).mono ?_
              rintro e w20 ⟨he, hb⟩
              rw [EX.out] at he
              subst he
              replace pn := pn.below hb pn.lt
              replace hb1 := hb1.below hb
              replace hb2 := hb2.below hb
              replace hO := hO.below hb
              replace hB := hB.trans (hb.mono hB.size)
              clear hb n0 n1 n2 nl nf ho
              obtain ⟨bl, ol, rfl, _, cl⟩ := (Sees.of_own hO.out).int hk2
              rw [HK3.out] at cl
              have u := HU.out.below hB
              obtain ⟨bu, ou, rfl, hbu, cu⟩ := (Sees.of_own u.out).int HJL.out
              rw [← HO.out] at cu
              have k0 : (0 : Int) ≤ (k : Int) := by omega
              have k1 : (k : Int) < (Lf.length : Int) := by omega
              have k2 : ¬ (k : Int) < 0 := by omega
              have k3 : decide (Lf.length ≤ k) = false := decide_eq_false (by omega)
              clear u
              go_wp2
              go_quiet (fail)
              obtain ⟨wq, hwq⟩ : ∃ wq, wq = w20.drewN nq := ⟨_, rfl⟩
              have pnq := pn.below (below_drewN (Below.refl _ _) nq) pn.lt
              have b1q := hb1.below (below_drewN (Below.refl _ _) nq)
              have b2q := hb2.below (below_drewN (Below.refl _ _) nq)
              have hOq := hO.below (below_drewN (Below.refl _ _) nq)
              have hBq := below_drewN hB nq
              clear cl pn hb1 hb2 hO hB k2 k3
              have cuq : (w20.drewN nq).cell? ⟨bu, ou + j, none⟩ = some (.int .i64 o) := cu
              have hbuq : bu < (w20.drewN nq).heap.size := hbu
              have hR6 := (show (giveS S o 1).m.length ≤ 6 ∧ (giveS S o 1).h.length ≤ 6 from give_len HSl.out o 1)
              obtain ⟨R, hR⟩ : ∃ R, R = giveS S o 1 := ⟨_, rfl⟩
              have ER : Hid (giveS S o 1 = R) := hid hR.symm
              rw [← hR] at HS5 HS6 hR6
              have HR6 := hid hR6
              clear hR hR6 cu hbu
              rw [← hwq] at pnq b1q b2q hOq hBq cuq hbuq ⊢
              clear hwq
              have hW0 := (Below.refl wq.heap.size wq).drew
              have hWz := ((Below.refl wq.heap.size wq).alloc (Nat.le_refl _) (.cells #[.int .i64 0, .slice none 0 0, .slice none 0 0] 25)).drew
              have dR : SeesR wq.drew wq.drew.heap.size B1 B2 S := ⟨b1q.drew.sees, b2q.drew.sees⟩
              have zR : SeesR (wq.alloc (.cells #[.int .i64 0, .slice none 0 0, .slice none 0 0] 25)).drew (wq.alloc (.cells #[.int .i64 0, .slice none 0 0, .slice none 0 0] 25)).drew.heap.size B1 B2 S := ⟨(b1q.alloc (.cells #[.int .i64 0, .slice none 0 0, .slice none 0 0] 25)).drew.sees, (b2q.alloc (.cells #[.int .i64 0, .slice none 0 0, .slice none 0 0] 25)).drew.sees⟩
              obtain ⟨a0, a1, a2, al, af⟩ := pnq.three
              have HGQ := hid al
              have nz1 : ¬ gn = wq.heap.size := by omega
              have nz2 : ¬ wq.heap.size = gn := by omega
              have nc0 : ¬ bu = wq.heap.size := by omega
              have nd0 : ¬ wq.heap.size = bu := by omega
              go_upto_region 15 with fail
              go_cut [10, 11] from 77 to 84 (fun v10 v11 wx => ∃ (g8 : Nat) (E7 D7 : Option Addr) (d7 e7 : Nat), v10 = .pointer (some ⟨g8, 0, none⟩) ∧ v11 = .bool true ∧ At wx g8 25 #[.int .i64 R.t, .slice E7 R.m.length d7, .slice D7 R.h.length e7] ∧ OwnR wx wq.heap.size E7 D7 d7 e7 R ∧ wq.heap.size ≤ g8 ∧ Below wq.heap.size wq wx)
              case first =>
                go_region_held3 (fun w' => w'.cell? ⟨gn, 0, none⟩ = some (.int .i64 S.t) ∧ w'.cell? ⟨gn, 1, none⟩ = some (.slice B1 S.m.length d1) ∧ w'.cell? ⟨gn, 2, none⟩ = some (.slice B2 S.h.length d2) ∧ w'.cell? ⟨bu, ou + j, none⟩ = some (.int .i64 o))
                  (first | with_reducible exact ⟨a0, a1, a2, cuq⟩ | with_reducible exact ⟨b0, b1, b2, dcu⟩ | go_keep)
                  (first
                    | (go_at_call 11; (with_reducible refine (iGiveShare_any S o B1 B2 d1 d2 _ (by first | exact dR | exact zR) HN4.out HN5.out).mono ?_); rintro e wa ⟨E7, D7, d7, e7, he, ho7, hba⟩; rw [ER.out, EB.out] at he; rw [ER.out] at ho7; subst he; have hWa := (by first | exact hW0.trans (hba.mono hW0.size) | exact hWz.trans (hba.mono hWz.size) : Below wq.heap.size wq wa); have hoR := (by first | exact OwnR.mono ho7 (Nat.le_refl _) | exact OwnR.mono ho7 (Nat.le_of_lt (by simp)) : OwnR wa wq.heap.size E7 D7 d7 e7 R); obtain ⟨b0, b1, b2, bl9, bf⟩ := (pnq.below hWa pnq.lt).three; have dcu := ((hWa.cell (p := ⟨bu, ou + j, none⟩) hbuq).trans cuq); have na0 : ¬ bu = wa.heap.size := Nat.ne_of_lt (Nat.lt_of_lt_of_le hbuq hWa.size); have nb0 : ¬ wa.heap.size = bu := fun e => na0 e.symm; have ne1 : ¬ gn = wa.heap.size := Nat.ne_of_lt bl9; have ne2 : ¬ wa.heap.size = gn := fun e => ne1 e.symm; (try have pza := ((At.newAt 25 #[.int .i64 0, .slice none 0 0, .slice none 0 0] rfl).drew : At ((wq.alloc (.cells #[.int .i64 0, .slice none 0 0, .slice none 0 0] 25)).drew) wq.heap.size 25 #[.int .i64 0, .slice none 0 0, .slice none 0 0]).below hba (by simp)); (try obtain ⟨z0, z1, z2, zl, zf⟩ := pza.three))
                    | fail)
                · go_wp2_with fail
                  go_meet
                  exact ⟨wa.heap.size, E7, D7, d7, e7, rfl, rfl, At.new wa 25 #[.int .i64 R.t, .slice E7 R.m.length d7, .slice D7 R.h.length e7], hoR.alloc _, hWa.size, hWa.alloc hWa.size _⟩
                · go_wp2_with fail
                  go_meet
                  obtain ⟨hp8, hg8⟩ := three_put (.int .i64 R.t) (.slice E7 R.m.length d7) (.slice D7 R.h.length e7) pza rfl
                  exact ⟨_, E7, D7, d7, e7, rfl, rfl, hp8, hoR.past pza (by decide) hg8, Nat.le_refl _, below_put hWa hg8 (Nat.le_refl _) hWa.size⟩
              case rest =>
                obtain ⟨g8, E7, D7, d7, e7, rfl, rfl, pe, hoR, hge8, hWx⟩ := hcut
                have pn := pnq.below hWx pnq.lt
                have hO := hOq.below hWx
                have hB := hBq.trans (hWx.mono hBq.size)
                clear hW0 hWz dR zR a0 a1 a2 al af nz1 nz2 nc0 nd0 pnq b1q b2q hOq cuq hbuq
                obtain ⟨hp9, hg9⟩ := three_put (.int .i64 R.t) (.slice E7 R.m.length d7) (.slice D7 R.h.length e7) pn rfl
                have hO9 : Own _ w1.heap.size _ Lf := row_past hO.out pn (by decide) hg9
                have hR9 := hoR.past pn (by decide) hg9
                have hB9 := below_put hB hg9 (by rw [HWG.out]; exact Nat.le_refl _) hB.size
                obtain ⟨e0, e1, e2, el, ef⟩ := pe.three
                obtain ⟨n0, n1, n2, nl, nf⟩ := pn.three
                have HP9 := hid hp9
                have HO9 := hid hO9
                have HR9 := hid hR9
                have HB9 := hid hB9
                clear hp9 hg9 hO9 hR9 hB9 hO hB hoR
                go_upto_region 19 with fail
                clear e0 e1 e2 el ef n0 n1 n2 nl nf pe pn
                obtain ⟨wd, hwd⟩ : ∃ wd, wd = (((wc.setCell ⟨gn, 0, none⟩ (.int .i64 R.t)).setCell ⟨gn, 1, none⟩ (.slice E7 R.m.length d7)).setCell ⟨gn, 2, none⟩ (.slice D7 R.h.length e7)) := ⟨_, rfl⟩
                have hp9 := HP9.out
                have hO9 := HO9.out
                have hR9 := HR9.out
                have hB9 := HB9.out
                rw [← hwd] at hp9 hO9 hR9 hB9 ⊢
                clear hwd HP9 HO9 HR9 HB9
                have hcp8 : Lf.length ≤ c8 := by obtain ⟨_, _, e, r1, _⟩ := own_form hO9.out; injection e with _ _ e <;> omega
                have hk2 := HK2.out
                have hl12 := HLf.out
                have hs3 := Sees.of_own hO9.out
                have hsT := ints_takes hs3 k
                skip
                have hcp8 : Lf.length ≤ c8 := by obtain ⟨_, _, e, r1, _⟩ := own_form hO9.out; injection e with _ _ e <;> omega
                have hk2 := HK2.out
                have hl12 := HLf.out
                have hs3 := Sees.of_own hO9.out
                have hsT := ints_takes hs3 k
                have hlow : w1.heap.size ≤ wd.heap.size := by have := hO9.out.lt bl rfl; omega
                have g0 : (0 : Int) ≤ (k : Int) := by omega
                have g1 : (k : Int) < (Lf.length : Int) := by omega
                have g2 : (k : Int) ≤ (c8 : Int) := by omega
                have g3 : (k : Int) + 1 ≤ (Lf.length : Int) := by omega
                have g4 : (Lf.length : Int) ≤ (c8 : Int) := by omega
                have g5 : IntKind.i64.wrap ((k : Int) + 1) = (k : Int) + 1 := by rw [IntKind.wrap_i64]; omega
                have HL1 := hid (show (ints (Lf.take k)).length = k * 1 by first | (simp [ints]; done) | (simp [ints]; omega))
                have HL2 := hid (show (ints (Lf.drop (k + 1))).length = (Lf.length - (k + 1)) * 1 by simp [ints])
                by_cases hck : c8 = k + 1
                · skip
                  have HD0 := hid (show ints (Lf.drop (k + 1)) = [] by rw [List.drop_eq_nil_of_le (by omega)]; rfl)
                  have HLK := hid (show 0 = Lf.length - (k + 1) by omega)
                  subst hck
                  go_wp2_with fail
                  go_region_held_law (fun _ => True)
                    (trivial)
                    (first
                      | (refine step_append_want _ (by rfl) _ _ 23 (by rfl) wd.heap.size 3 i0 (.int .i64 0) 1 8 Try.underlying23 hi0 hz0 hz1 hz2 rfl (by decide) (.slice (some ⟨wd.heap.size, 0, none⟩) 0 0) 0 [] (by rfl) (made_at 3 1 rfl (Nat.le_refl _)) ⟨bl, ol, none⟩ k (k + 1) (ints (Lf.take k)) (by rfl) (HL1.out) (((hsT.alloc (Nat.le_refl _) _).drew).add) (ints_one _) (by unfold maxLen; omega) (by omega) (by simp) ?_; intro v4 w4 h4 hg4; have hb4 : Below wd.heap.size wd w4 := Below.grown (by go_grown) hg4 (by simp) (fun q hq => by injection hq with hq; exact Nat.le_of_eq hq))
                      | (refine step_append_want _ (by rfl) _ _ 23 (by rfl) wd.heap.size 3 i0 (.int .i64 0) 1 8 Try.underlying23 hi0 hz0 hz1 hz2 rfl (by decide) v4 (0 + k) ([] ++ ints (Lf.take k)) (by rfl) (h4) ⟨bl, ol, none⟩ 0 0 (ints (Lf.drop (k + 1))) (by rfl) (by rw [HD0.out]; rfl) (by intro j u hu; rw [HD0.out] at hu; simp at hu) (ints_one _) (by unfold maxLen; omega) (by omega) (hb4.size) ?_; intro v5 w5 h5 hg5; have hb5 : Below wd.heap.size wd w5 := hb4.grown hg5 hb4.size (fun q hq => (h4.lt q hq).1))
                      | fail)
                  all_goals
                    have hO7 : Own w5 wd.heap.size v5 (Lf.eraseIdx k) := own_erase HK2.out HLK.out h5
                    have HO7 := hid (Own.mono hO7 hlow)
                    have hB7 := hB9.trans (hb5.mono hB9.size)
                    have hp7 := hp9.below hb5 hp9.lt
                    have hR7 := hR9.below hb5
                    skip
                    have hgq : gn < wq.heap.size := HGQ.out
                    have s1 : SeesF _ (fun b => b = gn) E7 (ints R.m) := SeesF.of_row hR7.1.out (fun b hb _ e => by omega)
                    have s2 : SeesF _ (fun b => b = gn) D7 (ints R.h) := SeesF.of_row hR7.2.1.out (fun b hb _ e => by omega)
                    obtain ⟨A9, c9, e9, _⟩ := HO7.out.form
                    have HO8 := HO7.out
                    subst e9
                    have HX := hid (show Lf.eraseIdx k = Lf.eraseIdx k from rfl)
                    have hel : (Lf.eraseIdx k).length ≤ 12 := by rw [List.length_eraseIdx]; split <;> omega
                    have HEL := hid hel
                    clear hel hO7 hb5 hp9 hO9 hR9 hB9 hs3 hsT hcp8
                    have h6b : shareB R = true ∧ giveA R (Lf.eraseIdx k) = G.drop (j + 1) := ⟨HS5.out, HS6.out⟩
                    have H6B := hid h6b
                    clear h6b
                    go_wp2
                    go_roundw
                    case rel => exact ⟨j + 1, R, A9, E7, D7, c9, d7, e7, Lf.eraseIdx k, by have := HJL.out; omega, by go_num, rfl, H6B, HR6, HEL, hp7, s1, s2, HO8, hB7⟩
                    case measure => have := HJL.out; simp [intOf]; omega
                · skip
                  have hsD := ints_drops hs3 (k + 1)
                  have hck2 : ¬ k + 1 = c8 := fun e => hck e.symm
                  go_wp2_with fail
                  go_region_held_law (fun _ => True)
                    (trivial)
                    (first
                      | (refine step_append_want _ (by rfl) _ _ 23 (by rfl) wd.heap.size 3 i0 (.int .i64 0) 1 8 Try.underlying23 hi0 hz0 hz1 hz2 rfl (by decide) (.slice (some ⟨wd.heap.size, 0, none⟩) 0 0) 0 [] (by rfl) (made_at 3 1 rfl (Nat.le_refl _)) ⟨bl, ol, none⟩ k c8 (ints (Lf.take k)) (by rfl) (HL1.out) (((hsT.alloc (Nat.le_refl _) _).drew).add) (ints_one _) (by unfold maxLen; omega) (by omega) (by simp) ?_; intro v4 w4 h4 hg4; have hb4 : Below wd.heap.size wd w4 := Below.grown (by go_grown) hg4 (by simp) (fun q hq => by injection hq with hq; exact Nat.le_of_eq hq))
                      | (refine step_append_want _ (by rfl) _ _ 23 (by rfl) wd.heap.size 3 i0 (.int .i64 0) 1 8 Try.underlying23 hi0 hz0 hz1 hz2 rfl (by decide) v4 (0 + k) ([] ++ ints (Lf.take k)) (by rfl) (h4) ⟨bl, ol + (k + 1), none⟩ (Lf.length - (k + 1)) (c8 - (k + 1)) (ints (Lf.drop (k + 1))) (by rfl) (HL2.out) ((hsD.below hb4).add) (ints_one _) (by unfold maxLen; omega) (by omega) (hb4.size) ?_; intro v5 w5 h5 hg5; have hb5 : Below wd.heap.size wd w5 := hb4.grown hg5 hb4.size (fun q hq => (h4.lt q hq).1))
                      | fail)
                  all_goals
                    have hO7 : Own w5 wd.heap.size v5 (Lf.eraseIdx k) := own_erase HK2.out rfl h5
                    have HO7 := hid (Own.mono hO7 hlow)
                    have hB7 := hB9.trans (hb5.mono hB9.size)
                    have hp7 := hp9.below hb5 hp9.lt
                    have hR7 := hR9.below hb5
                    skip
                    have hgq : gn < wq.heap.size := HGQ.out
                    have s1 : SeesF _ (fun b => b = gn) E7 (ints R.m) := SeesF.of_row hR7.1.out (fun b hb _ e => by omega)
                    have s2 : SeesF _ (fun b => b = gn) D7 (ints R.h) := SeesF.of_row hR7.2.1.out (fun b hb _ e => by omega)
                    obtain ⟨A9, c9, e9, _⟩ := HO7.out.form
                    have HO8 := HO7.out
                    subst e9
                    have HX := hid (show Lf.eraseIdx k = Lf.eraseIdx k from rfl)
                    have hel : (Lf.eraseIdx k).length ≤ 12 := by rw [List.length_eraseIdx]; split <;> omega
                    have HEL := hid hel
                    clear hel hO7 hb5 hp9 hO9 hR9 hB9 hs3 hsT hcp8
                    have h6b : shareB R = true ∧ giveA R (Lf.eraseIdx k) = G.drop (j + 1) := ⟨HS5.out, HS6.out⟩
                    have H6B := hid h6b
                    clear h6b
                    go_wp2
                    go_roundw
                    case rel => exact ⟨j + 1, R, A9, E7, D7, c9, d7, e7, Lf.eraseIdx k, by have := HJL.out; omega, by go_num, rfl, H6B, HR6, HEL, hp7, s1, s2, HO8, hB7⟩
                    case measure => have := HJL.out; simp [intOf]; omega
            · skip
              have hji : ¬ (j : Int) < (G.length : Int) := by omega
              have hnx := all_end HS.out.1 (by rw [HS.out.2, List.drop_eq_nil_of_le (by omega)])
              have EX := hid hnx
              clear hnx
              go_wp2_with fail
              refine (iNextOwner_any S Lf B1 B2 A8 d1 d2 c8 _ ⟨hb1.sees, hb2.sees⟩ (Sees.of_own hO.out) HN4.out HN5.out HLf4.out).mono ?_
              rintro e w20 ⟨he, hb⟩
              rw [EX.out] at he
              subst he
              have hBf := hB.trans (hb.mono hB.size)
              have dl := HDL.out.below hBf
              go_wp2
              go_ret
              exact ⟨by first | rfl | (simp; done), dl.bel⟩
      · skip
        have hlb : (12 : Int) < (gs.length : Int) := by omega
        have hl13 : decide (12 < gs.length) = true := decide_eq_true (by omega)
        clear hl12
        obtain ⟨ps0, ps1, ps2, psl, psf⟩ := ps.three
        go_wp2_with fail
        with_reducible refine (sGiveAll_any s gs A1 A2 A c1 c2 c _ dl.sees sg.sees dl.m4 dl.h4 HG4.out).mono ?_
        rintro e w7 ⟨vv, rfl, ho, hb⟩
        rw [EG.out] at ho
        replace dl := dl.below hb
        replace sg := sg.below hb
        replace u := u.below hb
        replace v := v.below hb
        replace ps := ps.below hb ps.lt
        clear hb
        clear ps0 ps1 ps2 psl psf
        obtain ⟨B7, d7, rfl, _⟩ := ho.form
        have z := ho
        clear ho
        obtain ⟨ps0, ps1, ps2, psl, psf⟩ := ps.three
        go_wp2_with fail
        with_reducible refine (qEq_same B3 B7 d3 d7 G _ (Sees.of_own u.out) (Sees.of_own z.out) HG5.out).mono ?_
        rintro e w8 ⟨rfl, hb⟩
        replace dl := dl.below hb
        replace sg := sg.below hb
        replace u := u.below hb
        replace v := v.below hb
        replace z := z.below hb
        replace ps := ps.below hb ps.lt
        clear hb
        clear ps0 ps1 ps2 psl psf
        obtain ⟨ps0, ps1, ps2, psl, psf⟩ := ps.three
        go_wp2
        go_ret
        exact ⟨by first | rfl | (simp; done) | (simp; omega), dl.bel⟩
end Go.Proofs.Ytimjalhhigekpab

/-
  The walk of the law FnNextOwner: at every code it returns true and changes nothing that was there. Conditions: none.
-/
import Derived.Test.YtimjalhhigekpaaLawSh
import Derived.Test.YtimjalhhigekpaaShLawMath
import Derived.Test.YtimjalhhigekpaaLawFrame
import Derived.BigQuiet
import Derived.Deep.RegionHeld3
import Derived.Deep.CutRange

namespace Go.Proofs.Ytimjalhhigekpaa
open Go.RowKit Sha

set_option maxHeartbeats 8000000 in
set_option maxRecDepth 16384 in
theorem walkNextOwner (a : Option Addr) (len cap : Nat) (zs : List Int) (w : World) (hn : zs.length = len) (hc : len ≤ cap) (hcc : cap ≤ maxLen) (h : Sees w w.heap.size a (byts zs)) (hz : ∀ y ∈ zs, 0 ≤ y ∧ y ≤ 255) :
    Calls Try.prog 8 #[.slice a len cap] w fun e w' => e = .returned (.bool true) ∧ Below w.heap.size w w' := by
  have HE := hid hn
  have HC := hid hcc
  have HZ := hid hz
  clear hn hcc hz
  by_cases hbig : 1048576 < len
  · go_enter Try.func8, Try.ntmps8
    go_wp2
    go_ret
    exact ⟨rfl, Below.refl _ _⟩
  · go_enter Try.func8, Try.ntmps8
    go_wp2_with fail
    refine (drawNextOwner_any _ _ _ _ _ h HZ.out HE.out hc (by omega) HC.out).mono ?_
    rintro e w2 ⟨A1, A2, c1, c2, s, A, c, gs, rfl, dl, sg, hg14, hgc⟩
    have hl6 := dl.2.2.2
    have HG4 := hid (Nat.le_trans hg14 (show 14 ≤ 4194304 by decide))
    replace dl := dl.alloc (.cells #[.int .i64 s.t, .slice A1 s.m.length c1, .slice A2 s.h.length c2] 25)
    replace sg := sg.alloc (.cells #[.int .i64 s.t, .slice A1 s.m.length c1, .slice A2 s.h.length c2] 25)
    have ps := At.new w2 25 #[.int .i64 s.t, .slice A1 s.m.length c1, .slice A2 s.h.length c2]
    have HNF := hid (fun (k : Nat) (h : nextO s gs = k) (hk : k < gs.length) => next_found h hk)
    have hxl := nextO_lt s gs
    obtain ⟨X, hX⟩ : ∃ X, X = nextO s gs := ⟨_, rfl⟩
    have EX : Hid (nextO s gs = X) := hid hX.symm
    rw [← hX] at HNF hxl
    clear hX
    obtain ⟨ps0, ps1, ps2, psl, psf⟩ := ps.three
    go_wp2_with fail
    with_reducible refine (iNextOwner_any s gs A1 A2 A c1 c2 c _ dl.sees sg.sees dl.m4 dl.h4 HG4.out).mono ?_
    rintro e w3 ⟨he, hb⟩
    rw [EX.out] at he
    subst he
    replace dl := dl.below hb
    replace sg := sg.below hb
    replace ps := ps.below hb ps.lt
    clear hb
    clear ps0 ps1 ps2 psl psf
    obtain ⟨ps0, ps1, ps2, psl, psf⟩ := ps.three
    go_wp2_with fail
    with_reducible refine (sNextOwner_any s gs A1 A2 A c1 c2 c _ dl.sees sg.sees dl.m4 dl.h4 HG4.out).mono ?_
    rintro e w4 ⟨he, hb⟩
    rw [EX.out] at he
    subst he
    replace dl := dl.below hb
    replace sg := sg.below hb
    replace ps := ps.below hb ps.lt
    clear hb
    clear ps0 ps1 ps2 psl psf
    by_cases hx0 : X < 0
    · skip
      obtain ⟨ps0, ps1, ps2, psl, psf⟩ := ps.three
      go_wp2_with fail
      with_reducible refine (sNextOwner_any s gs A1 A2 A c1 c2 c _ dl.sees sg.sees dl.m4 dl.h4 HG4.out).mono ?_
      rintro e w5 ⟨he, hb⟩
      rw [EX.out] at he
      subst he
      replace dl := dl.below hb
      replace sg := sg.below hb
      replace ps := ps.below hb ps.lt
      clear hb
      clear ps0 ps1 ps2 psl psf
      obtain ⟨ps0, ps1, ps2, psl, psf⟩ := ps.three
      go_wp2
      go_ret
      exact ⟨by first | rfl | (simp; done) | (simp; omega), dl.bel⟩
    · skip
      obtain ⟨j, rfl⟩ : ∃ j : Nat, X = j := ⟨X.toNat, by omega⟩
      have hjl : j < gs.length := by omega
      obtain ⟨n1, n2, n3, n4⟩ := HNF.out j rfl hjl
      obtain ⟨_, h25, _, h45, _, _⟩ := shareB_iff.1 n1
      have H25 := hid h25
      have H45 := hid h45
      have HOK := hid n2
      have HG3 := hid n3
      have HP := hid n4
      have HJL := hid hjl
      have hx1 : ¬ (gs.length : Int) ≤ (j : Int) := by omega
      have hx2 : decide (gs.length ≤ j) = false := decide_eq_false (by omega)
      have hx3 : ¬ (j : Int) < 0 := by omega
      clear n1 n2 n3 n4 h25 h45 hx0 hxl HNF
      obtain ⟨ps0, ps1, ps2, psl, psf⟩ := ps.three
      go_wp2_with fail
      go_loopw [6] (fun i wr => ∃ k : Nat, k ≤ gs.length ∧ i = .int .i64 k ∧ DSh w wr A1 A2 s ∧ SeesF wr (fun b => b < w.heap.size) A (ints gs) ∧ At wr w2.heap.size 25 #[.int .i64 s.t, .slice A1 s.m.length c1, .slice A2 s.h.length c2]) (fun i _ => gs.length - (intOf i).toNat)
      case atStart => exact ⟨0, Nat.zero_le _, rfl, dl, sg, ps⟩
      case round =>
        clear ps0 ps1 ps2 psl psf
        clear dl sg ps hx1 hx2
        obtain ⟨k, hk, rfl, dl, sg, ps⟩ := hrel
        have hl12 := HOK.out.1
        by_cases hlt : k < gs.length
        · skip
          have hki : (k : Int) < (gs.length : Int) := by omega
          have hk0 : (0 : Int) ≤ (k : Int) := by omega
          have hji : (j : Int) < (gs.length : Int) := by have := HJL.out; omega
          have hj0 : (0 : Int) ≤ (j : Int) := by omega
          have hyr := HOK.out.2 gs[k] (List.getElem_mem hlt)
          have hzr := HOK.out.2 (gs[j]'HJL.out) (List.getElem_mem HJL.out)
          have hpp := HP.out k hlt
          obtain ⟨b, o, rfl, hbl, cy⟩ := sg.sees.int hlt
          obtain ⟨b2, o2, he2, _, cz⟩ := sg.sees.int HJL.out
          injection he2 with he2
          injection he2 with e1 e2
          subst e1 e2
          obtain ⟨y, hy⟩ : ∃ y, y = gs[k]'hlt := ⟨_, rfl⟩
          obtain ⟨z, hz⟩ : ∃ z, z = gs[j]'HJL.out := ⟨_, rfl⟩
          rw [← hy] at cy hyr hpp
          rw [← hz] at cz hzr hpp
          obtain ⟨py, rfl⟩ : ∃ p : Nat, y = p := ⟨y.toNat, by omega⟩
          obtain ⟨pz, rfl⟩ : ∃ p : Nat, z = p := ⟨z.toNat, by omega⟩
          have h25 := H25.out
          have h45 := H45.out
          have yh : py < s.h.length := by omega
          have ym : py < s.m.length := by omega
          have zh : pz < s.h.length := by omega
          rw [nth_at yh, nth_at ym, nth_at zh] at hpp
          obtain ⟨bh, oh, rfl, _, c1y⟩ := dl.seesh.int yh
          obtain ⟨bh2, oh2, he3, _, c1z⟩ := dl.seesh.int zh
          injection he3 with he3
          injection he3 with e1 e2
          subst e1 e2
          obtain ⟨bm, om, rfl, _, c2y⟩ := dl.seesm.int ym
          obtain ⟨vy, hvy⟩ : ∃ v, v = s.h[py]'yh := ⟨_, rfl⟩
          obtain ⟨vz, hvz⟩ : ∃ v, v = s.h[pz]'zh := ⟨_, rfl⟩
          obtain ⟨my, hmy⟩ : ∃ v, v = s.m[py]'ym := ⟨_, rfl⟩
          rw [← hvy] at c1y hpp
          rw [← hvz] at c1z hpp
          rw [← hmy] at c2y hpp
          have i1 : (0 : Int) ≤ (py : Int) := by omega
          have i2 : (py : Int) < (s.h.length : Int) := by omega
          have i3 : (py : Int) < (s.m.length : Int) := by omega
          have i4 : (0 : Int) ≤ (pz : Int) := by omega
          have i5 : (pz : Int) < (s.h.length : Int) := by omega
          have HLT := hid hlt
          clear hy hz hvy hvz hmy yh ym zh h25 h45 hyr hzr hlt
          by_cases hm : vy < my
          · skip
            have hmb : decide (vy < my) = true := decide_eq_true hm
            have hor := hpp hm
            have hyz : decide (vy < vz) = false := decide_eq_false (by omega)
            clear hpp hm
            by_cases heq : vy = vz
            · skip
              subst heq
              have hjk : decide (k < j) = false := decide_eq_false (by omega)
              clear hor
              obtain ⟨ps0, ps1, ps2, psl, psf⟩ := ps.three
              go_wp2
              go_quiet (fail)
              go_wp2
              go_roundw
              case rel => exact ⟨k + 1, by have := HLT.out; omega, by go_num, dl.drewN _, sg.below (below_drewN (Below.refl _ _) _), ps.below (below_drewN (Below.refl _ _) _) ps.lt⟩
              case measure => have := HLT.out; simp [intOf]; omega
            · skip
              have heb : (vy == vz) = false := beq_eq_false_iff_ne.2 heq
              clear hor heq
              obtain ⟨ps0, ps1, ps2, psl, psf⟩ := ps.three
              go_wp2
              go_quiet (fail)
              go_wp2
              go_roundw
              case rel => exact ⟨k + 1, by have := HLT.out; omega, by go_num, dl.drewN _, sg.below (below_drewN (Below.refl _ _) _), ps.below (below_drewN (Below.refl _ _) _) ps.lt⟩
              case measure => have := HLT.out; simp [intOf]; omega
          · skip
            have hmb : decide (vy < my) = false := decide_eq_false hm
            clear hpp hm
            obtain ⟨ps0, ps1, ps2, psl, psf⟩ := ps.three
            go_wp2
            go_quiet (fail)
            go_wp2
            go_roundw
            case rel => exact ⟨k + 1, by have := HLT.out; omega, by go_num, dl.drewN _, sg.below (below_drewN (Below.refl _ _) _), ps.below (below_drewN (Below.refl _ _) _) ps.lt⟩
            case measure => have := HLT.out; simp [intOf]; omega
        · skip
          have hki : ¬ (k : Int) < (gs.length : Int) := by omega
          have hji : (j : Int) < (gs.length : Int) := by have := HJL.out; omega
          have hj0 : (0 : Int) ≤ (j : Int) := by omega
          obtain ⟨b, o, rfl, hbl, hcl⟩ := sg.sees.int HJL.out
          have EG := hid HG3.out
          obtain ⟨y, hy⟩ : ∃ y, y = gs[j]'HJL.out := ⟨_, rfl⟩
          rw [← hy] at hcl EG
          clear hy
          obtain ⟨R, hR⟩ : ∃ R, R = giveS s y 1 := ⟨_, rfl⟩
          have ER : Hid (giveS s y 1 = R) := hid hR.symm
          clear hR
          have hW0 := (Below.refl wr.heap.size wr).drew
          have hWz := ((Below.refl wr.heap.size wr).alloc (Nat.le_refl _) (.cells #[.int .i64 0, .slice none 0 0, .slice none 0 0] 25)).drew
          have psd := ps.drew
          have dld := dl.drew
          have dlz := (dl.alloc (.cells #[.int .i64 0, .slice none 0 0, .slice none 0 0] 25)).drew
          obtain ⟨a0, a1, a2, al, af⟩ := ps.three
          have nz1 : ¬ w2.heap.size = wr.heap.size := by omega
          have nz2 : ¬ wr.heap.size = w2.heap.size := by omega
          have nc0 : ¬ b = wr.heap.size := by omega
          have nd0 : ¬ wr.heap.size = b := by omega
          go_upto_region 13 with fail
          go_cut [8, 9] from 100 to 107 (fun v8 v9 wx => ∃ g8 : Nat, v8 = .pointer (some ⟨g8, 0, none⟩) ∧ v9 = .bool true ∧ Below wr.heap.size wr wx)
          case first =>
            go_region_held3 (fun w' => w'.cell? ⟨w2.heap.size, 0, none⟩ = some (.int .i64 s.t) ∧ w'.cell? ⟨w2.heap.size, 1, none⟩ = some (.slice A1 s.m.length c1) ∧ w'.cell? ⟨w2.heap.size, 2, none⟩ = some (.slice A2 s.h.length c2) ∧ w'.cell? ⟨b, o + j, none⟩ = some (.int .i64 y))
              (first | with_reducible exact ⟨a0, a1, a2, hcl⟩ | with_reducible exact ⟨b0, b1, b2, dhcl⟩ | go_keep)
              (first
                | (go_at_call 17; (with_reducible refine (iGiveShare_any s y A1 A2 c1 c2 _ (by first | exact dld.sees | exact dlz.sees) dl.m4 dl.h4).mono ?_); rintro e wa ⟨B7, D7, d7, e7, he, ho7, hba⟩; rw [ER.out, EG.out] at he; subst he; have hWa := (by first | exact hW0.trans (hba.mono hW0.size) | exact hWz.trans (hba.mono hWz.size) : Below wr.heap.size wr wa); obtain ⟨b0, b1, b2, bl, bf⟩ := (ps.below hWa ps.lt).three; have dhcl := ((hWa.cell (p := ⟨b, o + j, none⟩) hbl).trans hcl); have na0 : ¬ b = wa.heap.size := Nat.ne_of_lt (Nat.lt_of_lt_of_le hbl hWa.size); have nb0 : ¬ wa.heap.size = b := fun e => na0 e.symm; have ne1 : ¬ w2.heap.size = wa.heap.size := Nat.ne_of_lt bl; have ne2 : ¬ wa.heap.size = w2.heap.size := fun e => ne1 e.symm; (try have pza := ((At.newAt 25 #[.int .i64 0, .slice none 0 0, .slice none 0 0] rfl).drew : At ((wr.alloc (.cells #[.int .i64 0, .slice none 0 0, .slice none 0 0] 25)).drew) wr.heap.size 25 #[.int .i64 0, .slice none 0 0, .slice none 0 0]).below hba (by simp)); (try obtain ⟨z0, z1, z2, zl, zf⟩ := pza.three))
                | fail)
            · go_wp2_with fail
              go_meet
              exact ⟨wa.heap.size, rfl, rfl, hWa.alloc hWa.size _⟩
            · go_wp2_with fail
              go_meet
              obtain ⟨hp8, hg8⟩ := three_put (.int .i64 R.t) (.slice B7 R.m.length d7) (.slice D7 R.h.length e7) pza rfl
              exact ⟨_, rfl, rfl, below_put hWa hg8 (Nat.le_refl _) hWa.size⟩
          case rest =>
            obtain ⟨g8, rfl, rfl, hWx⟩ := hcut
            clear hW0 hWz psd dld dlz a0 a1 a2 al af nz1 nz2 nc0 nd0
            replace dl := dl.below hWx
            replace sg := sg.below hWx
            replace ps := ps.below hWx ps.lt
            clear hWx hcl hbl
            obtain ⟨ps0, ps1, ps2, psl, psf⟩ := ps.three
            go_wp2
            go_ret
            exact ⟨by first | rfl | (simp; done), dl.bel⟩
end Go.Proofs.Ytimjalhhigekpaa

/-
  The walk of the law FnNextOwnerNone: at every code it returns true and changes nothing that was there. Conditions: none.
-/
import Derived.Test.YtimjalhhigekpabLawSh
import Derived.Test.YtimjalhhigekpabShLawMath
import Derived.Test.YtimjalhhigekpabLawFrame
import Derived.BigQuiet
import Derived.Deep.RegionHeld3
import Derived.Deep.CutRange

namespace Go.Proofs.Ytimjalhhigekpab
open Go.RowKit Sha

set_option maxHeartbeats 8000000 in
set_option maxRecDepth 16384 in
theorem walkNextOwnerNone (a : Option Addr) (len cap : Nat) (zs : List Int) (w : World) (hn : zs.length = len) (hc : len ≤ cap) (hcc : cap ≤ maxLen) (h : Sees w w.heap.size a (byts zs)) (hz : ∀ y ∈ zs, 0 ≤ y ∧ y ≤ 255) :
    Calls Try.prog 3 #[.slice a len cap] w fun e w' => e = .returned (.bool true) ∧ Below w.heap.size w w' := by
  have HE := hid hn
  have HC := hid hcc
  have HZ := hid hz
  clear hn hcc hz
  by_cases hbig : 1048576 < len
  · go_enter Try.func3, Try.ntmps3
    go_wp2
    go_ret
    exact ⟨rfl, Below.refl _ _⟩
  · go_enter Try.func3, Try.ntmps3
    go_wp2_with fail
    refine (drawNextOwner_any _ _ _ _ _ h HZ.out HE.out hc (by omega) HC.out).mono ?_
    rintro e w2 ⟨A1, A2, c1, c2, s, A, c, gs, rfl, dl, sg, hg14, hgc⟩
    have hl6 := dl.2.2.2
    have HG4 := hid (Nat.le_trans hg14 (show 14 ≤ 4194304 by decide))
    replace dl := dl.alloc (.cells #[.int .i64 s.t, .slice A1 s.m.length c1, .slice A2 s.h.length c2] 25)
    replace sg := sg.alloc (.cells #[.int .i64 s.t, .slice A1 s.m.length c1, .slice A2 s.h.length c2] 25)
    have ps := At.new w2 25 #[.int .i64 s.t, .slice A1 s.m.length c1, .slice A2 s.h.length c2]
    have HNN := hid (fun (h : nextO s gs < 0) (ha : okA gs) (k : Nat) (hk : k < gs.length) => next_none h ha hk)
    obtain ⟨X, hX⟩ : ∃ X, X = nextO s gs := ⟨_, rfl⟩
    have EX : Hid (nextO s gs = X) := hid hX.symm
    rw [← hX] at HNN
    clear hX
    obtain ⟨ps0, ps1, ps2, psl, psf⟩ := ps.three
    go_wp2_with fail
    with_reducible refine (iNextOwner_any s gs A1 A2 A c1 c2 c _ dl.sees sg.sees dl.m4 dl.h4 HG4.out).mono ?_
    rintro e w3 ⟨he, hb⟩
    rw [EX.out] at he
    subst he
    replace dl := dl.below hb
    replace sg := sg.below hb
    replace ps := ps.below hb ps.lt
    clear hb
    clear ps0 ps1 ps2 psl psf
    obtain ⟨ps0, ps1, ps2, psl, psf⟩ := ps.three
    go_wp2_with fail
    with_reducible refine (sNextOwner_any s gs A1 A2 A c1 c2 c _ dl.sees sg.sees dl.m4 dl.h4 HG4.out).mono ?_
    rintro e w4 ⟨he, hb⟩
    rw [EX.out] at he
    subst he
    replace dl := dl.below hb
    replace sg := sg.below hb
    replace ps := ps.below hb ps.lt
    clear hb
    clear ps0 ps1 ps2 psl psf
    by_cases hx0 : X ≥ 0
    · skip
      have hxb : (0 : Int) ≤ X := hx0
      have hxc : ¬ X < 0 := by omega
      obtain ⟨ps0, ps1, ps2, psl, psf⟩ := ps.three
      go_wp2_with fail
      with_reducible refine (sNextOwner_any s gs A1 A2 A c1 c2 c _ dl.sees sg.sees dl.m4 dl.h4 HG4.out).mono ?_
      rintro e w5 ⟨he, hb⟩
      rw [EX.out] at he
      subst he
      replace dl := dl.below hb
      replace sg := sg.below hb
      replace ps := ps.below hb ps.lt
      clear hb
      clear ps0 ps1 ps2 psl psf
      obtain ⟨ps0, ps1, ps2, psl, psf⟩ := ps.three
      go_wp2
      go_ret
      exact ⟨by first | rfl | (simp; done) | (simp; omega), dl.bel⟩
    have hx1 : X < 0 := by omega
    have hx2 : ¬ (0 : Int) ≤ X := hx0
    have HX1 := hid hx1
    by_cases hl12 : gs.length ≤ 12
    · skip
      have hlb : ¬ (12 : Int) < (gs.length : Int) := by omega
      have hl13 : decide (12 < gs.length) = false := decide_eq_false (by omega)
      have HL12 := hid hl12
      obtain ⟨ps0, ps1, ps2, psl, psf⟩ := ps.three
      go_wp2_with fail
      go_loop [6] (fun i => ∃ k : Nat, k ≤ gs.length ∧ i = .int .i64 k ∧ Hid (∀ j, ∀ h : j < gs.length, j < k → 0 ≤ gs[j] ∧ gs[j] ≤ 4)) (fun i => gs.length - (intOf i).toNat)
      case atStart => exact ⟨0, Nat.zero_le _, rfl, hid (fun j _ h => absurd h (by omega))⟩
      case round =>
        obtain ⟨k, hk, rfl, HR⟩ := hrel
        have hl12 := HL12.out
        by_cases hlt : k < gs.length
        · skip
          have hki : (k : Int) < (gs.length : Int) := by omega
          have hk0 : (0 : Int) ≤ (k : Int) := by omega
          obtain ⟨b, o, rfl, hbl, hcl⟩ := sg.sees.int hlt
          obtain ⟨y, hy⟩ : ∃ y, y = gs[k]'hlt := ⟨_, rfl⟩
          rw [← hy] at hcl
          have HY := hid hy
          have HLT := hid hlt
          clear hy
          by_cases hy0 : y < 0
          · skip
            obtain ⟨ps0, ps1, ps2, psl, psf⟩ := ps.three
            go_wp2
            go_ret
            exact ⟨by first | rfl | (simp; done) | (simp; omega), dl.bel⟩
          by_cases hy5 : (5 : Int) ≤ y
          · skip
            have hy5b : y ≥ 5 := hy5
            obtain ⟨ps0, ps1, ps2, psl, psf⟩ := ps.three
            go_wp2
            go_ret
            exact ⟨by first | rfl | (simp; done) | (simp; omega), dl.bel⟩
          · skip
            have HN := hid (show ∀ j, ∀ h : j < gs.length, j < k + 1 → 0 ≤ gs[j] ∧ gs[j] ≤ 4 from fun j h hj => by
              by_cases e : j < k
              · exact HR.out j h e
              · have : j = k := by omega
                subst this; rw [← HY.out]; omega)
            go_wp2
            go_round
            case rel => exact ⟨k + 1, by have := HLT.out; omega, by go_num, HN⟩
            case measure => have := HLT.out; simp [intOf]; omega
        · skip
          clear ps0 ps1 ps2 psl psf
          have hki : ¬ (k : Int) < (gs.length : Int) := by omega
          have hok : okA gs := ⟨HL12.out, fun x hx => by
            obtain ⟨j, hj, rfl⟩ := List.getElem_of_mem hx
            exact HR.out j hj (by omega)⟩
          have HG := hid (fun (j : Nat) (hj : j < gs.length) => HNN.out HX1.out hok j hj)
          clear hok HR
          obtain ⟨ps0, ps1, ps2, psl, psf⟩ := ps.three
          go_wp2_with fail
          go_loopw [7] (fun i wr => ∃ k : Nat, k ≤ gs.length ∧ i = .int .i64 k ∧ DSh w wr A1 A2 s ∧ SeesF wr (fun b => b < w.heap.size) A (ints gs) ∧ At wr w2.heap.size 25 #[.int .i64 s.t, .slice A1 s.m.length c1, .slice A2 s.h.length c2]) (fun i _ => gs.length - (intOf i).toNat)
          case atStart => exact ⟨0, Nat.zero_le _, rfl, dl, sg, ps⟩
          case round =>
            clear ps0 ps1 ps2 psl psf
            clear dl sg ps
            obtain ⟨k2, hk2, rfl, dl, sg, ps⟩ := hrel
            have hl12 := HL12.out
            by_cases hlt : k2 < gs.length
            · skip
              have hki : (k2 : Int) < (gs.length : Int) := by omega
              have hk0 : (0 : Int) ≤ (k2 : Int) := by omega
              obtain ⟨b, o, rfl, hbl, hcl⟩ := sg.sees.int hlt
              have EG := hid (HG.out k2 hlt)
              obtain ⟨y, hy⟩ : ∃ y, y = gs[k2]'hlt := ⟨_, rfl⟩
              rw [← hy] at hcl EG
              have HLT := hid hlt
              clear hy
              have EZ := hid (giveS_no EG.out)
              have hW0 := (Below.refl wr.heap.size wr).drew
              have hWz := ((Below.refl wr.heap.size wr).alloc (Nat.le_refl _) (.cells #[.int .i64 0, .slice none 0 0, .slice none 0 0] 25)).drew
              have psd := ps.drew
              have dld := dl.drew
              have dlz := (dl.alloc (.cells #[.int .i64 0, .slice none 0 0, .slice none 0 0] 25)).drew
              obtain ⟨a0, a1, a2, al, af⟩ := ps.three
              have nz1 : ¬ w2.heap.size = wr.heap.size := by omega
              have nz2 : ¬ wr.heap.size = w2.heap.size := by omega
              have nc0 : ¬ b = wr.heap.size := by omega
              have nd0 : ¬ wr.heap.size = b := by omega
              go_upto_region 15 with fail
              go_cut [8, 9] from 65 to 72 (fun v8 v9 wx => ∃ g8 : Nat, v8 = .pointer (some ⟨g8, 0, none⟩) ∧ v9 = .bool false ∧ Below wr.heap.size wr wx)
              case first =>
                go_region_held3 (fun w' => w'.cell? ⟨w2.heap.size, 0, none⟩ = some (.int .i64 s.t) ∧ w'.cell? ⟨w2.heap.size, 1, none⟩ = some (.slice A1 s.m.length c1) ∧ w'.cell? ⟨w2.heap.size, 2, none⟩ = some (.slice A2 s.h.length c2) ∧ w'.cell? ⟨b, o + k2, none⟩ = some (.int .i64 y))
                  (first | with_reducible exact ⟨a0, a1, a2, hcl⟩ | with_reducible exact ⟨b0, b1, b2, dhcl⟩ | go_keep)
                  (first
                    | (go_at_call 11; (with_reducible refine (iGiveShare_any s y A1 A2 c1 c2 _ (by first | exact dld.sees | exact dlz.sees) dl.m4 dl.h4).mono ?_); rintro e wa ⟨B7, D7, d7, e7, he, ho7, hba⟩; rw [EZ.out, EG.out] at he; subst he; have hWa := (by first | exact hW0.trans (hba.mono hW0.size) | exact hWz.trans (hba.mono hWz.size) : Below wr.heap.size wr wa); obtain ⟨b0, b1, b2, bl, bf⟩ := (ps.below hWa ps.lt).three; have dhcl := ((hWa.cell (p := ⟨b, o + k2, none⟩) hbl).trans hcl); have na0 : ¬ b = wa.heap.size := Nat.ne_of_lt (Nat.lt_of_lt_of_le hbl hWa.size); have nb0 : ¬ wa.heap.size = b := fun e => na0 e.symm; have ne1 : ¬ w2.heap.size = wa.heap.size := Nat.ne_of_lt bl; have ne2 : ¬ wa.heap.size = w2.heap.size := fun e => ne1 e.symm; (try have pza := ((At.newAt 25 #[.int .i64 0, .slice none 0 0, .slice none 0 0] rfl).drew : At ((wr.alloc (.cells #[.int .i64 0, .slice none 0 0, .slice none 0 0] 25)).drew) wr.heap.size 25 #[.int .i64 0, .slice none 0 0, .slice none 0 0]).below hba (by simp)); (try obtain ⟨z0, z1, z2, zl, zf⟩ := pza.three))
                    | fail)
                · go_wp2_with fail
                  go_meet
                  exact ⟨wa.heap.size, rfl, rfl, hWa.alloc hWa.size _⟩
                · go_wp2_with fail
                  go_meet
                  obtain ⟨hp8, hg8⟩ := three_put (.int .i64 zeroS.t) (.slice B7 zeroS.m.length d7) (.slice D7 zeroS.h.length e7) pza rfl
                  exact ⟨_, rfl, rfl, below_put hWa hg8 (Nat.le_refl _) hWa.size⟩
              case rest =>
                obtain ⟨g8, rfl, rfl, hWx⟩ := hcut
                clear hW0 hWz psd dld dlz a0 a1 a2 al af nz1 nz2 nc0 nd0
                replace dl := dl.below hWx
                replace sg := sg.below hWx
                replace ps := ps.below hWx ps.lt
                clear hWx hcl hbl
                obtain ⟨ps0, ps1, ps2, psl, psf⟩ := ps.three
                go_wp2
                go_roundw
                case rel => exact ⟨k2 + 1, by have := HLT.out; omega, by go_num, dl, sg, ps⟩
                case measure => have := HLT.out; simp [intOf]; omega
            · skip
              have hki : ¬ (k2 : Int) < (gs.length : Int) := by omega
              obtain ⟨ps0, ps1, ps2, psl, psf⟩ := ps.three
              go_wp2
              go_ret
              exact ⟨by first | rfl | (simp; done) | (simp; omega), dl.bel⟩
    · skip
      have hlb : (12 : Int) < (gs.length : Int) := by omega
      have hl13 : decide (12 < gs.length) = true := decide_eq_true (by omega)
      obtain ⟨ps0, ps1, ps2, psl, psf⟩ := ps.three
      go_wp2_with fail
      with_reducible refine (sNextOwner_any s gs A1 A2 A c1 c2 c _ dl.sees sg.sees dl.m4 dl.h4 HG4.out).mono ?_
      rintro e w5 ⟨he, hb⟩
      rw [EX.out] at he
      subst he
      replace dl := dl.below hb
      replace sg := sg.below hb
      replace ps := ps.below hb ps.lt
      clear hb
      clear ps0 ps1 ps2 psl psf
      obtain ⟨ps0, ps1, ps2, psl, psf⟩ := ps.three
      go_wp2
      go_ret
      exact ⟨by first | rfl | (simp; done) | (simp; omega), dl.bel⟩
end Go.Proofs.Ytimjalhhigekpab

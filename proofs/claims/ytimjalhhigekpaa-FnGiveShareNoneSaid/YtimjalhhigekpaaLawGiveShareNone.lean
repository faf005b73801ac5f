/-
  The walk of the law FnGiveShareNone: at every code it returns true and changes nothing that was there. Conditions: none.
-/
import Derived.Test.YtimjalhhigekpaaLawSh
import Derived.Test.YtimjalhhigekpaaLawFrame
import Derived.BigQuiet
import Derived.Deep.RegionHeld3

namespace Go.Proofs.Ytimjalhhigekpaa
open Go.RowKit Sha

set_option maxHeartbeats 8000000 in
set_option maxRecDepth 16384 in
theorem walkGiveShareNone (a : Option Addr) (len cap : Nat) (zs : List Int) (w : World) (hn : zs.length = len) (hc : len ≤ cap) (hcc : cap ≤ maxLen) (h : Sees w w.heap.size a (byts zs)) (hz : ∀ y ∈ zs, 0 ≤ y ∧ y ≤ 255) :
    Calls Try.prog 7 #[.slice a len cap] w fun e w' => e = .returned (.bool true) ∧ Below w.heap.size w w' := by
  have HE := hid hn
  have HC := hid hcc
  have HZ := hid hz
  clear hn hcc hz
  by_cases hbig : 1048576 < len
  · go_enter Try.func7, Try.ntmps7
    go_wp2
    go_ret
    exact ⟨rfl, Below.refl _ _⟩
  · go_enter Try.func7, Try.ntmps7
    go_wp2_with fail
    refine (drawGiveShare_any _ _ _ _ _ h HZ.out HE.out hc (by omega) HC.out).mono ?_
    rintro e w2 ⟨A1, A2, c1, c2, s, i, rfl, dl, hi1, hi2⟩
    have hl6 := dl.2.2.2
    replace dl := dl.alloc (.cells #[.int .i64 s.t, .slice A1 s.m.length c1, .slice A2 s.h.length c2] 25)
    have ps := At.new w2 25 #[.int .i64 s.t, .slice A1 s.m.length c1, .slice A2 s.h.length c2]
    have HBK := hid (fun (h : giveB s i (1) = true) => (⟨give_back h, give_sum h⟩ : _ ∧ _))
    obtain ⟨R, hR⟩ : ∃ R, R = giveS s i (1) := ⟨_, rfl⟩
    have ER : Hid (giveS s i (1) = R) := hid hR.symm
    obtain ⟨K, hK⟩ : ∃ K, K = giveB s i (1) := ⟨_, rfl⟩
    have EK : Hid (giveB s i (1) = K) := hid hK.symm
    have HRl := hid (show R.m.length ≤ 6 ∧ R.h.length ≤ 6 by rw [hR]; exact give_len hl6 _ _)
    rw [← hR, ← hK] at HBK
    clear hR hK
    obtain ⟨ps0, ps1, ps2, psl, psf⟩ := ps.three
    go_wp2_with fail
    with_reducible refine (iGiveShare_any s i A1 A2 c1 c2 _ dl.sees dl.m4 dl.h4).mono ?_
    rintro e w3 ⟨B3, D3, d3, e3, he, ho3, hb⟩
    rw [ER.out, EK.out] at he
    rw [ER.out] at ho3
    subst he
    have o1 : OwnQ w3 _ B3 D3 d3 e3 R := ⟨ho3, HRl.out⟩
    clear ho3
    replace dl := dl.below hb
    replace ps := ps.below hb ps.lt
    clear hb
    clear ps0 ps1 ps2 psl psf
    -- o1
    replace dl := dl.alloc (.cells #[.int .i64 R.t, .slice B3 R.m.length d3, .slice D3 R.h.length e3] 25)
    replace o1 := o1.alloc (.cells #[.int .i64 R.t, .slice B3 R.m.length d3, .slice D3 R.h.length e3] 25)
    replace ps := ps.alloc (.cells #[.int .i64 R.t, .slice B3 R.m.length d3, .slice D3 R.h.length e3] 25)
    have xo1 := At.new w3 25 #[.int .i64 R.t, .slice B3 R.m.length d3, .slice D3 R.h.length e3]
    obtain ⟨ps0, ps1, ps2, psl, psf⟩ := ps.three
    obtain ⟨xo10, xo11, xo12, xo1l, xo1f⟩ := xo1.three
    go_wp2_with fail
    with_reducible refine (sGiveShare_any s i A1 A2 c1 c2 _ dl.sees dl.m4 dl.h4).mono ?_
    rintro e w4 ⟨B4, D4, d4, e4, he, ho4, hb⟩
    rw [ER.out, EK.out] at he
    rw [ER.out] at ho4
    subst he
    have o2 : OwnQ w4 _ B4 D4 d4 e4 R := ⟨ho4, HRl.out⟩
    clear ho4
    replace dl := dl.below hb
    replace o1 := o1.below hb
    replace ps := ps.below hb ps.lt
    replace xo1 := xo1.below hb xo1.lt
    clear hb
    clear ps0 ps1 ps2 psl psf
    clear xo10 xo11 xo12 xo1l xo1f
    -- o2
    replace dl := dl.alloc (.cells #[.int .i64 R.t, .slice B4 R.m.length d4, .slice D4 R.h.length e4] 25)
    replace o1 := o1.alloc (.cells #[.int .i64 R.t, .slice B4 R.m.length d4, .slice D4 R.h.length e4] 25)
    replace o2 := o2.alloc (.cells #[.int .i64 R.t, .slice B4 R.m.length d4, .slice D4 R.h.length e4] 25)
    replace ps := ps.alloc (.cells #[.int .i64 R.t, .slice B4 R.m.length d4, .slice D4 R.h.length e4] 25)
    replace xo1 := xo1.alloc (.cells #[.int .i64 R.t, .slice B4 R.m.length d4, .slice D4 R.h.length e4] 25)
    have xo2 := At.new w4 25 #[.int .i64 R.t, .slice B4 R.m.length d4, .slice D4 R.h.length e4]
    obtain ⟨ps0, ps1, ps2, psl, psf⟩ := ps.three
    obtain ⟨xo10, xo11, xo12, xo1l, xo1f⟩ := xo1.three
    obtain ⟨xo20, xo21, xo22, xo2l, xo2f⟩ := xo2.three
    go_wp2_with fail
    with_reducible refine (equalShare_same B3 D3 B4 D4 d3 e3 d4 e4 R _ o1.sees o2.sees o1.m4 o1.h4).mono ?_
    rintro e w5 ⟨rfl, hb⟩
    replace dl := dl.below hb
    replace o1 := o1.below hb
    replace o2 := o2.below hb
    replace ps := ps.below hb ps.lt
    replace xo1 := xo1.below hb xo1.lt
    replace xo2 := xo2.below hb xo2.lt
    clear hb
    clear ps0 ps1 ps2 psl psf
    clear xo10 xo11 xo12 xo1l xo1f
    clear xo20 xo21 xo22 xo2l xo2f
    rcases hv : shareB s with _ | _
    · skip
      have HV := hid hv
      clear hv
      obtain ⟨ps0, ps1, ps2, psl, psf⟩ := ps.three
      obtain ⟨xo10, xo11, xo12, xo1l, xo1f⟩ := xo1.three
      obtain ⟨xo20, xo21, xo22, xo2l, xo2f⟩ := xo2.three
      go_wp2_with fail
      with_reducible refine (iValidShare_any s A1 A2 c1 c2 _ dl.sees dl.m4 dl.h4).mono ?_
      rintro e w6 ⟨he, hb⟩
      rw [HV.out] at he
      subst he
      replace dl := dl.below hb
      replace o1 := o1.below hb
      replace o2 := o2.below hb
      replace ps := ps.below hb ps.lt
      replace xo1 := xo1.below hb xo1.lt
      replace xo2 := xo2.below hb xo2.lt
      clear hb
      clear ps0 ps1 ps2 psl psf
      clear xo10 xo11 xo12 xo1l xo1f
      clear xo20 xo21 xo22 xo2l xo2f
      obtain ⟨ps0, ps1, ps2, psl, psf⟩ := ps.three
      obtain ⟨xo10, xo11, xo12, xo1l, xo1f⟩ := xo1.three
      obtain ⟨xo20, xo21, xo22, xo2l, xo2f⟩ := xo2.three
      go_wp2_with fail
      with_reducible refine (equalShare_same B3 D3 B4 D4 d3 e3 d4 e4 R _ o1.sees o2.sees o1.m4 o1.h4).mono ?_
      rintro e w7 ⟨rfl, hb⟩
      replace dl := dl.below hb
      replace o1 := o1.below hb
      replace o2 := o2.below hb
      replace ps := ps.below hb ps.lt
      replace xo1 := xo1.below hb xo1.lt
      replace xo2 := xo2.below hb xo2.lt
      clear hb
      clear ps0 ps1 ps2 psl psf
      clear xo10 xo11 xo12 xo1l xo1f
      clear xo20 xo21 xo22 xo2l xo2f
      obtain ⟨ps0, ps1, ps2, psl, psf⟩ := ps.three
      obtain ⟨xo10, xo11, xo12, xo1l, xo1f⟩ := xo1.three
      obtain ⟨xo20, xo21, xo22, xo2l, xo2f⟩ := xo2.three
      go_wp2
      go_ret
      exact ⟨by first | rfl | (simp; done) | (simp; omega), dl.bel⟩
    · skip
      have HV := hid hv
      have HGV := hid (fun (k : Nat) (hk : k < 5) (hl : k < s.h.length) (hm : k < s.m.length) => give_ok hv hk hl hm)
      have HR1 := hid (share_range hv)
      obtain ⟨_, h25, _, h45, _, _⟩ := shareB_iff.1 hv
      have H25 := hid h25
      have H45 := hid h45
      clear hv h25 h45
      obtain ⟨ps0, ps1, ps2, psl, psf⟩ := ps.three
      obtain ⟨xo10, xo11, xo12, xo1l, xo1f⟩ := xo1.three
      obtain ⟨xo20, xo21, xo22, xo2l, xo2f⟩ := xo2.three
      go_wp2_with fail
      with_reducible refine (iValidShare_any s A1 A2 c1 c2 _ dl.sees dl.m4 dl.h4).mono ?_
      rintro e w6 ⟨he, hb⟩
      rw [HV.out] at he
      subst he
      replace dl := dl.below hb
      replace o1 := o1.below hb
      replace o2 := o2.below hb
      replace ps := ps.below hb ps.lt
      replace xo1 := xo1.below hb xo1.lt
      replace xo2 := xo2.below hb xo2.lt
      clear hb
      clear ps0 ps1 ps2 psl psf
      clear xo10 xo11 xo12 xo1l xo1f
      clear xo20 xo21 xo22 xo2l xo2f
      by_cases i0 : i < 0
      · skip
        obtain ⟨ps0, ps1, ps2, psl, psf⟩ := ps.three
        obtain ⟨xo10, xo11, xo12, xo1l, xo1f⟩ := xo1.three
        obtain ⟨xo20, xo21, xo22, xo2l, xo2f⟩ := xo2.three
        go_wp2_with fail
        with_reducible refine (equalShare_same B3 D3 B4 D4 d3 e3 d4 e4 R _ o1.sees o2.sees o1.m4 o1.h4).mono ?_
        rintro e w7 ⟨rfl, hb⟩
        replace dl := dl.below hb
        replace o1 := o1.below hb
        replace o2 := o2.below hb
        replace ps := ps.below hb ps.lt
        replace xo1 := xo1.below hb xo1.lt
        replace xo2 := xo2.below hb xo2.lt
        clear hb
        clear ps0 ps1 ps2 psl psf
        clear xo10 xo11 xo12 xo1l xo1f
        clear xo20 xo21 xo22 xo2l xo2f
        obtain ⟨ps0, ps1, ps2, psl, psf⟩ := ps.three
        obtain ⟨xo10, xo11, xo12, xo1l, xo1f⟩ := xo1.three
        obtain ⟨xo20, xo21, xo22, xo2l, xo2f⟩ := xo2.three
        go_wp2
        go_ret
        exact ⟨by first | rfl | (simp; done) | (simp; omega), dl.bel⟩
      by_cases i5 : i ≥ 5
      · skip
        have i5b : (5 : Int) ≤ i := i5
        obtain ⟨ps0, ps1, ps2, psl, psf⟩ := ps.three
        obtain ⟨xo10, xo11, xo12, xo1l, xo1f⟩ := xo1.three
        obtain ⟨xo20, xo21, xo22, xo2l, xo2f⟩ := xo2.three
        go_wp2_with fail
        with_reducible refine (equalShare_same B3 D3 B4 D4 d3 e3 d4 e4 R _ o1.sees o2.sees o1.m4 o1.h4).mono ?_
        rintro e w7 ⟨rfl, hb⟩
        replace dl := dl.below hb
        replace o1 := o1.below hb
        replace o2 := o2.below hb
        replace ps := ps.below hb ps.lt
        replace xo1 := xo1.below hb xo1.lt
        replace xo2 := xo2.below hb xo2.lt
        clear hb
        clear ps0 ps1 ps2 psl psf
        clear xo10 xo11 xo12 xo1l xo1f
        clear xo20 xo21 xo22 xo2l xo2f
        obtain ⟨ps0, ps1, ps2, psl, psf⟩ := ps.three
        obtain ⟨xo10, xo11, xo12, xo1l, xo1f⟩ := xo1.three
        obtain ⟨xo20, xo21, xo22, xo2l, xo2f⟩ := xo2.three
        go_wp2
        go_ret
        exact ⟨by first | rfl | (simp; done) | (simp; omega), dl.bel⟩
      · skip
        clear o1
        clear o2
        clear xo1
        clear xo2
        obtain ⟨j, rfl⟩ : ∃ j : Nat, i = j := ⟨i.toNat, by omega⟩
        have h25 := H25.out
        have h45 := H45.out
        have hjh : j < s.h.length := by omega
        have hjm : j < s.m.length := by omega
        have hkk := HGV.out j (by omega) hjh hjm
        rw [EK.out] at hkk
        have j0 : (0 : Int) ≤ (j : Int) := by omega
        have j1 : (j : Int) < (s.h.length : Int) := by omega
        have j2 : (j : Int) < (s.m.length : Int) := by omega
        have j5 : ¬ (5 : Int) ≤ (j : Int) := by omega
        have j6 : ¬ (j : Int) < 0 := by omega
        obtain ⟨bh, oh, rfl, hbh, ch⟩ := dl.seesh.int hjh
        obtain ⟨bm, om, rfl, hbm, cm⟩ := dl.seesm.int hjm
        obtain ⟨y, hy⟩ : ∃ y, y = s.h[j]'hjh := ⟨_, rfl⟩
        obtain ⟨z, hz⟩ : ∃ z, z = s.m[j]'hjm := ⟨_, rfl⟩
        rw [← hy] at ch hkk
        rw [← hz] at cm hkk
        clear hy hz h25 h45 hjh hjm i0 i5
        by_cases hyz : y < z
        · skip
          have hyb : decide (y < z) = true := decide_eq_true hyz
          have hkx : K = decide (sm s.h < s.t) := by rw [hkk]; simp [hyz]
          clear hkk hyz
          have dch : w6.drew.cell? ⟨bh, oh + j, none⟩ = some (.int .i64 y) := ch
          have dcm : w6.drew.cell? ⟨bm, om + j, none⟩ = some (.int .i64 z) := cm
          have ddl := dl.drew
          have dps := ps.drew
          obtain ⟨ps0, ps1, ps2, psl, psf⟩ := ps.three
          go_wp2_with fail
          go_region_held3 (fun w' => w'.cell? ⟨w2.heap.size, 0, none⟩ = some (.int .i64 s.t) ∧ w'.cell? ⟨w2.heap.size, 1, none⟩ = some (.slice (some ⟨bm, om, none⟩) s.m.length c1) ∧ w'.cell? ⟨w2.heap.size, 2, none⟩ = some (.slice (some ⟨bh, oh, none⟩) s.h.length c2) ∧ w'.cell? ⟨bh, oh + j, none⟩ = some (.int .i64 y) ∧ w'.cell? ⟨bm, om + j, none⟩ = some (.int .i64 z))
            (first | with_reducible exact ⟨ps0, ps1, ps2, ch, cm⟩ | go_keep)
            (first
              | (go_at_call 12; with_reducible refine (lsum_any (some ⟨bh, oh, none⟩) c2 s.h _ ddl.seesh ddl.h5 HR1.out).mono ?_; rintro e w' ⟨rfl, rfl⟩)
              | fail)
          all_goals
            go_wp2
            go_ret
            exact ⟨by first | rfl | (simp; done) | (simp [hkx]; done), ddl.bel⟩
        · skip
          have hyb : decide (y < z) = false := decide_eq_false hyz
          have hkx : K = false := by rw [hkk]; simp [hyz]
          clear hkk hyz
          have dch : w6.drew.cell? ⟨bh, oh + j, none⟩ = some (.int .i64 y) := ch
          have dcm : w6.drew.cell? ⟨bm, om + j, none⟩ = some (.int .i64 z) := cm
          obtain ⟨ps0, ps1, ps2, psl, psf⟩ := ps.three
          go_wp2
          go_quiet (fail)
          go_wp2
          go_ret
          exact ⟨by first | rfl | (simp; done) | (simp [hkx]; done), (dl.drewN _).bel⟩
end Go.Proofs.Ytimjalhhigekpaa

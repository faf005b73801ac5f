/-
  The walk of the law FnTakeShare: at every code it returns true and changes nothing that was there. Conditions: none.
-/
import Derived.Test.YtimjalhhigekpaaLawSh
import Derived.Test.YtimjalhhigekpaaLawFrame
import Derived.BigQuiet
import Derived.Deep.RegionHeld3

namespace Go.Proofs.Ytimjalhhigekpaa
open Go.RowKit Sha

set_option maxHeartbeats 8000000 in
set_option maxRecDepth 16384 in
theorem walkTakeShare (a : Option Addr) (len cap : Nat) (zs : List Int) (w : World) (hn : zs.length = len) (hc : len ≤ cap) (hcc : cap ≤ maxLen) (h : Sees w w.heap.size a (byts zs)) (hz : ∀ y ∈ zs, 0 ≤ y ∧ y ≤ 255) :
    Calls Try.prog 5 #[.slice a len cap] w fun e w' => e = .returned (.bool true) ∧ Below w.heap.size w w' := by
  have HE := hid hn
  have HC := hid hcc
  have HZ := hid hz
  clear hn hcc hz
  by_cases hbig : 1048576 < len
  · go_enter Try.func5, Try.ntmps5
    go_wp2
    go_ret
    exact ⟨rfl, Below.refl _ _⟩
  · go_enter Try.func5, Try.ntmps5
    go_wp2_with fail
    refine (drawTakeShare_any _ _ _ _ _ h HZ.out HE.out hc (by omega) HC.out).mono ?_
    rintro e w2 ⟨A1, A2, c1, c2, s, i, rfl, dl, hi1, hi2⟩
    have hl6 := dl.2.2.2
    replace dl := dl.alloc (.cells #[.int .i64 s.t, .slice A1 s.m.length c1, .slice A2 s.h.length c2] 25)
    have ps := At.new w2 25 #[.int .i64 s.t, .slice A1 s.m.length c1, .slice A2 s.h.length c2]
    have HBK := hid (fun (h : giveB s i (-1) = true) => (⟨give_back h, give_sum h⟩ : _ ∧ _))
    obtain ⟨R, hR⟩ : ∃ R, R = giveS s i (-1) := ⟨_, rfl⟩
    have ER : Hid (giveS s i (-1) = R) := hid hR.symm
    obtain ⟨K, hK⟩ : ∃ K, K = giveB s i (-1) := ⟨_, rfl⟩
    have EK : Hid (giveB s i (-1) = K) := hid hK.symm
    have HRl := hid (show R.m.length ≤ 6 ∧ R.h.length ≤ 6 by rw [hR]; exact give_len hl6 _ _)
    rw [← hR, ← hK] at HBK
    clear hR hK
    obtain ⟨ps0, ps1, ps2, psl, psf⟩ := ps.three
    go_wp2_with fail
    with_reducible refine (iTakeShare_any s i A1 A2 c1 c2 _ dl.sees dl.m4 dl.h4).mono ?_
    rintro e w3 ⟨B3, D3, d3, e3, he, ho3, hb⟩
    rw [ER.out, EK.out] at he
    rw [ER.out] at ho3
    subst he
    have o1 : OwnQ w3 _ B3 D3 d3 e3 R := ⟨ho3, HRl.out⟩
    clear ho3
    replace dl := dl.below hb
    replace ps := ps.below hb ps.lt
    clear hb
    clear ps0 ps1 ps2 psl psf
    -- o1
    replace dl := dl.alloc (.cells #[.int .i64 R.t, .slice B3 R.m.length d3, .slice D3 R.h.length e3] 25)
    replace o1 := o1.alloc (.cells #[.int .i64 R.t, .slice B3 R.m.length d3, .slice D3 R.h.length e3] 25)
    replace ps := ps.alloc (.cells #[.int .i64 R.t, .slice B3 R.m.length d3, .slice D3 R.h.length e3] 25)
    have xo1 := At.new w3 25 #[.int .i64 R.t, .slice B3 R.m.length d3, .slice D3 R.h.length e3]
    obtain ⟨ps0, ps1, ps2, psl, psf⟩ := ps.three
    obtain ⟨xo10, xo11, xo12, xo1l, xo1f⟩ := xo1.three
    go_wp2_with fail
    with_reducible refine (sTakeShare_any s i A1 A2 c1 c2 _ dl.sees dl.m4 dl.h4).mono ?_
    rintro e w4 ⟨B4, D4, d4, e4, he, ho4, hb⟩
    rw [ER.out, EK.out] at he
    rw [ER.out] at ho4
    subst he
    have o2 : OwnQ w4 _ B4 D4 d4 e4 R := ⟨ho4, HRl.out⟩
    clear ho4
    replace dl := dl.below hb
    replace o1 := o1.below hb
    replace ps := ps.below hb ps.lt
    replace xo1 := xo1.below hb xo1.lt
    clear hb
    clear ps0 ps1 ps2 psl psf
    clear xo10 xo11 xo12 xo1l xo1f
    -- o2
    replace dl := dl.alloc (.cells #[.int .i64 R.t, .slice B4 R.m.length d4, .slice D4 R.h.length e4] 25)
    replace o1 := o1.alloc (.cells #[.int .i64 R.t, .slice B4 R.m.length d4, .slice D4 R.h.length e4] 25)
    replace o2 := o2.alloc (.cells #[.int .i64 R.t, .slice B4 R.m.length d4, .slice D4 R.h.length e4] 25)
    replace ps := ps.alloc (.cells #[.int .i64 R.t, .slice B4 R.m.length d4, .slice D4 R.h.length e4] 25)
    replace xo1 := xo1.alloc (.cells #[.int .i64 R.t, .slice B4 R.m.length d4, .slice D4 R.h.length e4] 25)
    have xo2 := At.new w4 25 #[.int .i64 R.t, .slice B4 R.m.length d4, .slice D4 R.h.length e4]
    obtain ⟨ps0, ps1, ps2, psl, psf⟩ := ps.three
    obtain ⟨xo10, xo11, xo12, xo1l, xo1f⟩ := xo1.three
    obtain ⟨xo20, xo21, xo22, xo2l, xo2f⟩ := xo2.three
    go_wp2_with fail
    with_reducible refine (equalShare_same B3 D3 B4 D4 d3 e3 d4 e4 R _ o1.sees o2.sees o1.m4 o1.h4).mono ?_
    rintro e w5 ⟨rfl, hb⟩
    replace dl := dl.below hb
    replace o1 := o1.below hb
    replace o2 := o2.below hb
    replace ps := ps.below hb ps.lt
    replace xo1 := xo1.below hb xo1.lt
    replace xo2 := xo2.below hb xo2.lt
    clear hb
    clear ps0 ps1 ps2 psl psf
    clear xo10 xo11 xo12 xo1l xo1f
    clear xo20 xo21 xo22 xo2l xo2f
    cases K with
    | false =>
      obtain ⟨ps0, ps1, ps2, psl, psf⟩ := ps.three
      obtain ⟨xo10, xo11, xo12, xo1l, xo1f⟩ := xo1.three
      obtain ⟨xo20, xo21, xo22, xo2l, xo2f⟩ := xo2.three
      go_wp2_with fail
      with_reducible refine (equalShare_same B3 D3 B4 D4 d3 e3 d4 e4 R _ o1.sees o2.sees o1.m4 o1.h4).mono ?_
      rintro e w6 ⟨rfl, hb⟩
      replace dl := dl.below hb
      replace o1 := o1.below hb
      replace o2 := o2.below hb
      replace ps := ps.below hb ps.lt
      replace xo1 := xo1.below hb xo1.lt
      replace xo2 := xo2.below hb xo2.lt
      clear hb
      clear ps0 ps1 ps2 psl psf
      clear xo10 xo11 xo12 xo1l xo1f
      clear xo20 xo21 xo22 xo2l xo2f
      obtain ⟨ps0, ps1, ps2, psl, psf⟩ := ps.three
      obtain ⟨xo10, xo11, xo12, xo1l, xo1f⟩ := xo1.three
      obtain ⟨xo20, xo21, xo22, xo2l, xo2f⟩ := xo2.three
      go_wp2
      go_ret
      exact ⟨by first | rfl | (simp; done) | (simp; omega), dl.bel⟩
    | true =>
      obtain ⟨⟨b1, b2, b3⟩, b4, b5, b6⟩ := HBK.out rfl
      have HV := hid b1
      have E2 := hid b2
      have E3 := hid b3
      have HSl := hid hl6
      clear b1 b2 b3 hl6
      rw [show (-(-1) : Int) = 1 by decide] at E2 E3
      clear o2
      clear xo2
      obtain ⟨ps0, ps1, ps2, psl, psf⟩ := ps.three
      obtain ⟨xo10, xo11, xo12, xo1l, xo1f⟩ := xo1.three
      go_wp2_with fail
      with_reducible refine (iGiveShare_any R i B3 D3 d3 e3 _ o1.sees o1.m4 o1.h4).mono ?_
      rintro e w6 ⟨B6, D6, d6, e6, he, ho6, hb⟩
      rw [E3.out, E2.out] at he
      rw [E3.out] at ho6
      subst he
      have o3 : OwnQ w6 _ B6 D6 d6 e6 s := ⟨ho6, HSl.out⟩
      clear ho6
      replace dl := dl.below hb
      replace o1 := o1.below hb
      replace ps := ps.below hb ps.lt
      replace xo1 := xo1.below hb xo1.lt
      clear hb
      clear ps0 ps1 ps2 psl psf
      clear xo10 xo11 xo12 xo1l xo1f
      -- o3
      replace dl := dl.alloc (.cells #[.int .i64 s.t, .slice B6 s.m.length d6, .slice D6 s.h.length e6] 25)
      replace o1 := o1.alloc (.cells #[.int .i64 s.t, .slice B6 s.m.length d6, .slice D6 s.h.length e6] 25)
      replace o3 := o3.alloc (.cells #[.int .i64 s.t, .slice B6 s.m.length d6, .slice D6 s.h.length e6] 25)
      replace ps := ps.alloc (.cells #[.int .i64 s.t, .slice B6 s.m.length d6, .slice D6 s.h.length e6] 25)
      replace xo1 := xo1.alloc (.cells #[.int .i64 s.t, .slice B6 s.m.length d6, .slice D6 s.h.length e6] 25)
      have xo3 := At.new w6 25 #[.int .i64 s.t, .slice B6 s.m.length d6, .slice D6 s.h.length e6]
      obtain ⟨ps0, ps1, ps2, psl, psf⟩ := ps.three
      obtain ⟨xo10, xo11, xo12, xo1l, xo1f⟩ := xo1.three
      obtain ⟨xo30, xo31, xo32, xo3l, xo3f⟩ := xo3.three
      go_wp2_with fail
      with_reducible refine (equalShare_same B6 D6 A1 A2 d6 e6 c1 c2 s _ o3.sees dl.sees o3.m4 o3.h4).mono ?_
      rintro e w7 ⟨rfl, hb⟩
      replace dl := dl.below hb
      replace o1 := o1.below hb
      replace o3 := o3.below hb
      replace ps := ps.below hb ps.lt
      replace xo1 := xo1.below hb xo1.lt
      replace xo3 := xo3.below hb xo3.lt
      clear hb
      clear ps0 ps1 ps2 psl psf
      clear xo10 xo11 xo12 xo1l xo1f
      clear xo30 xo31 xo32 xo3l xo3f
      obtain ⟨ps0, ps1, ps2, psl, psf⟩ := ps.three
      obtain ⟨xo10, xo11, xo12, xo1l, xo1f⟩ := xo1.three
      obtain ⟨xo30, xo31, xo32, xo3l, xo3f⟩ := xo3.three
      go_wp2_with fail
      with_reducible refine (iValidShare_any R B3 D3 d3 e3 _ o1.sees o1.m4 o1.h4).mono ?_
      rintro e w8 ⟨he, hb⟩
      rw [HV.out] at he
      subst he
      replace dl := dl.below hb
      replace o1 := o1.below hb
      replace o3 := o3.below hb
      replace ps := ps.below hb ps.lt
      replace xo1 := xo1.below hb xo1.lt
      replace xo3 := xo3.below hb xo3.lt
      clear hb
      clear ps0 ps1 ps2 psl psf
      clear xo10 xo11 xo12 xo1l xo1f
      clear xo30 xo31 xo32 xo3l xo3f
      obtain ⟨ps0, ps1, ps2, psl, psf⟩ := ps.three
      obtain ⟨xo10, xo11, xo12, xo1l, xo1f⟩ := xo1.three
      obtain ⟨xo30, xo31, xo32, xo3l, xo3f⟩ := xo3.three
      go_wp2
      go_ret
      exact ⟨by first | rfl | (simp; done) | (simp; omega), dl.bel⟩
end Go.Proofs.Ytimjalhhigekpaa

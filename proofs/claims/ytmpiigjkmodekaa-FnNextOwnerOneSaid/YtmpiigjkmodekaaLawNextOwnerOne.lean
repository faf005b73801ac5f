/-
  The walk of the law FnNextOwnerOne: at every code it returns true and changes nothing that was there. Conditions: none.
-/
import Derived.Test.YtmpiigjkmodekaaLawSh
import Derived.Test.YtmpiigjkmodekaaShLawMath
import Derived.Test.YtmpiigjkmodekaaLawFrame
import Derived.BigQuiet
import Derived.Deep.RegionHeld3
import Derived.Deep.CutRange

namespace Go.Proofs.Ytmpiigjkmodekaa
open Go.RowKit Sha

theorem sees_lit (w : World) (i : Int) : Sees (w.alloc (.cells #[.int .i64 i] 3)) (w.alloc (.cells #[.int .i64 i] 3)).heap.size (some ⟨w.heap.size, 0, none⟩) (ints [i]) := fun _ => by
  refine ⟨w.heap.size, 0, rfl, by simp, fun j u hu => ?_⟩
  match j, hu with
  | 0, hu =>
    have e : Value.int .i64 i = u := by simpa [ints] using hu
    subst e
    simp
  | j + 1, hu => simp [ints] at hu
set_option maxHeartbeats 8000000 in
set_option maxRecDepth 16384 in
theorem walkNextOwnerOne (a : Option Addr) (len cap : Nat) (zs : List Int) (w : World) (hn : zs.length = len) (hc : len ≤ cap) (hcc : cap ≤ maxLen) (h : Sees w w.heap.size a (byts zs)) (hz : ∀ y ∈ zs, 0 ≤ y ∧ y ≤ 255) :
    Calls Try.prog 3 #[.slice a len cap] w fun e w' => e = .returned (.bool true) ∧ Below w.heap.size w w' := by
  have HE := hid hn
  have HC := hid hcc
  have HZ := hid hz
  clear hn hcc hz
  by_cases hbig : 1048576 < len
  · go_enter Try.func3, Try.ntmps3
    go_wp2
    go_ret
    exact ⟨rfl, Below.refl _ _⟩
  · go_enter Try.func3, Try.ntmps3
    go_wp2_with fail
    refine (drawGiveShare_any _ _ _ _ _ h HZ.out HE.out hc (by omega) HC.out).mono ?_
    rintro e w2 ⟨A1, A2, c1, c2, s, i, rfl, dl, hi1, hi2⟩
    have hl6 := dl.2.2.2
    replace dl := dl.alloc (.cells #[.int .i64 s.t, .slice A1 s.m.length c1, .slice A2 s.h.length c2] 25)
    have ps := At.new w2 25 #[.int .i64 s.t, .slice A1 s.m.length c1, .slice A2 s.h.length c2]
    have HBK := hid (fun (h : giveB s i (1) = true) => (⟨give_back h, give_sum h⟩ : _ ∧ _))
    obtain ⟨R, hR⟩ : ∃ R, R = giveS s i (1) := ⟨_, rfl⟩
    have ER : Hid (giveS s i (1) = R) := hid hR.symm
    obtain ⟨K, hK⟩ : ∃ K, K = giveB s i (1) := ⟨_, rfl⟩
    have EK : Hid (giveB s i (1) = K) := hid hK.symm
    have HRl := hid (show R.m.length ≤ 6 ∧ R.h.length ≤ 6 by rw [hR]; exact give_len hl6 _ _)
    rw [← hR, ← hK] at HBK
    clear hR hK
    have HNX := hid (show (nextO s [i] == 0) = K by rw [← EK.out]; exact next_one s i)
    obtain ⟨ps0, ps1, ps2, psl, psf⟩ := ps.three
    go_wp2_with fail
    with_reducible refine (iGiveShare_any s i A1 A2 c1 c2 _ dl.sees dl.m4 dl.h4).mono ?_
    rintro e w3 ⟨B3, D3, d3, e3, he, ho3, hb⟩
    rw [ER.out, EK.out] at he
    rw [ER.out] at ho3
    subst he
    have o1 : OwnQ w3 _ B3 D3 d3 e3 R := ⟨ho3, HRl.out⟩
    clear ho3
    replace dl := dl.below hb
    replace ps := ps.below hb ps.lt
    clear hb
    clear ps0 ps1 ps2 psl psf
    -- o1
    replace dl := dl.alloc (.cells #[.int .i64 R.t, .slice B3 R.m.length d3, .slice D3 R.h.length e3] 25)
    replace o1 := o1.alloc (.cells #[.int .i64 R.t, .slice B3 R.m.length d3, .slice D3 R.h.length e3] 25)
    replace ps := ps.alloc (.cells #[.int .i64 R.t, .slice B3 R.m.length d3, .slice D3 R.h.length e3] 25)
    have xo1 := At.new w3 25 #[.int .i64 R.t, .slice B3 R.m.length d3, .slice D3 R.h.length e3]
    obtain ⟨ps0, ps1, ps2, psl, psf⟩ := ps.three
    obtain ⟨xo10, xo11, xo12, xo1l, xo1f⟩ := xo1.three
    go_wp2_with fail
    with_reducible refine (sGiveShare_any s i A1 A2 c1 c2 _ dl.sees dl.m4 dl.h4).mono ?_
    rintro e w4 ⟨B4, D4, d4, e4, he, ho4, hb⟩
    rw [ER.out, EK.out] at he
    rw [ER.out] at ho4
    subst he
    have o2 : OwnQ w4 _ B4 D4 d4 e4 R := ⟨ho4, HRl.out⟩
    clear ho4
    replace dl := dl.below hb
    replace o1 := o1.below hb
    replace ps := ps.below hb ps.lt
    replace xo1 := xo1.below hb xo1.lt
    clear hb
    clear ps0 ps1 ps2 psl psf
    clear xo10 xo11 xo12 xo1l xo1f
    -- o2
    replace dl := dl.alloc (.cells #[.int .i64 R.t, .slice B4 R.m.length d4, .slice D4 R.h.length e4] 25)
    replace o1 := o1.alloc (.cells #[.int .i64 R.t, .slice B4 R.m.length d4, .slice D4 R.h.length e4] 25)
    replace o2 := o2.alloc (.cells #[.int .i64 R.t, .slice B4 R.m.length d4, .slice D4 R.h.length e4] 25)
    replace ps := ps.alloc (.cells #[.int .i64 R.t, .slice B4 R.m.length d4, .slice D4 R.h.length e4] 25)
    replace xo1 := xo1.alloc (.cells #[.int .i64 R.t, .slice B4 R.m.length d4, .slice D4 R.h.length e4] 25)
    have xo2 := At.new w4 25 #[.int .i64 R.t, .slice B4 R.m.length d4, .slice D4 R.h.length e4]
    obtain ⟨ps0, ps1, ps2, psl, psf⟩ := ps.three
    obtain ⟨xo10, xo11, xo12, xo1l, xo1f⟩ := xo1.three
    obtain ⟨xo20, xo21, xo22, xo2l, xo2f⟩ := xo2.three
    go_wp2_with fail
    with_reducible refine (equalShare_same B3 D3 B4 D4 d3 e3 d4 e4 R _ o1.sees o2.sees o1.m4 o1.h4).mono ?_
    rintro e w5 ⟨rfl, hb⟩
    replace dl := dl.below hb
    replace o1 := o1.below hb
    replace o2 := o2.below hb
    replace ps := ps.below hb ps.lt
    replace xo1 := xo1.below hb xo1.lt
    replace xo2 := xo2.below hb xo2.lt
    clear hb
    clear ps0 ps1 ps2 psl psf
    clear xo10 xo11 xo12 xo1l xo1f
    clear xo20 xo21 xo22 xo2l xo2f
    obtain ⟨X, hX⟩ : ∃ X, X = nextO s [i] := ⟨_, rfl⟩
    have EX : Hid (nextO s [i] = X) := hid hX.symm
    rw [← hX] at HNX
    clear hX
    obtain ⟨ps0, ps1, ps2, psl, psf⟩ := ps.three
    obtain ⟨xo10, xo11, xo12, xo1l, xo1f⟩ := xo1.three
    obtain ⟨xo20, xo21, xo22, xo2l, xo2f⟩ := xo2.three
    have hl1 : Sees (w5.alloc (.cells #[.int .i64 i] 3)) (w5.alloc (.cells #[.int .i64 i] 3)).heap.size (some ⟨w5.heap.size, 0, none⟩) (ints [i]) := sees_lit w5 i
    go_wp2_with fail
    refine (iNextOwner_any s [i] A1 A2 (some ⟨w5.heap.size, 0, none⟩) c1 c2 1 _ (dl.alloc (.cells #[.int .i64 i] 3)).sees hl1 dl.m4 dl.h4 (by show 1 ≤ 4194304; decide)).mono ?_
    rintro e w9 ⟨he, hb⟩
    rw [EX.out] at he
    subst he
    replace dl := (dl.alloc (.cells #[.int .i64 i] 3)).below hb
    have hxk := HNX.out
    go_wp2
    go_ret
    exact ⟨by first | rfl | (simp; done), dl.bel⟩
end Go.Proofs.Ytmpiigjkmodekaa

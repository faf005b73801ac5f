/-
  The walk of the law FnGiveShare: at every code it returns true and changes nothing that was there. Conditions: none.
-/
import Derived.Test.YtimjalhhigekpaaLawSh
import Derived.Test.YtimjalhhigekpaaLawFrame
import Derived.BigQuiet
import Derived.Deep.RegionHeld3

namespace Go.Proofs.Ytimjalhhigekpaa
open Go.RowKit Sha

set_option maxHeartbeats 8000000 in
set_option maxRecDepth 16384 in
theorem walkGiveShare (a : Option Addr) (len cap : Nat) (zs : List Int) (w : World) (hn : zs.length = len) (hc : len ≤ cap) (hcc : cap ≤ maxLen) (h : Sees w w.heap.size a (byts zs)) (hz : ∀ y ∈ zs, 0 ≤ y ∧ y ≤ 255) :
    Calls Try.prog 6 #[.slice a len cap] w fun e w' => e = .returned (.bool true) ∧ Below w.heap.size w w' := by
  have HE := hid hn
  have HC := hid hcc
  have HZ := hid hz
  clear hn hcc hz
  by_cases hbig : 1048576 < len
  · go_enter Try.func6, Try.ntmps6
    go_wp2
    go_ret
    exact ⟨rfl, Below.refl _ _⟩
  · go_enter Try.func6, Try.ntmps6
    go_wp2_with fail
    refine (drawGiveShare_any _ _ _ _ _ h HZ.out HE.out hc (by omega) HC.out).mono ?_
    rintro e w2 ⟨A1, A2, c1, c2, s, i, rfl, dl, hi1, hi2⟩
    have hl6 := dl.2.2.2
    replace dl := dl.alloc (.cells #[.int .i64 s.t, .slice A1 s.m.length c1, .slice A2 s.h.length c2] 25)
    have ps := At.new w2 25 #[.int .i64 s.t, .slice A1 s.m.length c1, .slice A2 s.h.length c2]
    have HBK := hid (fun (h : giveB s i (1) = true) => (⟨give_back h, give_sum h⟩ : _ ∧ _))
    obtain ⟨R, hR⟩ : ∃ R, R = giveS s i (1) := ⟨_, rfl⟩
    have ER : Hid (giveS s i (1) = R) := hid hR.symm
    obtain ⟨K, hK⟩ : ∃ K, K = giveB s i (1) := ⟨_, rfl⟩
    have EK : Hid (giveB s i (1) = K) := hid hK.symm
    have HRl := hid (show R.m.length ≤ 6 ∧ R.h.length ≤ 6 by rw [hR]; exact give_len hl6 _ _)
    rw [← hR, ← hK] at HBK
    clear hR hK
    obtain ⟨ps0, ps1, ps2, psl, psf⟩ := ps.three
    go_wp2_with fail
    with_reducible refine (iGiveShare_any s i A1 A2 c1 c2 _ dl.sees dl.m4 dl.h4).mono ?_
    rintro e w3 ⟨B3, D3, d3, e3, he, ho3, hb⟩
    rw [ER.out, EK.out] at he
    rw [ER.out] at ho3
    subst he
    have o1 : OwnQ w3 _ B3 D3 d3 e3 R := ⟨ho3, HRl.out⟩
    clear ho3
    replace dl := dl.below hb
    replace ps := ps.below hb ps.lt
    clear hb
    clear ps0 ps1 ps2 psl psf
    -- o1
    replace dl := dl.alloc (.cells #[.int .i64 R.t, .slice B3 R.m.length d3, .slice D3 R.h.length e3] 25)
    replace o1 := o1.alloc (.cells #[.int .i64 R.t, .slice B3 R.m.length d3, .slice D3 R.h.length e3] 25)
    replace ps := ps.alloc (.cells #[.int .i64 R.t, .slice B3 R.m.length d3, .slice D3 R.h.length e3] 25)
    have xo1 := At.new w3 25 #[.int .i64 R.t, .slice B3 R.m.length d3, .slice D3 R.h.length e3]
    obtain ⟨ps0, ps1, ps2, psl, psf⟩ := ps.three
    obtain ⟨xo10, xo11, xo12, xo1l, xo1f⟩ := xo1.three
    go_wp2_with fail
    with_reducible refine (sGiveShare_any s i A1 A2 c1 c2 _ dl.sees dl.m4 dl.h4).mono ?_
    rintro e w4 ⟨B4, D4, d4, e4, he, ho4, hb⟩
    rw [ER.out, EK.out] at he
    rw [ER.out] at ho4
    subst he
    have o2 : OwnQ w4 _ B4 D4 d4 e4 R := ⟨ho4, HRl.out⟩
    clear ho4
    replace dl := dl.below hb
    replace o1 := o1.below hb
    replace ps := ps.below hb ps.lt
    replace xo1 := xo1.below hb xo1.lt
    clear hb
    clear ps0 ps1 ps2 psl psf
    clear xo10 xo11 xo12 xo1l xo1f
    -- o2
    replace dl := dl.alloc (.cells #[.int .i64 R.t, .slice B4 R.m.length d4, .slice D4 R.h.length e4] 25)
    replace o1 := o1.alloc (.cells #[.int .i64 R.t, .slice B4 R.m.length d4, .slice D4 R.h.length e4] 25)
    replace o2 := o2.alloc (.cells #[.int .i64 R.t, .slice B4 R.m.length d4, .slice D4 R.h.length e4] 25)
    replace ps := ps.alloc (.cells #[.int .i64 R.t, .slice B4 R.m.length d4, .slice D4 R.h.length e4] 25)
    replace xo1 := xo1.alloc (.cells #[.int .i64 R.t, .slice B4 R.m.length d4, .slice D4 R.h.length e4] 25)
    have xo2 := At.new w4 25 #[.int .i64 R.t, .slice B4 R.m.length d4, .slice D4 R.h.length e4]
    obtain ⟨ps0, ps1, ps2, psl, psf⟩ := ps.three
    obtain ⟨xo10, xo11, xo12, xo1l, xo1f⟩ := xo1.three
    obtain ⟨xo20, xo21, xo22, xo2l, xo2f⟩ := xo2.three
    go_wp2_with fail
    with_reducible refine (equalShare_same B3 D3 B4 D4 d3 e3 d4 e4 R _ o1.sees o2.sees o1.m4 o1.h4).mono ?_
    rintro e w5 ⟨rfl, hb⟩
    replace dl := dl.below hb
    replace o1 := o1.below hb
    replace o2 := o2.below hb
    replace ps := ps.below hb ps.lt
    replace xo1 := xo1.below hb xo1.lt
    replace xo2 := xo2.below hb xo2.lt
    clear hb
    clear ps0 ps1 ps2 psl psf
    clear xo10 xo11 xo12 xo1l xo1f
    clear xo20 xo21 xo22 xo2l xo2f
    cases K with
    | false =>
      obtain ⟨ps0, ps1, ps2, psl, psf⟩ := ps.three
      obtain ⟨xo10, xo11, xo12, xo1l, xo1f⟩ := xo1.three
      obtain ⟨xo20, xo21, xo22, xo2l, xo2f⟩ := xo2.three
      go_wp2_with fail
      with_reducible refine (equalShare_same B3 D3 B4 D4 d3 e3 d4 e4 R _ o1.sees o2.sees o1.m4 o1.h4).mono ?_
      rintro e w6 ⟨rfl, hb⟩
      replace dl := dl.below hb
      replace o1 := o1.below hb
      replace o2 := o2.below hb
      replace ps := ps.below hb ps.lt
      replace xo1 := xo1.below hb xo1.lt
      replace xo2 := xo2.below hb xo2.lt
      clear hb
      clear ps0 ps1 ps2 psl psf
      clear xo10 xo11 xo12 xo1l xo1f
      clear xo20 xo21 xo22 xo2l xo2f
      obtain ⟨ps0, ps1, ps2, psl, psf⟩ := ps.three
      obtain ⟨xo10, xo11, xo12, xo1l, xo1f⟩ := xo1.three
      obtain ⟨xo20, xo21, xo22, xo2l, xo2f⟩ := xo2.three
      go_wp2
      go_ret
      exact ⟨by first | rfl | (simp; done) | (simp; omega), dl.bel⟩
    | true =>
      obtain ⟨⟨b1, b2, b3⟩, b4, b5, b6⟩ := HBK.out rfl
      have HV := hid b1
      have E2 := hid b2
      have E3 := hid b3
      have HSl := hid hl6
      clear b1 b2 b3 hl6
      clear o2
      clear xo2
      obtain ⟨ps0, ps1, ps2, psl, psf⟩ := ps.three
      obtain ⟨xo10, xo11, xo12, xo1l, xo1f⟩ := xo1.three
      go_wp2_with fail
      with_reducible refine (iTakeShare_any R i B3 D3 d3 e3 _ o1.sees o1.m4 o1.h4).mono ?_
      rintro e w6 ⟨B6, D6, d6, e6, he, ho6, hb⟩
      rw [E3.out, E2.out] at he
      rw [E3.out] at ho6
      subst he
      have o3 : OwnQ w6 _ B6 D6 d6 e6 s := ⟨ho6, HSl.out⟩
      clear ho6
      replace dl := dl.below hb
      replace o1 := o1.below hb
      replace ps := ps.below hb ps.lt
      replace xo1 := xo1.below hb xo1.lt
      clear hb
      clear ps0 ps1 ps2 psl psf
      clear xo10 xo11 xo12 xo1l xo1f
      -- o3
      replace dl := dl.alloc (.cells #[.int .i64 s.t, .slice B6 s.m.length d6, .slice D6 s.h.length e6] 25)
      replace o1 := o1.alloc (.cells #[.int .i64 s.t, .slice B6 s.m.length d6, .slice D6 s.h.length e6] 25)
      replace o3 := o3.alloc (.cells #[.int .i64 s.t, .slice B6 s.m.length d6, .slice D6 s.h.length e6] 25)
      replace ps := ps.alloc (.cells #[.int .i64 s.t, .slice B6 s.m.length d6, .slice D6 s.h.length e6] 25)
      replace xo1 := xo1.alloc (.cells #[.int .i64 s.t, .slice B6 s.m.length d6, .slice D6 s.h.length e6] 25)
      have xo3 := At.new w6 25 #[.int .i64 s.t, .slice B6 s.m.length d6, .slice D6 s.h.length e6]
      have HSM := hid b4
      have HR2 := hid (share_range HV.out)
      have hsv := (giveB_iff.1 EK.out).1
      have HR1 := hid (share_range hsv)
      clear hsv b4
      have hw : IntKind.i64.wrap (sm s.h + 1) = sm s.h + 1 := by rw [IntKind.wrap_i64]; omega
      have ddl := dl.drew
      have do1 := o1.drew
      have do3 := o3.drew
      have dps := ps.drew
      have dxo1 := xo1.drew
      have dxo3 := xo3.drew
      obtain ⟨ps0, ps1, ps2, psl, psf⟩ := ps.three
      obtain ⟨xo10, xo11, xo12, xo1l, xo1f⟩ := xo1.three
      obtain ⟨xo30, xo31, xo32, xo3l, xo3f⟩ := xo3.three
      go_wp2_with fail
      go_region_held3 (fun w' => w'.cell? ⟨w2.heap.size, 0, none⟩ = some (.int .i64 s.t) ∧ w'.cell? ⟨w2.heap.size, 1, none⟩ = some (.slice A1 s.m.length c1) ∧ w'.cell? ⟨w2.heap.size, 2, none⟩ = some (.slice A2 s.h.length c2) ∧ w'.cell? ⟨w3.heap.size, 0, none⟩ = some (.int .i64 R.t) ∧ w'.cell? ⟨w3.heap.size, 1, none⟩ = some (.slice B3 R.m.length d3) ∧ w'.cell? ⟨w3.heap.size, 2, none⟩ = some (.slice D3 R.h.length e3) ∧ w'.cell? ⟨w6.heap.size, 0, none⟩ = some (.int .i64 s.t) ∧ w'.cell? ⟨w6.heap.size, 1, none⟩ = some (.slice B6 s.m.length d6) ∧ w'.cell? ⟨w6.heap.size, 2, none⟩ = some (.slice D6 s.h.length e6))
        (first | with_reducible exact ⟨ps0, ps1, ps2, xo10, xo11, xo12, xo30, xo31, xo32⟩ | with_reducible exact ⟨yps0, yps1, yps2, yxo10, yxo11, yxo12, yxo30, yxo31, yxo32⟩ | with_reducible exact ⟨zps0, zps1, zps2, zxo10, zxo11, zxo12, zxo30, zxo31, zxo32⟩ | go_keep)
        (first
          | (go_at_call 16; with_reducible refine (equalShare_same B6 D6 A1 A2 d6 e6 c1 c2 s _ do3.sees ddl.sees do3.m4 do3.h4).mono ?_; rintro e wy ⟨rfl, hb⟩; have ydl := ddl.below hb; have yo1 := do1.below hb; have yo3 := do3.below hb; have yps := dps.below hb dps.lt; have yxo1 := dxo1.below hb dxo1.lt; have yxo3 := dxo3.below hb dxo3.lt; obtain ⟨yps0, yps1, yps2, ypsl, ypsf⟩ := yps.three; obtain ⟨yxo10, yxo11, yxo12, yxo1l, yxo1f⟩ := yxo1.three; obtain ⟨yxo30, yxo31, yxo32, yxo3l, yxo3f⟩ := yxo3.three)
          | (go_at_call 10; with_reducible refine (iValidShare_any R B3 D3 d3 e3 _ yo1.sees yo1.m4 yo1.h4).mono ?_; rintro e wz ⟨he, hb⟩; rw [HV.out] at he; subst he; have zdl := ydl.below hb; have zo1 := yo1.below hb; have zo3 := yo3.below hb; have zps := yps.below hb yps.lt; have zxo1 := yxo1.below hb yxo1.lt; have zxo3 := yxo3.below hb yxo3.lt; obtain ⟨zps0, zps1, zps2, zpsl, zpsf⟩ := zps.three; obtain ⟨zxo10, zxo11, zxo12, zxo1l, zxo1f⟩ := zxo1.three; obtain ⟨zxo30, zxo31, zxo32, zxo3l, zxo3f⟩ := zxo3.three)
          | (go_at_call 12; with_reducible refine (lsum_any D3 e3 R.h _ zo1.seesh zo1.h5 HR2.out).mono ?_; rintro e w' ⟨rfl, rfl⟩; rw [HSM.out])
          | (go_at_call 12; with_reducible refine (lsum_any A2 c2 s.h _ zdl.seesh zdl.h5 HR1.out).mono ?_; rintro e w' ⟨rfl, rfl⟩)
          | fail)
      all_goals
        go_wp2
        go_ret
        exact ⟨by simp, zdl.bel⟩
end Go.Proofs.Ytimjalhhigekpaa

/-
  The walk of the law FnEndCallOpen: at every code it returns true and changes nothing that was there. Conditions: none.
-/
import Derived.Test.YtfkobmafbiikaaaBrkDraw
import Derived.Test.YtfkobmafbiikaaaBrkD
import Derived.Test.YtfkobmafbiikaaaLawFrame
import Derived.Test.YtfkobmafbiikaaaBrkLawMath
import Derived.Test.YtfkobmafbiikaaaBrkQ0
namespace Go.Proofs.Ytfkobmafbiikaaa
open Go.RowKit Brk

set_option maxHeartbeats 4000000 in
theorem walkEndCallOpen (a : Option Addr) (len cap : Nat) (zs : List Int) (w : World) (hn : zs.length = len) (hc : len ≤ cap) (hcc : cap ≤ maxLen) (h : Sees w w.heap.size a (byts zs)) (hz : ∀ y ∈ zs, 0 ≤ y ∧ y ≤ 255) :
    Calls Try.prog 3 #[.slice a len cap] w fun e w' => e = .returned (.bool true) ∧ Below w.heap.size w w' := by
  have HE := hid hn
  have HC := hid hcc
  have HZ := hid hz
  clear hn hcc hz
  by_cases hbig : 1048576 < len
  · go_enter Try.func3, Try.ntmps3
    go_wp2
    go_ret
    exact ⟨rfl, Below.refl _ _⟩
  · go_enter Try.func3, Try.ntmps3
    go_wp2_with fail
    refine (drawEndCall_any _ _ _ _ _ h HZ.out HE.out hc (by omega) HC.out).mono ?_
    rintro e w1 ⟨b, g, t, rfl, hB1⟩
    clear h hbig
    have pb2 := At.new w1 24 #[.int .i64 b.li, .int .i64 b.re, .int .i64 b.st, .int .i64 b.fa, .int .i64 b.si]
    have hB2 := hB1.alloc hB1.size (.cells #[.int .i64 b.li, .int .i64 b.re, .int .i64 b.st, .int .i64 b.fa, .int .i64 b.si] 24)
    clear  hB1
    rcases hV : momB b t with _ | _
    · skip
      have HV := hid hV
      clear hV
      obtain ⟨X, hX⟩ : ∃ X, X = finR b g t := ⟨_, rfl⟩
      have HX : Hid (finR b g t = X) := hid hX.symm
      clear hX
      obtain ⟨p0, p1, p2, p3, p4, pl⟩ := pb2.five
      go_wp2_with fail
      with_reducible refine (iEndCall_any b g t _).mono ?_
      rintro e w3 ⟨he, hb3⟩
      rw [HX.out, HV.out] at he
      subst he
      have pb3 := pb2.below hb3 pb2.lt
      have hB3 := hB2.trans (hb3.mono hB2.size)
      clear pb2 hb3 hB2 p0 p1 p2 p3 p4 pl
      have po4 := At.new w3 24 #[.int .i64 X.li, .int .i64 X.re, .int .i64 X.st, .int .i64 X.fa, .int .i64 X.si]
      have pb4 := pb3.alloc (.cells #[.int .i64 X.li, .int .i64 X.re, .int .i64 X.st, .int .i64 X.fa, .int .i64 X.si] 24)
      have hB4 := hB3.alloc hB3.size (.cells #[.int .i64 X.li, .int .i64 X.re, .int .i64 X.st, .int .i64 X.fa, .int .i64 X.si] 24)
      clear pb3 hB3
      obtain ⟨p0, p1, p2, p3, p4, pl⟩ := pb4.five
      obtain ⟨q0, q1, q2, q3, q4, ql⟩ := po4.five
      go_wp2_with fail
      with_reducible refine (sEndCall_any b g t _).mono ?_
      rintro e w5 ⟨he, hb5⟩
      rw [HX.out, HV.out] at he
      subst he
      have pb5 := pb4.below hb5 pb4.lt
      have po5 := po4.below hb5 po4.lt
      have hB5 := hB4.trans (hb5.mono hB4.size)
      clear pb4 po4 hb5 hB4 p0 p1 p2 p3 p4 pl q0 q1 q2 q3 q4 ql
      have pw6 := At.new w5 24 #[.int .i64 X.li, .int .i64 X.re, .int .i64 X.st, .int .i64 X.fa, .int .i64 X.si]
      have pb6 := pb5.alloc (.cells #[.int .i64 X.li, .int .i64 X.re, .int .i64 X.st, .int .i64 X.fa, .int .i64 X.si] 24)
      have po6 := po5.alloc (.cells #[.int .i64 X.li, .int .i64 X.re, .int .i64 X.st, .int .i64 X.fa, .int .i64 X.si] 24)
      have hB6 := hB5.alloc hB5.size (.cells #[.int .i64 X.li, .int .i64 X.re, .int .i64 X.st, .int .i64 X.fa, .int .i64 X.si] 24)
      clear pb5 po5 hB5
      obtain ⟨p0, p1, p2, p3, p4, pl⟩ := pb6.five
      obtain ⟨q0, q1, q2, q3, q4, ql⟩ := po6.five
      obtain ⟨r0, r1, r2, r3, r4, rl⟩ := pw6.five
      go_wp2
      go_ret
      exact ⟨by first | rfl | (simp; done) | (simp; omega), hB6⟩
    · skip
      have HV := hid hV
      have HS := hid (fun (k : Nat) (hk : (k : Int) < b.li) => frs_step (t := t) hV hk)
      obtain ⟨⟨a1, a2⟩, _⟩ := mom_of hV
      have HF0 := hid (frs_zero (b := b) (t := t) a1)
      have HEn := hid (fun (k : Nat) (hk : ¬ (k : Int) < b.li) => frs_end (t := t) hk)
      by_cases h1 : b.st = 1
      · skip
        have HX := hid (finR_open (g := g) hV h1)
        have e0 := bne_f h1
        clear hV h1
        obtain ⟨p0, p1, p2, p3, p4, pl⟩ := pb2.five
        go_wp2_with fail
        with_reducible refine (iEndCall_any b g t _).mono ?_
        rintro e w3 ⟨he, hb3⟩
        rw [HX.out, HV.out] at he
        subst he
        have pb3 := pb2.below hb3 pb2.lt
        have hB3 := hB2.trans (hb3.mono hB2.size)
        clear pb2 hb3 hB2 p0 p1 p2 p3 p4 pl
        have po4 := At.new w3 24 #[.int .i64 b.li, .int .i64 b.re, .int .i64 b.st, .int .i64 b.fa, .int .i64 b.si]
        have pb4 := pb3.alloc (.cells #[.int .i64 b.li, .int .i64 b.re, .int .i64 b.st, .int .i64 b.fa, .int .i64 b.si] 24)
        have hB4 := hB3.alloc hB3.size (.cells #[.int .i64 b.li, .int .i64 b.re, .int .i64 b.st, .int .i64 b.fa, .int .i64 b.si] 24)
        clear pb3 hB3
        obtain ⟨p0, p1, p2, p3, p4, pl⟩ := pb4.five
        obtain ⟨q0, q1, q2, q3, q4, ql⟩ := po4.five
        go_wp2_with fail
        with_reducible refine (sEndCall_any b g t _).mono ?_
        rintro e w5 ⟨he, hb5⟩
        rw [HX.out, HV.out] at he
        subst he
        have pb5 := pb4.below hb5 pb4.lt
        have po5 := po4.below hb5 po4.lt
        have hB5 := hB4.trans (hb5.mono hB4.size)
        clear pb4 po4 hb5 hB4 p0 p1 p2 p3 p4 pl q0 q1 q2 q3 q4 ql
        have pw6 := At.new w5 24 #[.int .i64 b.li, .int .i64 b.re, .int .i64 b.st, .int .i64 b.fa, .int .i64 b.si]
        have pb6 := pb5.alloc (.cells #[.int .i64 b.li, .int .i64 b.re, .int .i64 b.st, .int .i64 b.fa, .int .i64 b.si] 24)
        have po6 := po5.alloc (.cells #[.int .i64 b.li, .int .i64 b.re, .int .i64 b.st, .int .i64 b.fa, .int .i64 b.si] 24)
        have hB6 := hB5.alloc hB5.size (.cells #[.int .i64 b.li, .int .i64 b.re, .int .i64 b.st, .int .i64 b.fa, .int .i64 b.si] 24)
        clear pb5 po5 hB5
        obtain ⟨p0, p1, p2, p3, p4, pl⟩ := pb6.five
        obtain ⟨q0, q1, q2, q3, q4, ql⟩ := po6.five
        obtain ⟨r0, r1, r2, r3, r4, rl⟩ := pw6.five
        skip
        have pf0 : At ((w5.alloc (.cells #[.int .i64 b.li, .int .i64 b.re, .int .i64 b.st, .int .i64 b.fa, .int .i64 b.si] 24)).alloc (.cells #[.int .i64 b.li, .int .i64 b.re, .int .i64 0, .int .i64 0, .int .i64 b.si] 24)) (w5.heap.size + 1) 24 #[.int .i64 (frs b t 0).li, .int .i64 (frs b t 0).re, .int .i64 (frs b t 0).st, .int .i64 (frs b t 0).fa, .int .i64 (frs b t 0).si] := by rw [HF0.out]; exact At.newAt _ _ (by simp)
        have hb9 := (Below.refl _ (w5.alloc (.cells #[.int .i64 b.li, .int .i64 b.re, .int .i64 b.st, .int .i64 b.fa, .int .i64 b.si] 24))).alloc (Nat.le_refl _) (.cells #[.int .i64 b.li, .int .i64 b.re, .int .i64 0, .int .i64 0, .int .i64 b.si] 24)
        have hpl := pb6.lt
        have hol := po6.lt
        have hLw := hB6.size
        simp only [World.size_alloc] at hpl hol hLw
        have hBf := hB6.alloc hB6.size (.cells #[.int .i64 b.li, .int .i64 b.re, .int .i64 0, .int .i64 0, .int .i64 b.si] 24)
        have pbf := pb6.alloc (.cells #[.int .i64 b.li, .int .i64 b.re, .int .i64 0, .int .i64 0, .int .i64 b.si] 24)
        have pof := po6.alloc (.cells #[.int .i64 b.li, .int .i64 b.re, .int .i64 0, .int .i64 0, .int .i64 b.si] 24)
        go_wp2
        go_loopw [11] (fun i wr => ∃ k : Nat, (k : Int) ≤ b.li ∧ i = .int .i64 k ∧ At wr (w5.heap.size + 1) 24 #[.int .i64 (frs b t k).li, .int .i64 (frs b t k).re, .int .i64 (frs b t k).st, .int .i64 (frs b t k).fa, .int .i64 (frs b t k).si] ∧ At wr w1.heap.size 24 #[.int .i64 b.li, .int .i64 b.re, .int .i64 b.st, .int .i64 b.fa, .int .i64 b.si] ∧ At wr w3.heap.size 24 #[.int .i64 b.li, .int .i64 b.re, .int .i64 b.st, .int .i64 b.fa, .int .i64 b.si] ∧ Below w.heap.size w wr) (fun i _ => b.li.toNat - (intOf i).toNat)
        case atStart => exact ⟨0, by omega, rfl, pf0, pbf, pof, hBf⟩
        case round =>
          clear pf0 pbf pof hBf hb9 pb6 po6 pw6 hB6 p0 p1 p2 p3 p4 pl q0 q1 q2 q3 q4 ql r0 r1 r2 r3 r4 rl
          obtain ⟨k, hk, rfl, hf, hpb, hpo, hb⟩ := hrel
          by_cases hlt : (k : Int) < b.li
          · obtain ⟨x1, x2, x3⟩ := HS.out k hlt
            obtain ⟨F, hF⟩ : ∃ F, F = frs b t k := ⟨_, rfl⟩
            obtain ⟨F2, hF2⟩ : ∃ F2, F2 = frs b t (k + 1) := ⟨_, rfl⟩
            rw [← hF] at x1 x2 x3 hf
            rw [← hF2] at x3
            have HF2 := hid hF2
            have H2 := hid x2
            have H3 := hid x3
            have y1 := bne_f x1
            clear x1 x2 x3 hF hF2
            obtain ⟨f0, f1, f2, f3, f4, fl⟩ := hf.five
            obtain ⟨p0, p1, p2, p3, p4, pl⟩ := hpb.five
            go_wp2_with fail
            with_reducible refine (iEndCall_any F false t _).mono ?_
            rintro e w20 ⟨he, hb20⟩
            rw [H3.out, H2.out] at he
            subst he
            have hf2 := hf.below hb20 hf.lt
            have hpb2 := hpb.below hb20 hpb.lt
            have hpo2 := hpo.below hb20 hpo.lt
            have hn2 := At.new w20 24 #[.int .i64 F2.li, .int .i64 F2.re, .int .i64 F2.st, .int .i64 F2.fa, .int .i64 F2.si]
            have hb2 := hb.trans (hb20.mono hb.size)
            have nl : ¬ w5.heap.size + 1 = w20.heap.size := by have := hf2.lt; omega
            have nz := hf2.lt
            clear hf hpb hpo hb hb20 f0 f1 f2 f3 f4 fl p0 p1 p2 p3 p4 pl
            obtain ⟨hf3, hg3⟩ := brk_put F2 hf2
            have hpb3 := hpb2.past hg3 (by omega)
            have hpo3 := hpo2.past hg3 (by omega)
            have hb3 := hb2.grown hg3 hb2.size (fun q hq => by injection hq with hq; omega)
            have hf4 := hf3.alloc (.cells #[.int .i64 F2.li, .int .i64 F2.re, .int .i64 F2.st, .int .i64 F2.fa, .int .i64 F2.si] 24)
            have hpb4 := hpb3.alloc (.cells #[.int .i64 F2.li, .int .i64 F2.re, .int .i64 F2.st, .int .i64 F2.fa, .int .i64 F2.si] 24)
            have hpo4 := hpo3.alloc (.cells #[.int .i64 F2.li, .int .i64 F2.re, .int .i64 F2.st, .int .i64 F2.fa, .int .i64 F2.si] 24)
            have hb4 := hb3.alloc hb3.size (.cells #[.int .i64 F2.li, .int .i64 F2.re, .int .i64 F2.st, .int .i64 F2.fa, .int .i64 F2.si] 24)
            obtain ⟨f0, f1, f2, f3, f4, fl⟩ := hf2.five
            obtain ⟨n0, n1, n2, n3, n4, nn⟩ := hn2.five
            have ff := hf2.frozen
            have HH := hid hf4
            have HP4 := hid hpb4
            have HO4 := hid hpo4
            have HB4 := hid hb4
            clear hf4 hf3 hg3 hpb3 hpo3 hb3 hf2 hpb2 hpo2 hb2 hn2 hpb4 hpo4 hb4 fl nn nl
            go_wp2
            go_roundw
            case rel => exact ⟨k + 1, by omega, by go_num, by rw [← HF2.out]; exact HH.out, HP4.out, HO4.out, HB4.out⟩
            case measure => simp [intOf]; omega
          · obtain ⟨x1, x2⟩ := HEn.out k (by omega)
            obtain ⟨F, hF⟩ : ∃ F, F = frs b t k := ⟨_, rfl⟩
            rw [← hF] at x1 x2 hf
            have y1 := beq_t x1
            have y2 := beq_t x2
            clear x1 x2 hF
            obtain ⟨f0, f1, f2, f3, f4, fl⟩ := hf.five
            obtain ⟨p0, p1, p2, p3, p4, pl⟩ := hpb.five
            obtain ⟨q0, q1, q2, q3, q4, ql⟩ := hpo.five
            go_wp2
            go_ret
            exact ⟨by first | rfl | (simp; done) | (simp; omega), hb⟩
      · skip
        have e0 := bne_t h1
        clear hV h1
        obtain ⟨X, hX⟩ : ∃ X, X = finR b g t := ⟨_, rfl⟩
        have HX : Hid (finR b g t = X) := hid hX.symm
        clear hX
        obtain ⟨p0, p1, p2, p3, p4, pl⟩ := pb2.five
        go_wp2_with fail
        with_reducible refine (iEndCall_any b g t _).mono ?_
        rintro e w3 ⟨he, hb3⟩
        rw [HX.out, HV.out] at he
        subst he
        have pb3 := pb2.below hb3 pb2.lt
        have hB3 := hB2.trans (hb3.mono hB2.size)
        clear pb2 hb3 hB2 p0 p1 p2 p3 p4 pl
        have po4 := At.new w3 24 #[.int .i64 X.li, .int .i64 X.re, .int .i64 X.st, .int .i64 X.fa, .int .i64 X.si]
        have pb4 := pb3.alloc (.cells #[.int .i64 X.li, .int .i64 X.re, .int .i64 X.st, .int .i64 X.fa, .int .i64 X.si] 24)
        have hB4 := hB3.alloc hB3.size (.cells #[.int .i64 X.li, .int .i64 X.re, .int .i64 X.st, .int .i64 X.fa, .int .i64 X.si] 24)
        clear pb3 hB3
        obtain ⟨p0, p1, p2, p3, p4, pl⟩ := pb4.five
        obtain ⟨q0, q1, q2, q3, q4, ql⟩ := po4.five
        go_wp2_with fail
        with_reducible refine (sEndCall_any b g t _).mono ?_
        rintro e w5 ⟨he, hb5⟩
        rw [HX.out, HV.out] at he
        subst he
        have pb5 := pb4.below hb5 pb4.lt
        have po5 := po4.below hb5 po4.lt
        have hB5 := hB4.trans (hb5.mono hB4.size)
        clear pb4 po4 hb5 hB4 p0 p1 p2 p3 p4 pl q0 q1 q2 q3 q4 ql
        have pw6 := At.new w5 24 #[.int .i64 X.li, .int .i64 X.re, .int .i64 X.st, .int .i64 X.fa, .int .i64 X.si]
        have pb6 := pb5.alloc (.cells #[.int .i64 X.li, .int .i64 X.re, .int .i64 X.st, .int .i64 X.fa, .int .i64 X.si] 24)
        have po6 := po5.alloc (.cells #[.int .i64 X.li, .int .i64 X.re, .int .i64 X.st, .int .i64 X.fa, .int .i64 X.si] 24)
        have hB6 := hB5.alloc hB5.size (.cells #[.int .i64 X.li, .int .i64 X.re, .int .i64 X.st, .int .i64 X.fa, .int .i64 X.si] 24)
        clear pb5 po5 hB5
        obtain ⟨p0, p1, p2, p3, p4, pl⟩ := pb6.five
        obtain ⟨q0, q1, q2, q3, q4, ql⟩ := po6.five
        obtain ⟨r0, r1, r2, r3, r4, rl⟩ := pw6.five
        skip
        have pf0 : At ((w5.alloc (.cells #[.int .i64 X.li, .int .i64 X.re, .int .i64 X.st, .int .i64 X.fa, .int .i64 X.si] 24)).alloc (.cells #[.int .i64 b.li, .int .i64 b.re, .int .i64 0, .int .i64 0, .int .i64 b.si] 24)) (w5.heap.size + 1) 24 #[.int .i64 (frs b t 0).li, .int .i64 (frs b t 0).re, .int .i64 (frs b t 0).st, .int .i64 (frs b t 0).fa, .int .i64 (frs b t 0).si] := by rw [HF0.out]; exact At.newAt _ _ (by simp)
        have hb9 := (Below.refl _ (w5.alloc (.cells #[.int .i64 X.li, .int .i64 X.re, .int .i64 X.st, .int .i64 X.fa, .int .i64 X.si] 24))).alloc (Nat.le_refl _) (.cells #[.int .i64 b.li, .int .i64 b.re, .int .i64 0, .int .i64 0, .int .i64 b.si] 24)
        have hpl := pb6.lt
        have hol := po6.lt
        have hLw := hB6.size
        simp only [World.size_alloc] at hpl hol hLw
        have hBf := hB6.alloc hB6.size (.cells #[.int .i64 b.li, .int .i64 b.re, .int .i64 0, .int .i64 0, .int .i64 b.si] 24)
        have pbf := pb6.alloc (.cells #[.int .i64 b.li, .int .i64 b.re, .int .i64 0, .int .i64 0, .int .i64 b.si] 24)
        have pof := po6.alloc (.cells #[.int .i64 b.li, .int .i64 b.re, .int .i64 0, .int .i64 0, .int .i64 b.si] 24)
        go_wp2
        go_loopw [11] (fun i wr => ∃ k : Nat, (k : Int) ≤ b.li ∧ i = .int .i64 k ∧ At wr (w5.heap.size + 1) 24 #[.int .i64 (frs b t k).li, .int .i64 (frs b t k).re, .int .i64 (frs b t k).st, .int .i64 (frs b t k).fa, .int .i64 (frs b t k).si] ∧ At wr w1.heap.size 24 #[.int .i64 b.li, .int .i64 b.re, .int .i64 b.st, .int .i64 b.fa, .int .i64 b.si] ∧ At wr w3.heap.size 24 #[.int .i64 X.li, .int .i64 X.re, .int .i64 X.st, .int .i64 X.fa, .int .i64 X.si] ∧ Below w.heap.size w wr) (fun i _ => b.li.toNat - (intOf i).toNat)
        case atStart => exact ⟨0, by omega, rfl, pf0, pbf, pof, hBf⟩
        case round =>
          clear pf0 pbf pof hBf hb9 pb6 po6 pw6 hB6 p0 p1 p2 p3 p4 pl q0 q1 q2 q3 q4 ql r0 r1 r2 r3 r4 rl
          obtain ⟨k, hk, rfl, hf, hpb, hpo, hb⟩ := hrel
          by_cases hlt : (k : Int) < b.li
          · obtain ⟨x1, x2, x3⟩ := HS.out k hlt
            obtain ⟨F, hF⟩ : ∃ F, F = frs b t k := ⟨_, rfl⟩
            obtain ⟨F2, hF2⟩ : ∃ F2, F2 = frs b t (k + 1) := ⟨_, rfl⟩
            rw [← hF] at x1 x2 x3 hf
            rw [← hF2] at x3
            have HF2 := hid hF2
            have H2 := hid x2
            have H3 := hid x3
            have y1 := bne_f x1
            clear x1 x2 x3 hF hF2
            obtain ⟨f0, f1, f2, f3, f4, fl⟩ := hf.five
            obtain ⟨p0, p1, p2, p3, p4, pl⟩ := hpb.five
            go_wp2_with fail
            with_reducible refine (iEndCall_any F false t _).mono ?_
            rintro e w20 ⟨he, hb20⟩
            rw [H3.out, H2.out] at he
            subst he
            have hf2 := hf.below hb20 hf.lt
            have hpb2 := hpb.below hb20 hpb.lt
            have hpo2 := hpo.below hb20 hpo.lt
            have hn2 := At.new w20 24 #[.int .i64 F2.li, .int .i64 F2.re, .int .i64 F2.st, .int .i64 F2.fa, .int .i64 F2.si]
            have hb2 := hb.trans (hb20.mono hb.size)
            have nl : ¬ w5.heap.size + 1 = w20.heap.size := by have := hf2.lt; omega
            have nz := hf2.lt
            clear hf hpb hpo hb hb20 f0 f1 f2 f3 f4 fl p0 p1 p2 p3 p4 pl
            obtain ⟨hf3, hg3⟩ := brk_put F2 hf2
            have hpb3 := hpb2.past hg3 (by omega)
            have hpo3 := hpo2.past hg3 (by omega)
            have hb3 := hb2.grown hg3 hb2.size (fun q hq => by injection hq with hq; omega)
            have hf4 := hf3.alloc (.cells #[.int .i64 F2.li, .int .i64 F2.re, .int .i64 F2.st, .int .i64 F2.fa, .int .i64 F2.si] 24)
            have hpb4 := hpb3.alloc (.cells #[.int .i64 F2.li, .int .i64 F2.re, .int .i64 F2.st, .int .i64 F2.fa, .int .i64 F2.si] 24)
            have hpo4 := hpo3.alloc (.cells #[.int .i64 F2.li, .int .i64 F2.re, .int .i64 F2.st, .int .i64 F2.fa, .int .i64 F2.si] 24)
            have hb4 := hb3.alloc hb3.size (.cells #[.int .i64 F2.li, .int .i64 F2.re, .int .i64 F2.st, .int .i64 F2.fa, .int .i64 F2.si] 24)
            obtain ⟨f0, f1, f2, f3, f4, fl⟩ := hf2.five
            obtain ⟨n0, n1, n2, n3, n4, nn⟩ := hn2.five
            have ff := hf2.frozen
            have HH := hid hf4
            have HP4 := hid hpb4
            have HO4 := hid hpo4
            have HB4 := hid hb4
            clear hf4 hf3 hg3 hpb3 hpo3 hb3 hf2 hpb2 hpo2 hb2 hn2 hpb4 hpo4 hb4 fl nn nl
            go_wp2
            go_roundw
            case rel => exact ⟨k + 1, by omega, by go_num, by rw [← HF2.out]; exact HH.out, HP4.out, HO4.out, HB4.out⟩
            case measure => simp [intOf]; omega
          · obtain ⟨x1, x2⟩ := HEn.out k (by omega)
            obtain ⟨F, hF⟩ : ∃ F, F = frs b t k := ⟨_, rfl⟩
            rw [← hF] at x1 x2 hf
            have y1 := beq_t x1
            have y2 := beq_t x2
            clear x1 x2 hF
            obtain ⟨f0, f1, f2, f3, f4, fl⟩ := hf.five
            obtain ⟨p0, p1, p2, p3, p4, pl⟩ := hpb.five
            obtain ⟨q0, q1, q2, q3, q4, ql⟩ := hpo.five
            go_wp2
            go_ret
            exact ⟨by first | rfl | (simp; done) | (simp; omega), hb⟩
end Go.Proofs.Ytfkobmafbiikaaa

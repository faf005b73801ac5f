/-
  The walk of the law FnEndCallTry: at every code it returns true and changes nothing that was there. Conditions: none.
-/
import Derived.Test.YtkailakeiepkgacBrkDraw
import Derived.Test.YtkailakeiepkgacBrkD
import Derived.Test.YtkailakeiepkgacLawFrame
import Derived.Test.YtkailakeiepkgacBrkLawMath
namespace Go.Proofs.Ytkailakeiepkgac
open Go.RowKit Brk

set_option maxHeartbeats 4000000 in
theorem walkEndCallTry (a : Option Addr) (len cap : Nat) (zs : List Int) (w : World) (hn : zs.length = len) (hc : len ≤ cap) (hcc : cap ≤ maxLen) (h : Sees w w.heap.size a (byts zs)) (hz : ∀ y ∈ zs, 0 ≤ y ∧ y ≤ 255) :
    Calls Try.prog 3 #[.slice a len cap] w fun e w' => e = .returned (.bool true) ∧ Below w.heap.size w w' := by
  have HE := hid hn
  have HC := hid hcc
  have HZ := hid hz
  clear hn hcc hz
  by_cases hbig : 1048576 < len
  · go_enter Try.func3, Try.ntmps3
    go_wp2
    go_ret
    exact ⟨rfl, Below.refl _ _⟩
  · go_enter Try.func3, Try.ntmps3
    go_wp2_with fail
    refine (drawEndCall_any _ _ _ _ _ h HZ.out HE.out hc (by omega) HC.out).mono ?_
    rintro e w1 ⟨b, g, t, rfl, hB1⟩
    clear h hbig
    have pb2 := At.new w1 24 #[.int .i64 b.li, .int .i64 b.re, .int .i64 b.st, .int .i64 b.fa, .int .i64 b.si]
    have hB2 := hB1.alloc hB1.size (.cells #[.int .i64 b.li, .int .i64 b.re, .int .i64 b.st, .int .i64 b.fa, .int .i64 b.si] 24)
    clear  hB1
    rcases hV : momB b t with _ | _
    · skip
      have HV := hid hV
      clear hV
      obtain ⟨X, hX⟩ : ∃ X, X = finR b g t := ⟨_, rfl⟩
      have HX : Hid (finR b g t = X) := hid hX.symm
      clear hX
      obtain ⟨p0, p1, p2, p3, p4, pl⟩ := pb2.five
      go_wp2_with fail
      with_reducible refine (iEndCall_any b g t _).mono ?_
      rintro e w3 ⟨he, hb3⟩
      rw [HX.out, HV.out] at he
      subst he
      have pb3 := pb2.below hb3 pb2.lt
      have hB3 := hB2.trans (hb3.mono hB2.size)
      clear pb2 hb3 hB2 p0 p1 p2 p3 p4 pl
      have po4 := At.new w3 24 #[.int .i64 X.li, .int .i64 X.re, .int .i64 X.st, .int .i64 X.fa, .int .i64 X.si]
      have pb4 := pb3.alloc (.cells #[.int .i64 X.li, .int .i64 X.re, .int .i64 X.st, .int .i64 X.fa, .int .i64 X.si] 24)
      have hB4 := hB3.alloc hB3.size (.cells #[.int .i64 X.li, .int .i64 X.re, .int .i64 X.st, .int .i64 X.fa, .int .i64 X.si] 24)
      clear pb3 hB3
      obtain ⟨p0, p1, p2, p3, p4, pl⟩ := pb4.five
      obtain ⟨q0, q1, q2, q3, q4, ql⟩ := po4.five
      go_wp2_with fail
      with_reducible refine (sEndCall_any b g t _).mono ?_
      rintro e w5 ⟨he, hb5⟩
      rw [HX.out, HV.out] at he
      subst he
      have pb5 := pb4.below hb5 pb4.lt
      have po5 := po4.below hb5 po4.lt
      have hB5 := hB4.trans (hb5.mono hB4.size)
      clear pb4 po4 hb5 hB4 p0 p1 p2 p3 p4 pl q0 q1 q2 q3 q4 ql
      have pw6 := At.new w5 24 #[.int .i64 X.li, .int .i64 X.re, .int .i64 X.st, .int .i64 X.fa, .int .i64 X.si]
      have pb6 := pb5.alloc (.cells #[.int .i64 X.li, .int .i64 X.re, .int .i64 X.st, .int .i64 X.fa, .int .i64 X.si] 24)
      have po6 := po5.alloc (.cells #[.int .i64 X.li, .int .i64 X.re, .int .i64 X.st, .int .i64 X.fa, .int .i64 X.si] 24)
      have hB6 := hB5.alloc hB5.size (.cells #[.int .i64 X.li, .int .i64 X.re, .int .i64 X.st, .int .i64 X.fa, .int .i64 X.si] 24)
      clear pb5 po5 hB5
      obtain ⟨p0, p1, p2, p3, p4, pl⟩ := pb6.five
      obtain ⟨q0, q1, q2, q3, q4, ql⟩ := po6.five
      obtain ⟨r0, r1, r2, r3, r4, rl⟩ := pw6.five
      go_wp2
      go_ret
      exact ⟨by first | rfl | (simp; done) | (simp; omega), hB6⟩
    · skip
      have HV := hid hV
      cases g
      · skip
        obtain ⟨⟨a1, a2⟩, ⟨a3, a4⟩, ⟨a5, a6⟩, ⟨a7, a8⟩, a9, a10, a11⟩ := mom_of hV
        have hw1 : IntKind.i64.wrap (t + b.re) = t + b.re := by rw [IntKind.wrap_i64]; omega
        have hw2 : IntKind.i64.wrap (t + b.re - 1) = t + b.re - 1 := by rw [IntKind.wrap_i64]; omega
        by_cases h2 : b.st = 2
        · skip
          have e0 := bne_f h2
          by_cases h3 : t + b.re ≤ 1000
          · skip
            obtain ⟨x1, x2, x3⟩ := finR_try hV h2 h3
            clear hV h2
            obtain ⟨X, hX⟩ : ∃ X, X = finR b false t := ⟨_, rfl⟩
            have HX : Hid (finR b false t = X) := hid hX.symm
            rw [← hX] at x1 x2 x3
            have y1 := beq_t x1
            have H2 := hid x2
            have H3 := hid x3
            clear hX x1 x2 x3
            obtain ⟨p0, p1, p2, p3, p4, pl⟩ := pb2.five
            go_wp2_with fail
            with_reducible refine (iEndCall_any b false t _).mono ?_
            rintro e w3 ⟨he, hb3⟩
            rw [HX.out, HV.out] at he
            subst he
            have pb3 := pb2.below hb3 pb2.lt
            have hB3 := hB2.trans (hb3.mono hB2.size)
            clear pb2 hb3 hB2 p0 p1 p2 p3 p4 pl
            have po4 := At.new w3 24 #[.int .i64 X.li, .int .i64 X.re, .int .i64 X.st, .int .i64 X.fa, .int .i64 X.si]
            have pb4 := pb3.alloc (.cells #[.int .i64 X.li, .int .i64 X.re, .int .i64 X.st, .int .i64 X.fa, .int .i64 X.si] 24)
            have hB4 := hB3.alloc hB3.size (.cells #[.int .i64 X.li, .int .i64 X.re, .int .i64 X.st, .int .i64 X.fa, .int .i64 X.si] 24)
            clear pb3 hB3
            obtain ⟨p0, p1, p2, p3, p4, pl⟩ := pb4.five
            obtain ⟨q0, q1, q2, q3, q4, ql⟩ := po4.five
            go_wp2_with fail
            with_reducible refine (sEndCall_any b false t _).mono ?_
            rintro e w5 ⟨he, hb5⟩
            rw [HX.out, HV.out] at he
            subst he
            have pb5 := pb4.below hb5 pb4.lt
            have po5 := po4.below hb5 po4.lt
            have hB5 := hB4.trans (hb5.mono hB4.size)
            clear pb4 po4 hb5 hB4 p0 p1 p2 p3 p4 pl q0 q1 q2 q3 q4 ql
            have pw6 := At.new w5 24 #[.int .i64 X.li, .int .i64 X.re, .int .i64 X.st, .int .i64 X.fa, .int .i64 X.si]
            have pb6 := pb5.alloc (.cells #[.int .i64 X.li, .int .i64 X.re, .int .i64 X.st, .int .i64 X.fa, .int .i64 X.si] 24)
            have po6 := po5.alloc (.cells #[.int .i64 X.li, .int .i64 X.re, .int .i64 X.st, .int .i64 X.fa, .int .i64 X.si] 24)
            have hB6 := hB5.alloc hB5.size (.cells #[.int .i64 X.li, .int .i64 X.re, .int .i64 X.st, .int .i64 X.fa, .int .i64 X.si] 24)
            clear pb5 po5 hB5
            obtain ⟨p0, p1, p2, p3, p4, pl⟩ := pb6.five
            obtain ⟨q0, q1, q2, q3, q4, ql⟩ := po6.five
            obtain ⟨r0, r1, r2, r3, r4, rl⟩ := pw6.five
            go_wp2_with fail
            with_reducible refine (iLetsCall_any X (t + b.re - 1) _).mono ?_
            rintro e w7 ⟨he, hb7⟩
            rw [H2.out] at he
            subst he
            have pb7 := pb6.below hb7 pb6.lt
            have po7 := po6.below hb7 po6.lt
            have pw7 := pw6.below hb7 pw6.lt
            have hB7 := hB6.trans (hb7.mono hB6.size)
            clear pb6 po6 pw6 hb7 hB6 p0 p1 p2 p3 p4 pl q0 q1 q2 q3 q4 ql r0 r1 r2 r3 r4 rl
            obtain ⟨p0, p1, p2, p3, p4, pl⟩ := pb7.five
            obtain ⟨q0, q1, q2, q3, q4, ql⟩ := po7.five
            obtain ⟨r0, r1, r2, r3, r4, rl⟩ := pw7.five
            go_wp2_with fail
            with_reducible refine (iLetsCall_any X (t + b.re) _).mono ?_
            rintro e w8 ⟨he, hb8⟩
            rw [H3.out] at he
            subst he
            have pb8 := pb7.below hb8 pb7.lt
            have po8 := po7.below hb8 po7.lt
            have pw8 := pw7.below hb8 pw7.lt
            have hB8 := hB7.trans (hb8.mono hB7.size)
            clear pb7 po7 pw7 hb8 hB7 p0 p1 p2 p3 p4 pl q0 q1 q2 q3 q4 ql r0 r1 r2 r3 r4 rl
            obtain ⟨p0, p1, p2, p3, p4, pl⟩ := pb8.five
            obtain ⟨q0, q1, q2, q3, q4, ql⟩ := po8.five
            obtain ⟨r0, r1, r2, r3, r4, rl⟩ := pw8.five
            go_wp2
            go_ret
            exact ⟨by first | rfl | (simp; done) | (simp; omega), hB8⟩
          · skip
            clear hV h2
            obtain ⟨X, hX⟩ : ∃ X, X = finR b false t := ⟨_, rfl⟩
            have HX : Hid (finR b false t = X) := hid hX.symm
            clear hX
            obtain ⟨p0, p1, p2, p3, p4, pl⟩ := pb2.five
            go_wp2_with fail
            with_reducible refine (iEndCall_any b false t _).mono ?_
            rintro e w3 ⟨he, hb3⟩
            rw [HX.out, HV.out] at he
            subst he
            have pb3 := pb2.below hb3 pb2.lt
            have hB3 := hB2.trans (hb3.mono hB2.size)
            clear pb2 hb3 hB2 p0 p1 p2 p3 p4 pl
            have po4 := At.new w3 24 #[.int .i64 X.li, .int .i64 X.re, .int .i64 X.st, .int .i64 X.fa, .int .i64 X.si]
            have pb4 := pb3.alloc (.cells #[.int .i64 X.li, .int .i64 X.re, .int .i64 X.st, .int .i64 X.fa, .int .i64 X.si] 24)
            have hB4 := hB3.alloc hB3.size (.cells #[.int .i64 X.li, .int .i64 X.re, .int .i64 X.st, .int .i64 X.fa, .int .i64 X.si] 24)
            clear pb3 hB3
            obtain ⟨p0, p1, p2, p3, p4, pl⟩ := pb4.five
            obtain ⟨q0, q1, q2, q3, q4, ql⟩ := po4.five
            go_wp2_with fail
            with_reducible refine (sEndCall_any b false t _).mono ?_
            rintro e w5 ⟨he, hb5⟩
            rw [HX.out, HV.out] at he
            subst he
            have pb5 := pb4.below hb5 pb4.lt
            have po5 := po4.below hb5 po4.lt
            have hB5 := hB4.trans (hb5.mono hB4.size)
            clear pb4 po4 hb5 hB4 p0 p1 p2 p3 p4 pl q0 q1 q2 q3 q4 ql
            have pw6 := At.new w5 24 #[.int .i64 X.li, .int .i64 X.re, .int .i64 X.st, .int .i64 X.fa, .int .i64 X.si]
            have pb6 := pb5.alloc (.cells #[.int .i64 X.li, .int .i64 X.re, .int .i64 X.st, .int .i64 X.fa, .int .i64 X.si] 24)
            have po6 := po5.alloc (.cells #[.int .i64 X.li, .int .i64 X.re, .int .i64 X.st, .int .i64 X.fa, .int .i64 X.si] 24)
            have hB6 := hB5.alloc hB5.size (.cells #[.int .i64 X.li, .int .i64 X.re, .int .i64 X.st, .int .i64 X.fa, .int .i64 X.si] 24)
            clear pb5 po5 hB5
            obtain ⟨p0, p1, p2, p3, p4, pl⟩ := pb6.five
            obtain ⟨q0, q1, q2, q3, q4, ql⟩ := po6.five
            obtain ⟨r0, r1, r2, r3, r4, rl⟩ := pw6.five
            go_wp2
            go_ret
            exact ⟨by first | rfl | (simp; done) | (simp; omega), hB6⟩
        · skip
          have e0 := bne_t h2
          clear hV h2
          obtain ⟨X, hX⟩ : ∃ X, X = finR b false t := ⟨_, rfl⟩
          have HX : Hid (finR b false t = X) := hid hX.symm
          clear hX
          obtain ⟨p0, p1, p2, p3, p4, pl⟩ := pb2.five
          go_wp2_with fail
          with_reducible refine (iEndCall_any b false t _).mono ?_
          rintro e w3 ⟨he, hb3⟩
          rw [HX.out, HV.out] at he
          subst he
          have pb3 := pb2.below hb3 pb2.lt
          have hB3 := hB2.trans (hb3.mono hB2.size)
          clear pb2 hb3 hB2 p0 p1 p2 p3 p4 pl
          have po4 := At.new w3 24 #[.int .i64 X.li, .int .i64 X.re, .int .i64 X.st, .int .i64 X.fa, .int .i64 X.si]
          have pb4 := pb3.alloc (.cells #[.int .i64 X.li, .int .i64 X.re, .int .i64 X.st, .int .i64 X.fa, .int .i64 X.si] 24)
          have hB4 := hB3.alloc hB3.size (.cells #[.int .i64 X.li, .int .i64 X.re, .int .i64 X.st, .int .i64 X.fa, .int .i64 X.si] 24)
          clear pb3 hB3
          obtain ⟨p0, p1, p2, p3, p4, pl⟩ := pb4.five
          obtain ⟨q0, q1, q2, q3, q4, ql⟩ := po4.five
          go_wp2_with fail
          with_reducible refine (sEndCall_any b false t _).mono ?_
          rintro e w5 ⟨he, hb5⟩
          rw [HX.out, HV.out] at he
          subst he
          have pb5 := pb4.below hb5 pb4.lt
          have po5 := po4.below hb5 po4.lt
          have hB5 := hB4.trans (hb5.mono hB4.size)
          clear pb4 po4 hb5 hB4 p0 p1 p2 p3 p4 pl q0 q1 q2 q3 q4 ql
          have pw6 := At.new w5 24 #[.int .i64 X.li, .int .i64 X.re, .int .i64 X.st, .int .i64 X.fa, .int .i64 X.si]
          have pb6 := pb5.alloc (.cells #[.int .i64 X.li, .int .i64 X.re, .int .i64 X.st, .int .i64 X.fa, .int .i64 X.si] 24)
          have po6 := po5.alloc (.cells #[.int .i64 X.li, .int .i64 X.re, .int .i64 X.st, .int .i64 X.fa, .int .i64 X.si] 24)
          have hB6 := hB5.alloc hB5.size (.cells #[.int .i64 X.li, .int .i64 X.re, .int .i64 X.st, .int .i64 X.fa, .int .i64 X.si] 24)
          clear pb5 po5 hB5
          obtain ⟨p0, p1, p2, p3, p4, pl⟩ := pb6.five
          obtain ⟨q0, q1, q2, q3, q4, ql⟩ := po6.five
          obtain ⟨r0, r1, r2, r3, r4, rl⟩ := pw6.five
          go_wp2
          go_ret
          exact ⟨by first | rfl | (simp; done) | (simp; omega), hB6⟩
      · skip
        clear hV
        obtain ⟨X, hX⟩ : ∃ X, X = finR b true t := ⟨_, rfl⟩
        have HX : Hid (finR b true t = X) := hid hX.symm
        clear hX
        obtain ⟨p0, p1, p2, p3, p4, pl⟩ := pb2.five
        go_wp2_with fail
        with_reducible refine (iEndCall_any b true t _).mono ?_
        rintro e w3 ⟨he, hb3⟩
        rw [HX.out, HV.out] at he
        subst he
        have pb3 := pb2.below hb3 pb2.lt
        have hB3 := hB2.trans (hb3.mono hB2.size)
        clear pb2 hb3 hB2 p0 p1 p2 p3 p4 pl
        have po4 := At.new w3 24 #[.int .i64 X.li, .int .i64 X.re, .int .i64 X.st, .int .i64 X.fa, .int .i64 X.si]
        have pb4 := pb3.alloc (.cells #[.int .i64 X.li, .int .i64 X.re, .int .i64 X.st, .int .i64 X.fa, .int .i64 X.si] 24)
        have hB4 := hB3.alloc hB3.size (.cells #[.int .i64 X.li, .int .i64 X.re, .int .i64 X.st, .int .i64 X.fa, .int .i64 X.si] 24)
        clear pb3 hB3
        obtain ⟨p0, p1, p2, p3, p4, pl⟩ := pb4.five
        obtain ⟨q0, q1, q2, q3, q4, ql⟩ := po4.five
        go_wp2_with fail
        with_reducible refine (sEndCall_any b true t _).mono ?_
        rintro e w5 ⟨he, hb5⟩
        rw [HX.out, HV.out] at he
        subst he
        have pb5 := pb4.below hb5 pb4.lt
        have po5 := po4.below hb5 po4.lt
        have hB5 := hB4.trans (hb5.mono hB4.size)
        clear pb4 po4 hb5 hB4 p0 p1 p2 p3 p4 pl q0 q1 q2 q3 q4 ql
        have pw6 := At.new w5 24 #[.int .i64 X.li, .int .i64 X.re, .int .i64 X.st, .int .i64 X.fa, .int .i64 X.si]
        have pb6 := pb5.alloc (.cells #[.int .i64 X.li, .int .i64 X.re, .int .i64 X.st, .int .i64 X.fa, .int .i64 X.si] 24)
        have po6 := po5.alloc (.cells #[.int .i64 X.li, .int .i64 X.re, .int .i64 X.st, .int .i64 X.fa, .int .i64 X.si] 24)
        have hB6 := hB5.alloc hB5.size (.cells #[.int .i64 X.li, .int .i64 X.re, .int .i64 X.st, .int .i64 X.fa, .int .i64 X.si] 24)
        clear pb5 po5 hB5
        obtain ⟨p0, p1, p2, p3, p4, pl⟩ := pb6.five
        obtain ⟨q0, q1, q2, q3, q4, ql⟩ := po6.five
        obtain ⟨r0, r1, r2, r3, r4, rl⟩ := pw6.five
        go_wp2
        go_ret
        exact ⟨by first | rfl | (simp; done) | (simp; omega), hB6⟩
end Go.Proofs.Ytkailakeiepkgac

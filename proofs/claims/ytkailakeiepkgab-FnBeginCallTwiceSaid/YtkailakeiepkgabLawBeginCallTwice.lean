/-
  The walk of the law FnBeginCallTwice: at every code it returns true and changes nothing that was there. Conditions: none.
-/
import Derived.Test.YtkailakeiepkgabBrkDraw
import Derived.Test.YtkailakeiepkgabBrkD
import Derived.Test.YtkailakeiepkgabLawFrame
import Derived.Test.YtkailakeiepkgabBrkLawMath
namespace Go.Proofs.Ytkailakeiepkgab
open Go.RowKit Brk

set_option maxHeartbeats 4000000 in
theorem walkBeginCallTwice (a : Option Addr) (len cap : Nat) (zs : List Int) (w : World) (hn : zs.length = len) (hc : len ≤ cap) (hcc : cap ≤ maxLen) (h : Sees w w.heap.size a (byts zs)) (hz : ∀ y ∈ zs, 0 ≤ y ∧ y ≤ 255) :
    Calls Try.prog 6 #[.slice a len cap] w fun e w' => e = .returned (.bool true) ∧ Below w.heap.size w w' := by
  have HE := hid hn
  have HC := hid hcc
  have HZ := hid hz
  clear hn hcc hz
  by_cases hbig : 1048576 < len
  · go_enter Try.func6, Try.ntmps6
    go_wp2
    go_ret
    exact ⟨rfl, Below.refl _ _⟩
  · go_enter Try.func6, Try.ntmps6
    go_wp2_with fail
    refine (drawBeginCall_any _ _ _ _ _ h HZ.out HE.out hc (by omega) HC.out).mono ?_
    rintro e w1 ⟨b, t, rfl, hB1⟩
    clear h hbig
    have pb2 := At.new w1 24 #[.int .i64 b.li, .int .i64 b.re, .int .i64 b.st, .int .i64 b.fa, .int .i64 b.si]
    have hB2 := hB1.alloc hB1.size (.cells #[.int .i64 b.li, .int .i64 b.re, .int .i64 b.st, .int .i64 b.fa, .int .i64 b.si] 24)
    clear  hB1
    rcases hV : letsB b t with _ | _
    · skip
      have HV := hid hV
      clear hV
      obtain ⟨X, hX⟩ : ∃ X, X = begR b t := ⟨_, rfl⟩
      have HX : Hid (begR b t = X) := hid hX.symm
      clear hX
      obtain ⟨p0, p1, p2, p3, p4, pl⟩ := pb2.five
      go_wp2_with fail
      with_reducible refine (iBeginCall_any b t _).mono ?_
      rintro e w3 ⟨he, hb3⟩
      rw [HX.out, HV.out] at he
      subst he
      have pb3 := pb2.below hb3 pb2.lt
      have hB3 := hB2.trans (hb3.mono hB2.size)
      clear pb2 hb3 hB2 p0 p1 p2 p3 p4 pl
      have po4 := At.new w3 24 #[.int .i64 X.li, .int .i64 X.re, .int .i64 X.st, .int .i64 X.fa, .int .i64 X.si]
      have pb4 := pb3.alloc (.cells #[.int .i64 X.li, .int .i64 X.re, .int .i64 X.st, .int .i64 X.fa, .int .i64 X.si] 24)
      have hB4 := hB3.alloc hB3.size (.cells #[.int .i64 X.li, .int .i64 X.re, .int .i64 X.st, .int .i64 X.fa, .int .i64 X.si] 24)
      clear pb3 hB3
      obtain ⟨p0, p1, p2, p3, p4, pl⟩ := pb4.five
      obtain ⟨q0, q1, q2, q3, q4, ql⟩ := po4.five
      go_wp2_with fail
      with_reducible refine (sBeginCall_any b t _).mono ?_
      rintro e w5 ⟨he, hb5⟩
      rw [HX.out, HV.out] at he
      subst he
      have pb5 := pb4.below hb5 pb4.lt
      have po5 := po4.below hb5 po4.lt
      have hB5 := hB4.trans (hb5.mono hB4.size)
      clear pb4 po4 hb5 hB4 p0 p1 p2 p3 p4 pl q0 q1 q2 q3 q4 ql
      have pw6 := At.new w5 24 #[.int .i64 X.li, .int .i64 X.re, .int .i64 X.st, .int .i64 X.fa, .int .i64 X.si]
      have pb6 := pb5.alloc (.cells #[.int .i64 X.li, .int .i64 X.re, .int .i64 X.st, .int .i64 X.fa, .int .i64 X.si] 24)
      have po6 := po5.alloc (.cells #[.int .i64 X.li, .int .i64 X.re, .int .i64 X.st, .int .i64 X.fa, .int .i64 X.si] 24)
      have hB6 := hB5.alloc hB5.size (.cells #[.int .i64 X.li, .int .i64 X.re, .int .i64 X.st, .int .i64 X.fa, .int .i64 X.si] 24)
      clear pb5 po5 hB5
      obtain ⟨p0, p1, p2, p3, p4, pl⟩ := pb6.five
      obtain ⟨q0, q1, q2, q3, q4, ql⟩ := po6.five
      obtain ⟨r0, r1, r2, r3, r4, rl⟩ := pw6.five
      go_wp2
      go_ret
      exact ⟨by first | rfl | (simp; done) | (simp; omega), hB6⟩
    · skip
      have HV := hid hV
      by_cases h0 : b.st = 1
      · skip
        obtain ⟨x1, x2, x3, x4, x5⟩ := begR_try hV (by omega)
        have e0 := bne_f h0
        clear hV h0
        obtain ⟨X, hX⟩ : ∃ X, X = begR b t := ⟨_, rfl⟩
        have HX : Hid (begR b t = X) := hid hX.symm
        rw [← hX] at x1 x2 x3 x4 x5
        have H3 := hid x3
        have H5 := hid x5
        have H6 := hid (shut_lets x5 x1)
        obtain ⟨Y, hY⟩ : ∃ Y, Y = begR X t := ⟨_, rfl⟩
        have HY : Hid (begR X t = Y) := hid hY.symm
        obtain ⟨Z, hZ⟩ : ∃ Z, Z = finR X true t := ⟨_, rfl⟩
        have HZ : Hid (finR X true t = Z) := hid hZ.symm
        rw [HZ.out] at H6
        clear hX hY hZ x1 x2 x3 x4 x5
        obtain ⟨p0, p1, p2, p3, p4, pl⟩ := pb2.five
        go_wp2_with fail
        with_reducible refine (iBeginCall_any b t _).mono ?_
        rintro e w3 ⟨he, hb3⟩
        rw [HX.out, HV.out] at he
        subst he
        have pb3 := pb2.below hb3 pb2.lt
        have hB3 := hB2.trans (hb3.mono hB2.size)
        clear pb2 hb3 hB2 p0 p1 p2 p3 p4 pl
        have po4 := At.new w3 24 #[.int .i64 X.li, .int .i64 X.re, .int .i64 X.st, .int .i64 X.fa, .int .i64 X.si]
        have pb4 := pb3.alloc (.cells #[.int .i64 X.li, .int .i64 X.re, .int .i64 X.st, .int .i64 X.fa, .int .i64 X.si] 24)
        have hB4 := hB3.alloc hB3.size (.cells #[.int .i64 X.li, .int .i64 X.re, .int .i64 X.st, .int .i64 X.fa, .int .i64 X.si] 24)
        clear pb3 hB3
        obtain ⟨p0, p1, p2, p3, p4, pl⟩ := pb4.five
        obtain ⟨q0, q1, q2, q3, q4, ql⟩ := po4.five
        go_wp2_with fail
        with_reducible refine (sBeginCall_any b t _).mono ?_
        rintro e w5 ⟨he, hb5⟩
        rw [HX.out, HV.out] at he
        subst he
        have pb5 := pb4.below hb5 pb4.lt
        have po5 := po4.below hb5 po4.lt
        have hB5 := hB4.trans (hb5.mono hB4.size)
        clear pb4 po4 hb5 hB4 p0 p1 p2 p3 p4 pl q0 q1 q2 q3 q4 ql
        have pw6 := At.new w5 24 #[.int .i64 X.li, .int .i64 X.re, .int .i64 X.st, .int .i64 X.fa, .int .i64 X.si]
        have pb6 := pb5.alloc (.cells #[.int .i64 X.li, .int .i64 X.re, .int .i64 X.st, .int .i64 X.fa, .int .i64 X.si] 24)
        have po6 := po5.alloc (.cells #[.int .i64 X.li, .int .i64 X.re, .int .i64 X.st, .int .i64 X.fa, .int .i64 X.si] 24)
        have hB6 := hB5.alloc hB5.size (.cells #[.int .i64 X.li, .int .i64 X.re, .int .i64 X.st, .int .i64 X.fa, .int .i64 X.si] 24)
        clear pb5 po5 hB5
        obtain ⟨p0, p1, p2, p3, p4, pl⟩ := pb6.five
        obtain ⟨q0, q1, q2, q3, q4, ql⟩ := po6.five
        obtain ⟨r0, r1, r2, r3, r4, rl⟩ := pw6.five
        go_wp2_with fail
        with_reducible refine (iBeginCall_any X t _).mono ?_
        rintro e w7 ⟨he, hb7⟩
        rw [HY.out, H3.out] at he
        subst he
        have pb7 := pb6.below hb7 pb6.lt
        have po7 := po6.below hb7 po6.lt
        have pw7 := pw6.below hb7 pw6.lt
        have hB7 := hB6.trans (hb7.mono hB6.size)
        clear pb6 po6 pw6 hb7 hB6 p0 p1 p2 p3 p4 pl q0 q1 q2 q3 q4 ql r0 r1 r2 r3 r4 rl
        have pn8 := At.new w7 24 #[.int .i64 Y.li, .int .i64 Y.re, .int .i64 Y.st, .int .i64 Y.fa, .int .i64 Y.si]
        have pb8 := pb7.alloc (.cells #[.int .i64 Y.li, .int .i64 Y.re, .int .i64 Y.st, .int .i64 Y.fa, .int .i64 Y.si] 24)
        have po8 := po7.alloc (.cells #[.int .i64 Y.li, .int .i64 Y.re, .int .i64 Y.st, .int .i64 Y.fa, .int .i64 Y.si] 24)
        have pw8 := pw7.alloc (.cells #[.int .i64 Y.li, .int .i64 Y.re, .int .i64 Y.st, .int .i64 Y.fa, .int .i64 Y.si] 24)
        have hB8 := hB7.alloc hB7.size (.cells #[.int .i64 Y.li, .int .i64 Y.re, .int .i64 Y.st, .int .i64 Y.fa, .int .i64 Y.si] 24)
        clear pb7 po7 pw7 hB7
        obtain ⟨p0, p1, p2, p3, p4, pl⟩ := pb8.five
        obtain ⟨q0, q1, q2, q3, q4, ql⟩ := po8.five
        obtain ⟨r0, r1, r2, r3, r4, rl⟩ := pw8.five
        obtain ⟨n0, n1, n2, n3, n4, nl⟩ := pn8.five
        go_wp2_with fail
        with_reducible refine (iEndCall_any X true t _).mono ?_
        rintro e w9 ⟨he, hb9⟩
        rw [HZ.out, H5.out] at he
        subst he
        have pb9 := pb8.below hb9 pb8.lt
        have po9 := po8.below hb9 po8.lt
        have pw9 := pw8.below hb9 pw8.lt
        have pn9 := pn8.below hb9 pn8.lt
        have hB9 := hB8.trans (hb9.mono hB8.size)
        clear pb8 po8 pw8 pn8 hb9 hB8 p0 p1 p2 p3 p4 pl q0 q1 q2 q3 q4 ql r0 r1 r2 r3 r4 rl n0 n1 n2 n3 n4 nl
        have ps10 := At.new w9 24 #[.int .i64 Z.li, .int .i64 Z.re, .int .i64 Z.st, .int .i64 Z.fa, .int .i64 Z.si]
        have pb10 := pb9.alloc (.cells #[.int .i64 Z.li, .int .i64 Z.re, .int .i64 Z.st, .int .i64 Z.fa, .int .i64 Z.si] 24)
        have po10 := po9.alloc (.cells #[.int .i64 Z.li, .int .i64 Z.re, .int .i64 Z.st, .int .i64 Z.fa, .int .i64 Z.si] 24)
        have pw10 := pw9.alloc (.cells #[.int .i64 Z.li, .int .i64 Z.re, .int .i64 Z.st, .int .i64 Z.fa, .int .i64 Z.si] 24)
        have pn10 := pn9.alloc (.cells #[.int .i64 Z.li, .int .i64 Z.re, .int .i64 Z.st, .int .i64 Z.fa, .int .i64 Z.si] 24)
        have hB10 := hB9.alloc hB9.size (.cells #[.int .i64 Z.li, .int .i64 Z.re, .int .i64 Z.st, .int .i64 Z.fa, .int .i64 Z.si] 24)
        clear pb9 po9 pw9 pn9 hB9
        obtain ⟨p0, p1, p2, p3, p4, pl⟩ := pb10.five
        obtain ⟨q0, q1, q2, q3, q4, ql⟩ := po10.five
        obtain ⟨r0, r1, r2, r3, r4, rl⟩ := pw10.five
        obtain ⟨n0, n1, n2, n3, n4, nl⟩ := pn10.five
        obtain ⟨s0, s1, s2, s3, s4, sl⟩ := ps10.five
        go_wp2_with fail
        with_reducible refine (iLetsCall_any Z t _).mono ?_
        rintro e w11 ⟨he, hb11⟩
        rw [H6.out] at he
        subst he
        have pb11 := pb10.below hb11 pb10.lt
        have po11 := po10.below hb11 po10.lt
        have pw11 := pw10.below hb11 pw10.lt
        have pn11 := pn10.below hb11 pn10.lt
        have ps11 := ps10.below hb11 ps10.lt
        have hB11 := hB10.trans (hb11.mono hB10.size)
        clear pb10 po10 pw10 pn10 ps10 hb11 hB10 p0 p1 p2 p3 p4 pl q0 q1 q2 q3 q4 ql r0 r1 r2 r3 r4 rl n0 n1 n2 n3 n4 nl s0 s1 s2 s3 s4 sl
        obtain ⟨p0, p1, p2, p3, p4, pl⟩ := pb11.five
        obtain ⟨q0, q1, q2, q3, q4, ql⟩ := po11.five
        obtain ⟨r0, r1, r2, r3, r4, rl⟩ := pw11.five
        obtain ⟨n0, n1, n2, n3, n4, nl⟩ := pn11.five
        obtain ⟨s0, s1, s2, s3, s4, sl⟩ := ps11.five
        go_wp2
        go_ret
        exact ⟨by first | rfl | (simp; done) | (simp; omega), hB11⟩
      · skip
        have e0 := bne_t h0
        clear hV h0
        obtain ⟨X, hX⟩ : ∃ X, X = begR b t := ⟨_, rfl⟩
        have HX : Hid (begR b t = X) := hid hX.symm
        clear hX
        obtain ⟨p0, p1, p2, p3, p4, pl⟩ := pb2.five
        go_wp2_with fail
        with_reducible refine (iBeginCall_any b t _).mono ?_
        rintro e w3 ⟨he, hb3⟩
        rw [HX.out, HV.out] at he
        subst he
        have pb3 := pb2.below hb3 pb2.lt
        have hB3 := hB2.trans (hb3.mono hB2.size)
        clear pb2 hb3 hB2 p0 p1 p2 p3 p4 pl
        have po4 := At.new w3 24 #[.int .i64 X.li, .int .i64 X.re, .int .i64 X.st, .int .i64 X.fa, .int .i64 X.si]
        have pb4 := pb3.alloc (.cells #[.int .i64 X.li, .int .i64 X.re, .int .i64 X.st, .int .i64 X.fa, .int .i64 X.si] 24)
        have hB4 := hB3.alloc hB3.size (.cells #[.int .i64 X.li, .int .i64 X.re, .int .i64 X.st, .int .i64 X.fa, .int .i64 X.si] 24)
        clear pb3 hB3
        obtain ⟨p0, p1, p2, p3, p4, pl⟩ := pb4.five
        obtain ⟨q0, q1, q2, q3, q4, ql⟩ := po4.five
        go_wp2_with fail
        with_reducible refine (sBeginCall_any b t _).mono ?_
        rintro e w5 ⟨he, hb5⟩
        rw [HX.out, HV.out] at he
        subst he
        have pb5 := pb4.below hb5 pb4.lt
        have po5 := po4.below hb5 po4.lt
        have hB5 := hB4.trans (hb5.mono hB4.size)
        clear pb4 po4 hb5 hB4 p0 p1 p2 p3 p4 pl q0 q1 q2 q3 q4 ql
        have pw6 := At.new w5 24 #[.int .i64 X.li, .int .i64 X.re, .int .i64 X.st, .int .i64 X.fa, .int .i64 X.si]
        have pb6 := pb5.alloc (.cells #[.int .i64 X.li, .int .i64 X.re, .int .i64 X.st, .int .i64 X.fa, .int .i64 X.si] 24)
        have po6 := po5.alloc (.cells #[.int .i64 X.li, .int .i64 X.re, .int .i64 X.st, .int .i64 X.fa, .int .i64 X.si] 24)
        have hB6 := hB5.alloc hB5.size (.cells #[.int .i64 X.li, .int .i64 X.re, .int .i64 X.st, .int .i64 X.fa, .int .i64 X.si] 24)
        clear pb5 po5 hB5
        obtain ⟨p0, p1, p2, p3, p4, pl⟩ := pb6.five
        obtain ⟨q0, q1, q2, q3, q4, ql⟩ := po6.five
        obtain ⟨r0, r1, r2, r3, r4, rl⟩ := pw6.five
        go_wp2
        go_ret
        exact ⟨by first | rfl | (simp; done) | (simp; omega), hB6⟩
end Go.Proofs.Ytkailakeiepkgab

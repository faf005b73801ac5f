/-
  The walk of the exact law FnExactEndCall: at every argument it returns true and changes nothing that was there. Conditions: none.
-/
import Derived.Test.YtkailakeiepkgaaBrkD
import Derived.Test.YtkailakeiepkgaaSsBrk
namespace Go.Proofs.Ytkailakeiepkgaa
open Go.RowKit Brk

set_option maxHeartbeats 4000000 in
theorem walkExactEndCall (b : Br) (g : Bool) (t : Int) (w : World) :
    Calls Try.prog 6 #[.agg #[.int .i64 b.li, .int .i64 b.re, .int .i64 b.st, .int .i64 b.fa, .int .i64 b.si], .bool g, .int .i64 t] w fun e w' => e = .returned (.bool true) ∧ Below w.heap.size w w' := by
  obtain ⟨K, hK⟩ : ∃ K, K = momB b t := ⟨_, rfl⟩
  have HK : Hid (momB b t = K) := hid hK.symm
  clear hK
  obtain ⟨X, hX⟩ : ∃ X, X = finR b g t := ⟨_, rfl⟩
  have HX : Hid (finR b g t = X) := hid hX.symm
  clear hX
  have px0 := At.new w 23 #[.int .i64 b.li, .int .i64 b.re, .int .i64 b.st, .int .i64 b.fa, .int .i64 b.si]
  have hB0 := (Below.refl w.heap.size w).alloc (Nat.le_refl _) (.cells #[.int .i64 b.li, .int .i64 b.re, .int .i64 b.st, .int .i64 b.fa, .int .i64 b.si] 23)
  go_enter Try.func6, Try.ntmps6
  obtain ⟨p0, p1, p2, p3, p4, pl⟩ := px0.xbrk
  go_wp2_with fail
  with_reducible refine (toBreaker_any b _).mono ?_
  rintro e w1 ⟨rfl, hb1⟩
  have px1 := px0.below hb1 px0.lt
  have hB1 := hB0.trans (hb1.mono hB0.size)
  clear px0 hb1 hB0 p0 p1 p2 p3 p4 pl
  obtain ⟨p0, p1, p2, p3, p4, pl⟩ := px1.xbrk
  go_wp2_with fail
  with_reducible refine (sEndCall_any b g t _).mono ?_
  rintro e w2 ⟨he, hb2⟩
  rw [HX.out, HK.out] at he
  subst he
  have px2 := px1.below hb2 px1.lt
  have hB2 := hB1.trans (hb2.mono hB1.size)
  clear px1 hb2 hB1 p0 p1 p2 p3 p4 pl
  have pw3 := At.new w2 25 #[.int .i64 X.li, .int .i64 X.re, .int .i64 X.st, .int .i64 X.fa, .int .i64 X.si]
  have px3 := px2.alloc (.cells #[.int .i64 X.li, .int .i64 X.re, .int .i64 X.st, .int .i64 X.fa, .int .i64 X.si] 25)
  have hB3 := hB2.alloc hB2.size (.cells #[.int .i64 X.li, .int .i64 X.re, .int .i64 X.st, .int .i64 X.fa, .int .i64 X.si] 25)
  clear px2 hB2
  obtain ⟨p0, p1, p2, p3, p4, pl⟩ := px3.xbrk
  obtain ⟨q0, q1, q2, q3, q4, ql⟩ := pw3.brk
  go_wp2_with fail
  with_reducible refine (toBreaker_any b _).mono ?_
  rintro e w4 ⟨rfl, hb4⟩
  have px4 := px3.below hb4 px3.lt
  have pw4 := pw3.below hb4 pw3.lt
  have hB4 := hB3.trans (hb4.mono hB3.size)
  clear px3 pw3 hb4 hB3 p0 p1 p2 p3 p4 pl q0 q1 q2 q3 q4 ql
  obtain ⟨p0, p1, p2, p3, p4, pl⟩ := px4.xbrk
  obtain ⟨q0, q1, q2, q3, q4, ql⟩ := pw4.brk
  go_wp2_with fail
  with_reducible refine (iEndCall_any b g t _).mono ?_
  rintro e w5 ⟨he, hb5⟩
  rw [HX.out, HK.out] at he
  subst he
  have px5 := px4.below hb5 px4.lt
  have pw5 := pw4.below hb5 pw4.lt
  have hB5 := hB4.trans (hb5.mono hB4.size)
  clear px4 pw4 hb5 hB4 p0 p1 p2 p3 p4 pl q0 q1 q2 q3 q4 ql
  have pg6 := At.new w5 25 #[.int .i64 X.li, .int .i64 X.re, .int .i64 X.st, .int .i64 X.fa, .int .i64 X.si]
  have px6 := px5.alloc (.cells #[.int .i64 X.li, .int .i64 X.re, .int .i64 X.st, .int .i64 X.fa, .int .i64 X.si] 25)
  have pw6 := pw5.alloc (.cells #[.int .i64 X.li, .int .i64 X.re, .int .i64 X.st, .int .i64 X.fa, .int .i64 X.si] 25)
  have hB6 := hB5.alloc hB5.size (.cells #[.int .i64 X.li, .int .i64 X.re, .int .i64 X.st, .int .i64 X.fa, .int .i64 X.si] 25)
  clear px5 pw5 hB5
  obtain ⟨p0, p1, p2, p3, p4, pl⟩ := px6.xbrk
  obtain ⟨q0, q1, q2, q3, q4, ql⟩ := pw6.brk
  obtain ⟨r0, r1, r2, r3, r4, rl⟩ := pg6.brk
  go_wp2_with fail
  with_reducible refine (eqBreaker_same X _).mono ?_
  rintro e w7 ⟨rfl, hb7⟩
  have px7 := px6.below hb7 px6.lt
  have pw7 := pw6.below hb7 pw6.lt
  have pg7 := pg6.below hb7 pg6.lt
  have hB7 := hB6.trans (hb7.mono hB6.size)
  clear px6 pw6 pg6 hb7 hB6 p0 p1 p2 p3 p4 pl q0 q1 q2 q3 q4 ql r0 r1 r2 r3 r4 rl
  go_wp2
  go_ret
  exact ⟨rfl, hB7⟩
end Go.Proofs.Ytkailakeiepkgaa

/-
  The walk of the exact law FnExactLetsCall: at every argument it returns true and changes nothing that was there. Conditions: none.
-/
import Derived.Test.YtkailakeiepkgaaBrkB
import Derived.Test.YtkailakeiepkgaaSsBrk
namespace Go.Proofs.Ytkailakeiepkgaa
open Go.RowKit Brk

set_option maxHeartbeats 4000000 in
theorem walkExactLetsCall (b : Br) (t : Int) (w : World) :
    Calls Try.prog 4 #[.agg #[.int .i64 b.li, .int .i64 b.re, .int .i64 b.st, .int .i64 b.fa, .int .i64 b.si], .int .i64 t] w fun e w' => e = .returned (.bool true) ∧ Below w.heap.size w w' := by
  obtain ⟨K, hK⟩ : ∃ K, K = letsB b t := ⟨_, rfl⟩
  have HK : Hid (letsB b t = K) := hid hK.symm
  clear hK
  have px0 := At.new w 23 #[.int .i64 b.li, .int .i64 b.re, .int .i64 b.st, .int .i64 b.fa, .int .i64 b.si]
  have hB0 := (Below.refl w.heap.size w).alloc (Nat.le_refl _) (.cells #[.int .i64 b.li, .int .i64 b.re, .int .i64 b.st, .int .i64 b.fa, .int .i64 b.si] 23)
  go_enter Try.func4, Try.ntmps4
  obtain ⟨p0, p1, p2, p3, p4, pl⟩ := px0.xbrk
  go_wp2_with fail
  with_reducible refine (toBreaker_any b _).mono ?_
  rintro e w1 ⟨rfl, hb1⟩
  have px1 := px0.below hb1 px0.lt
  have hB1 := hB0.trans (hb1.mono hB0.size)
  clear px0 hb1 hB0 p0 p1 p2 p3 p4 pl
  obtain ⟨p0, p1, p2, p3, p4, pl⟩ := px1.xbrk
  go_wp2_with fail
  with_reducible refine (sLetsCall_any b t _).mono ?_
  rintro e w2 ⟨he, hb2⟩
  rw [HK.out] at he
  subst he
  have px2 := px1.below hb2 px1.lt
  have hB2 := hB1.trans (hb2.mono hB1.size)
  clear px1 hb2 hB1 p0 p1 p2 p3 p4 pl
  obtain ⟨p0, p1, p2, p3, p4, pl⟩ := px2.xbrk
  go_wp2_with fail
  with_reducible refine (toBreaker_any b _).mono ?_
  rintro e w3 ⟨rfl, hb3⟩
  have px3 := px2.below hb3 px2.lt
  have hB3 := hB2.trans (hb3.mono hB2.size)
  clear px2 hb3 hB2 p0 p1 p2 p3 p4 pl
  obtain ⟨p0, p1, p2, p3, p4, pl⟩ := px3.xbrk
  go_wp2_with fail
  with_reducible refine (iLetsCall_any b t _).mono ?_
  rintro e w4 ⟨he, hb4⟩
  rw [HK.out] at he
  subst he
  have px4 := px3.below hb4 px3.lt
  have hB4 := hB3.trans (hb4.mono hB3.size)
  clear px3 hb4 hB3 p0 p1 p2 p3 p4 pl
  go_wp2
  go_ret
  exact ⟨rfl, hB4⟩
end Go.Proofs.Ytkailakeiepkgaa

/-
  The walk of the law FnValidBreaker: at every code it returns true and changes nothing that was there. Conditions: none.
-/
import Derived.Test.YtkailakeiepkgaaBrkDraw
import Derived.Test.YtkailakeiepkgaaBrkD
import Derived.Test.YtkailakeiepkgaaLawFrame
import Derived.Test.YtkailakeiepkgaaBrkLawMath
namespace Go.Proofs.Ytkailakeiepkgaa
open Go.RowKit Brk

set_option maxHeartbeats 4000000 in
theorem walkValidBreaker (a : Option Addr) (len cap : Nat) (zs : List Int) (w : World) (hn : zs.length = len) (hc : len ≤ cap) (hcc : cap ≤ maxLen) (h : Sees w w.heap.size a (byts zs)) (hz : ∀ y ∈ zs, 0 ≤ y ∧ y ≤ 255) :
    Calls Try.prog 8 #[.slice a len cap] w fun e w' => e = .returned (.bool true) ∧ Below w.heap.size w w' := by
  have HE := hid hn
  have HC := hid hcc
  have HZ := hid hz
  clear hn hcc hz
  by_cases hbig : 1048576 < len
  · go_enter Try.func8, Try.ntmps8
    go_wp2
    go_ret
    exact ⟨rfl, Below.refl _ _⟩
  · go_enter Try.func8, Try.ntmps8
    go_wp2_with fail
    refine (drawValidBreaker_any _ _ _ _ _ h HZ.out HE.out hc (by omega) HC.out).mono ?_
    rintro e w1 ⟨b, rfl, hB1⟩
    clear h hbig
    have pb2 := At.new w1 25 #[.int .i64 b.li, .int .i64 b.re, .int .i64 b.st, .int .i64 b.fa, .int .i64 b.si]
    have hB2 := hB1.alloc hB1.size (.cells #[.int .i64 b.li, .int .i64 b.re, .int .i64 b.st, .int .i64 b.fa, .int .i64 b.si] 25)
    clear  hB1
    rcases hK : okB b with _ | _
    · skip
      have HK := hid hK
      clear hK
      obtain ⟨p0, p1, p2, p3, p4, pl⟩ := pb2.five
      go_wp2_with fail
      with_reducible refine (iValidBreaker_any b _).mono ?_
      rintro e w3 ⟨he, hb3⟩
      rw [HK.out] at he
      subst he
      have pb3 := pb2.below hb3 pb2.lt
      have hB3 := hB2.trans (hb3.mono hB2.size)
      clear pb2 hb3 hB2 p0 p1 p2 p3 p4 pl
      obtain ⟨p0, p1, p2, p3, p4, pl⟩ := pb3.five
      go_wp2_with fail
      with_reducible refine (sValidBreaker_any b _).mono ?_
      rintro e w4 ⟨he, hb4⟩
      rw [HK.out] at he
      subst he
      have pb4 := pb3.below hb4 pb3.lt
      have hB4 := hB3.trans (hb4.mono hB3.size)
      clear pb3 hb4 hB3 p0 p1 p2 p3 p4 pl
      obtain ⟨p0, p1, p2, p3, p4, pl⟩ := pb4.five
      go_wp2_with fail
      with_reducible refine (sValidBreaker_any b _).mono ?_
      rintro e w5 ⟨he, hb5⟩
      rw [HK.out] at he
      subst he
      have pb5 := pb4.below hb5 pb4.lt
      have hB5 := hB4.trans (hb5.mono hB4.size)
      clear pb4 hb5 hB4 p0 p1 p2 p3 p4 pl
      obtain ⟨p0, p1, p2, p3, p4, pl⟩ := pb5.five
      go_wp2
      go_ret
      exact ⟨by first | rfl | (simp; done) | (simp; omega), hB5⟩
    · skip
      have HK := hid hK
      obtain ⟨x1, x2⟩ := ok_fresh hK
      have H1 := hid x1
      clear hK x1
      obtain ⟨p0, p1, p2, p3, p4, pl⟩ := pb2.five
      go_wp2_with fail
      with_reducible refine (iValidBreaker_any b _).mono ?_
      rintro e w3 ⟨he, hb3⟩
      rw [HK.out] at he
      subst he
      have pb3 := pb2.below hb3 pb2.lt
      have hB3 := hB2.trans (hb3.mono hB2.size)
      clear pb2 hb3 hB2 p0 p1 p2 p3 p4 pl
      obtain ⟨p0, p1, p2, p3, p4, pl⟩ := pb3.five
      go_wp2_with fail
      with_reducible refine (sValidBreaker_any b _).mono ?_
      rintro e w4 ⟨he, hb4⟩
      rw [HK.out] at he
      subst he
      have pb4 := pb3.below hb4 pb3.lt
      have hB4 := hB3.trans (hb4.mono hB3.size)
      clear pb3 hb4 hB3 p0 p1 p2 p3 p4 pl
      obtain ⟨p0, p1, p2, p3, p4, pl⟩ := pb4.five
      go_wp2_with fail
      with_reducible refine (iValidBreaker_any ⟨b.li, b.re, 0, 0, b.si⟩ _).mono ?_
      rintro e w5 ⟨he, hb5⟩
      rw [H1.out] at he
      subst he
      have pb5 := pb4.below hb5 pb4.lt
      have hB5 := hB4.trans (hb5.mono hB4.size)
      clear pb4 hb5 hB4 p0 p1 p2 p3 p4 pl
      obtain ⟨p0, p1, p2, p3, p4, pl⟩ := pb5.five
      go_wp2
      go_ret
      exact ⟨by first | rfl | (simp; done) | (simp; omega), hB5⟩
end Go.Proofs.Ytkailakeiepkgaa

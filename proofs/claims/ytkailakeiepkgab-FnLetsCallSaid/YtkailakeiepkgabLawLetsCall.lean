/-
  The walk of the law FnLetsCall: at every code it returns true and changes nothing that was there. Conditions: none.
-/
import Derived.Test.YtkailakeiepkgabBrkDraw
import Derived.Test.YtkailakeiepkgabBrkD
import Derived.Test.YtkailakeiepkgabLawFrame
import Derived.Test.YtkailakeiepkgabBrkLawMath
namespace Go.Proofs.Ytkailakeiepkgab
open Go.RowKit Brk

set_option maxHeartbeats 4000000 in
theorem walkLetsCall (a : Option Addr) (len cap : Nat) (zs : List Int) (w : World) (hn : zs.length = len) (hc : len ≤ cap) (hcc : cap ≤ maxLen) (h : Sees w w.heap.size a (byts zs)) (hz : ∀ y ∈ zs, 0 ≤ y ∧ y ≤ 255) :
    Calls Try.prog 3 #[.slice a len cap] w fun e w' => e = .returned (.bool true) ∧ Below w.heap.size w w' := by
  have HE := hid hn
  have HC := hid hcc
  have HZ := hid hz
  clear hn hcc hz
  by_cases hbig : 1048576 < len
  · go_enter Try.func3, Try.ntmps3
    go_wp2
    go_ret
    exact ⟨rfl, Below.refl _ _⟩
  · go_enter Try.func3, Try.ntmps3
    go_wp2_with fail
    refine (drawLetsCall_any _ _ _ _ _ h HZ.out HE.out hc (by omega) HC.out).mono ?_
    rintro e w1 ⟨b, t, rfl, hB1⟩
    clear h hbig
    have pb2 := At.new w1 24 #[.int .i64 b.li, .int .i64 b.re, .int .i64 b.st, .int .i64 b.fa, .int .i64 b.si]
    have hB2 := hB1.alloc hB1.size (.cells #[.int .i64 b.li, .int .i64 b.re, .int .i64 b.st, .int .i64 b.fa, .int .i64 b.si] 24)
    clear  hB1
    rcases hV : letsB b t with _ | _
    · skip
      have HV := hid hV
      clear hV
      obtain ⟨p0, p1, p2, p3, p4, pl⟩ := pb2.five
      go_wp2_with fail
      with_reducible refine (iLetsCall_any b t _).mono ?_
      rintro e w3 ⟨he, hb3⟩
      rw [HV.out] at he
      subst he
      have pb3 := pb2.below hb3 pb2.lt
      have hB3 := hB2.trans (hb3.mono hB2.size)
      clear pb2 hb3 hB2 p0 p1 p2 p3 p4 pl
      obtain ⟨p0, p1, p2, p3, p4, pl⟩ := pb3.five
      go_wp2_with fail
      with_reducible refine (sLetsCall_any b t _).mono ?_
      rintro e w4 ⟨he, hb4⟩
      rw [HV.out] at he
      subst he
      have pb4 := pb3.below hb4 pb3.lt
      have hB4 := hB3.trans (hb4.mono hB3.size)
      clear pb3 hb4 hB3 p0 p1 p2 p3 p4 pl
      rcases hK : okB b with _ | _
      · skip
        have HK := hid hK
        clear hK
        obtain ⟨p0, p1, p2, p3, p4, pl⟩ := pb4.five
        go_wp2_with fail
        with_reducible refine (iValidBreaker_any b _).mono ?_
        rintro e w5 ⟨he, hb5⟩
        rw [HK.out] at he
        subst he
        have pb5 := pb4.below hb5 pb4.lt
        have hB5 := hB4.trans (hb5.mono hB4.size)
        clear pb4 hb5 hB4 p0 p1 p2 p3 p4 pl
        obtain ⟨p0, p1, p2, p3, p4, pl⟩ := pb5.five
        go_wp2_with fail
        with_reducible refine (sLetsCall_any b t _).mono ?_
        rintro e w6 ⟨he, hb6⟩
        rw [HV.out] at he
        subst he
        have pb6 := pb5.below hb6 pb5.lt
        have hB6 := hB5.trans (hb6.mono hB5.size)
        clear pb5 hb6 hB5 p0 p1 p2 p3 p4 pl
        obtain ⟨p0, p1, p2, p3, p4, pl⟩ := pb6.five
        go_wp2
        go_ret
        exact ⟨by simp, hB6⟩
      · skip
        have HK := hid hK
        have hO := okB_iff.1 hK
        clear hK
        obtain ⟨p0, p1, p2, p3, p4, pl⟩ := pb4.five
        go_wp2_with fail
        with_reducible refine (iValidBreaker_any b _).mono ?_
        rintro e w5 ⟨he, hb5⟩
        rw [HK.out] at he
        subst he
        have pb5 := pb4.below hb5 pb4.lt
        have hB5 := hB4.trans (hb5.mono hB4.size)
        clear pb4 hb5 hB4 p0 p1 p2 p3 p4 pl
        by_cases h1 : t < b.si
        · skip
          obtain ⟨p0, p1, p2, p3, p4, pl⟩ := pb5.five
          go_wp2_with fail
          with_reducible refine (sLetsCall_any b t _).mono ?_
          rintro e w6 ⟨he, hb6⟩
          rw [HV.out] at he
          subst he
          have pb6 := pb5.below hb6 pb5.lt
          have hB6 := hB5.trans (hb6.mono hB5.size)
          clear pb5 hb6 hB5 p0 p1 p2 p3 p4 pl
          obtain ⟨p0, p1, p2, p3, p4, pl⟩ := pb6.five
          go_wp2
          go_ret
          exact ⟨by simp, hB6⟩
        · skip
          by_cases h2 : t ≥ 1000
          · skip
            obtain ⟨p0, p1, p2, p3, p4, pl⟩ := pb5.five
            go_wp2_with fail
            with_reducible refine (sLetsCall_any b t _).mono ?_
            rintro e w6 ⟨he, hb6⟩
            rw [HV.out] at he
            subst he
            have pb6 := pb5.below hb6 pb5.lt
            have hB6 := hB5.trans (hb6.mono hB5.size)
            clear pb5 hb6 hB5 p0 p1 p2 p3 p4 pl
            obtain ⟨p0, p1, p2, p3, p4, pl⟩ := pb6.five
            go_wp2
            go_ret
            exact ⟨by simp, hB6⟩
          · skip
            have hl := lets_of hO (by omega) (by omega) HV.out
            obtain ⟨r1, r2, r3⟩ := ok_small hO
            clear hO
            have hw1 : IntKind.i64.wrap (t + 1) = t + 1 := by rw [IntKind.wrap_i64]; omega
            have hw2 : IntKind.i64.wrap (t - b.si) = t - b.si := by rw [IntKind.wrap_i64]; omega
            rcases hl with hl | ⟨hl, hl2⟩
            · skip
              have e0 : (b.st != 0) = true := bne_t (by omega)
              have e1 := bne_f hl
              have e2 : (b.st != 1) = true := bne_t (by omega)
              clear hl
              obtain ⟨p0, p1, p2, p3, p4, pl⟩ := pb5.five
              go_wp2
              go_ret
              exact ⟨by simp, hB5⟩
            · skip
              have e0 : (b.st != 0) = true := bne_t (by omega)
              have e1 : (b.st != 2) = true := bne_t (by omega)
              have e2 := bne_f hl
              clear hl
              obtain ⟨p0, p1, p2, p3, p4, pl⟩ := pb5.five
              go_wp2
              go_ret
              exact ⟨by first | rfl | (simp; done) | (simp; omega), hB5⟩
    · skip
      have HV := hid hV
      clear hV
      obtain ⟨p0, p1, p2, p3, p4, pl⟩ := pb2.five
      go_wp2_with fail
      with_reducible refine (iLetsCall_any b t _).mono ?_
      rintro e w3 ⟨he, hb3⟩
      rw [HV.out] at he
      subst he
      have pb3 := pb2.below hb3 pb2.lt
      have hB3 := hB2.trans (hb3.mono hB2.size)
      clear pb2 hb3 hB2 p0 p1 p2 p3 p4 pl
      obtain ⟨p0, p1, p2, p3, p4, pl⟩ := pb3.five
      go_wp2_with fail
      with_reducible refine (sLetsCall_any b t _).mono ?_
      rintro e w4 ⟨he, hb4⟩
      rw [HV.out] at he
      subst he
      have pb4 := pb3.below hb4 pb3.lt
      have hB4 := hB3.trans (hb4.mono hB3.size)
      clear pb3 hb4 hB3 p0 p1 p2 p3 p4 pl
      rcases hK : okB b with _ | _
      · skip
        have HK := hid hK
        clear hK
        obtain ⟨p0, p1, p2, p3, p4, pl⟩ := pb4.five
        go_wp2_with fail
        with_reducible refine (iValidBreaker_any b _).mono ?_
        rintro e w5 ⟨he, hb5⟩
        rw [HK.out] at he
        subst he
        have pb5 := pb4.below hb5 pb4.lt
        have hB5 := hB4.trans (hb5.mono hB4.size)
        clear pb4 hb5 hB4 p0 p1 p2 p3 p4 pl
        obtain ⟨p0, p1, p2, p3, p4, pl⟩ := pb5.five
        go_wp2_with fail
        with_reducible refine (sLetsCall_any b t _).mono ?_
        rintro e w6 ⟨he, hb6⟩
        rw [HV.out] at he
        subst he
        have pb6 := pb5.below hb6 pb5.lt
        have hB6 := hB5.trans (hb6.mono hB5.size)
        clear pb5 hb6 hB5 p0 p1 p2 p3 p4 pl
        obtain ⟨p0, p1, p2, p3, p4, pl⟩ := pb6.five
        go_wp2
        go_ret
        exact ⟨by simp, hB6⟩
      · skip
        have HK := hid hK
        have hO := okB_iff.1 hK
        clear hK
        obtain ⟨p0, p1, p2, p3, p4, pl⟩ := pb4.five
        go_wp2_with fail
        with_reducible refine (iValidBreaker_any b _).mono ?_
        rintro e w5 ⟨he, hb5⟩
        rw [HK.out] at he
        subst he
        have pb5 := pb4.below hb5 pb4.lt
        have hB5 := hB4.trans (hb5.mono hB4.size)
        clear pb4 hb5 hB4 p0 p1 p2 p3 p4 pl
        by_cases h1 : t < b.si
        · skip
          obtain ⟨p0, p1, p2, p3, p4, pl⟩ := pb5.five
          go_wp2_with fail
          with_reducible refine (sLetsCall_any b t _).mono ?_
          rintro e w6 ⟨he, hb6⟩
          rw [HV.out] at he
          subst he
          have pb6 := pb5.below hb6 pb5.lt
          have hB6 := hB5.trans (hb6.mono hB5.size)
          clear pb5 hb6 hB5 p0 p1 p2 p3 p4 pl
          obtain ⟨p0, p1, p2, p3, p4, pl⟩ := pb6.five
          go_wp2
          go_ret
          exact ⟨by simp, hB6⟩
        · skip
          by_cases h2 : t ≥ 1000
          · skip
            obtain ⟨p0, p1, p2, p3, p4, pl⟩ := pb5.five
            go_wp2_with fail
            with_reducible refine (sLetsCall_any b t _).mono ?_
            rintro e w6 ⟨he, hb6⟩
            rw [HV.out] at he
            subst he
            have pb6 := pb5.below hb6 pb5.lt
            have hB6 := hB5.trans (hb6.mono hB5.size)
            clear pb5 hb6 hB5 p0 p1 p2 p3 p4 pl
            obtain ⟨p0, p1, p2, p3, p4, pl⟩ := pb6.five
            go_wp2
            go_ret
            exact ⟨by simp, hB6⟩
          · skip
            have hl := lets_of hO (by omega) (by omega) HV.out
            obtain ⟨r1, r2, r3⟩ := ok_small hO
            clear hO
            have hw1 : IntKind.i64.wrap (t + 1) = t + 1 := by rw [IntKind.wrap_i64]; omega
            have hw2 : IntKind.i64.wrap (t - b.si) = t - b.si := by rw [IntKind.wrap_i64]; omega
            have HL := hid (letsB_later HV.out (by omega))
            rcases hl with hl | ⟨hl, hl2⟩
            · skip
              have e0 := bne_f hl
              have e1 : (b.st != 2) = true := bne_t (by omega)
              have e2 : (b.st != 1) = true := bne_t (by omega)
              clear hl
              obtain ⟨p0, p1, p2, p3, p4, pl⟩ := pb5.five
              go_wp2_with fail
              with_reducible refine (iLetsCall_any b (t + 1) _).mono ?_
              rintro e w6 ⟨he, hb6⟩
              rw [HL.out] at he
              subst he
              have pb6 := pb5.below hb6 pb5.lt
              have hB6 := hB5.trans (hb6.mono hB5.size)
              clear pb5 hb6 hB5 p0 p1 p2 p3 p4 pl
              obtain ⟨p0, p1, p2, p3, p4, pl⟩ := pb6.five
              go_wp2
              go_ret
              exact ⟨by simp, hB6⟩
            · skip
              have e0 : (b.st != 0) = true := bne_t (by omega)
              have e1 : (b.st != 2) = true := bne_t (by omega)
              have e2 := bne_f hl
              clear hl
              obtain ⟨p0, p1, p2, p3, p4, pl⟩ := pb5.five
              go_wp2_with fail
              with_reducible refine (iLetsCall_any b (t + 1) _).mono ?_
              rintro e w6 ⟨he, hb6⟩
              rw [HL.out] at he
              subst he
              have pb6 := pb5.below hb6 pb5.lt
              have hB6 := hB5.trans (hb6.mono hB5.size)
              clear pb5 hb6 hB5 p0 p1 p2 p3 p4 pl
              obtain ⟨p0, p1, p2, p3, p4, pl⟩ := pb6.five
              go_wp2
              go_ret
              exact ⟨by first | rfl | (simp; done) | (simp; omega), hB6⟩
end Go.Proofs.Ytkailakeiepkgab

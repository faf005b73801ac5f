/-
  The walk of the exact law FnExactBestCache: at every argument it returns true and changes nothing that was there. Conditions: none.
-/
import Derived.Test.YtfophplmdljhbaaXGen
import Derived.Test.YtfophplmdljhbaaExZ
import Derived.Test.YtfophplmdljhbaaCaJ
import Derived.Test.YtfophplmdljhbaaCaK
namespace Go.Proofs.Ytfophplmdljhbaa
open Go.RowKit Cac Lea

set_option maxHeartbeats 8000000 in
theorem walkExactBestCache (A_l : Option Addr) (c_l : Nat) (rs : List Rc) (A_m : Option Addr) (c_m : Nat) (m : List Int) (w : World) (hm_l : rs.length ≤ maxLen) (_hc_l : rs.length ≤ c_l) (h_l : SeesC w w.heap.size A_l rs) (hl_l : ∀ r ∈ rs, r.m.n.length ≤ maxLen) (hm_m : m.length ≤ maxLen) (_hc_m : m.length ≤ c_m) (h_m : Sees w w.heap.size A_m (ints m)) :
    Calls Try.prog 3 #[.slice A_l rs.length c_l, .slice A_m m.length c_m] w fun e w' => e = .returned (.bool true) ∧ Below w.heap.size w w' := by
  have hB0 := Below.refl w.heap.size w
  have hM_l := hid hm_l
  have hL_l := hid hl_l
  have hM_m := hid hm_m
  clear hm_l hl_l hm_m
  go_enter Try.func3, Try.ntmps3
  by_cases hbig : 1048576 < m.length
  · go_wp2
    go_ret
    exact ⟨rfl, hB0⟩
  go_wp2_with fail
  with_reducible refine (szCacheS_any A_l c_l rs _ h_l hM_l.out hL_l.out).mono ?_
  rintro e w0 ⟨r, rfl, hb0, hr⟩
  rcases hr with rfl | ⟨q, rfl, hq, hn_l, hx_l⟩
  · go_wp2
    go_ret
    exact ⟨rfl, hb0⟩
  have HN_l := hid hn_l
  have HX_l := hid hx_l
  have HF_l : Hid (rs.length ≤ 4194304) := hid (Nat.le_trans hn_l (by decide))
  have HG_l : Hid (∀ r ∈ rs, r.m.n.length ≤ 4194304) := hid (fun r hr => Nat.le_trans (hx_l r hr) (by decide))
  clear hn_l hx_l
  have hq0 : ¬ (q : Int) < 0 := by omega
  have HF_m : Hid (m.length ≤ 4194304) := hid (by omega)
  have L0 := (h_l.below hb0).more hb0.size
  clear hbig hB0
  obtain ⟨V, hV⟩ : ∃ y, y = besV rs m := ⟨_, rfl⟩
  have HV : Hid (besV rs m = V) := hid hV.symm
  clear hV
  go_wp2_with fail
  with_reducible refine (toCacheS_any A_l c_l rs _ L0 HN_l.out HX_l.out).mono ?_
  rintro e w1 ⟨A1, c1, R1, rfl, hl1, hr1, s1, hb1⟩
  have hB1 := hb0.trans (hb1.mono hb0.size)
  have L1 := (h_l.below hB1).more hB1.size
  have M1 := (h_m.below hB1).more hB1.size
  clear hb1
  go_wp2_with fail
  with_reducible refine (toIntS_any A_m c_m m _ M1 HF_m.out).mono ?_
  rintro e w2 ⟨v2, rfl, ho2, hb2⟩
  obtain ⟨A2, c2, rfl, k2, _⟩ := own_form ho2.out
  have s2 := Sees.of_own ho2.out
  have t1 := (s1.below hb2).more hb2.size
  have hB2 := hB1.trans (hb2.mono hB1.size)
  have hV1 : besV R1 m = V := (besV_congr hr1.out).trans HV.out
  have HV1 := hid hV1
  have HM1 : Hid (∀ r ∈ R1, r.m.n.length ≤ 4194304) := hid (cch_of_map hr1.out HG_l.out)
  have HK1 : Hid (R1.length ≤ 4194304) := hid (by rw [hl1.out]; exact HF_l.out)
  rw [show rs.length = R1.length from hl1.out.symm]
  clear hV1 hb2 ho2 hB1 L1 M1 s1
  go_wp2_with fail
  with_reducible refine (sBestCache_any A1 A2 c1 c2 R1 m _ t1 s2 k2 HK1.out HM1.out HF_m.out).mono ?_
  rintro e w3 ⟨he, hb3⟩
  rw [HV1.out] at he
  subst he
  rw [show R1.length = rs.length from hl1.out]
  have hB3 := hB2.trans (hb3.mono hB2.size)
  have L3 := (h_l.below hB3).more hB3.size
  clear hb3 t1 s2 hB2 hl1 hr1 HV1 HM1 HK1
  go_wp2_with fail
  with_reducible refine (toCacheS_any A_l c_l rs _ L3 HN_l.out HX_l.out).mono ?_
  rintro e w4 ⟨A4, c4, R4, rfl, hl4, hr4, s4, hb4⟩
  have hB4 := hB3.trans (hb4.mono hB3.size)
  have M4 := (h_m.below hB4).more hB4.size
  clear hb4 L3 hB3
  go_wp2_with fail
  with_reducible refine (toIntS_any A_m c_m m _ M4 HF_m.out).mono ?_
  rintro e w5 ⟨v5, rfl, ho5, hb5⟩
  obtain ⟨A5, c5, rfl, k5, _⟩ := own_form ho5.out
  have s5 := Sees.of_own ho5.out
  have t4 := (s4.below hb5).more hb5.size
  have hB5 := hB4.trans (hb5.mono hB4.size)
  have HV4 : Hid (besV R4 m = V) := hid ((besV_congr hr4.out).trans HV.out)
  have HM4 : Hid (∀ r ∈ R4, r.m.n.length ≤ 4194304) := hid (cch_of_map hr4.out HG_l.out)
  have HK4 : Hid (R4.length ≤ 4194304) := hid (by rw [hl4.out]; exact HF_l.out)
  rw [show rs.length = R4.length from hl4.out.symm]
  clear hb5 ho5 hB4 M4 s4
  go_wp2_with fail
  with_reducible refine (iBestCache_any A4 A5 c4 c5 R4 m _ t4 s5 k5 HK4.out HM4.out HF_m.out).mono ?_
  rintro e w6 ⟨he, hb6⟩
  rw [HV4.out] at he
  subst he
  rw [show R4.length = rs.length from hl4.out]
  have hB6 := hB5.trans (hb6.mono hB5.size)
  have L6 := (h_l.below hB6).more hB6.size
  have t6 := (t4.below hb6).more hb6.size
  have u6 := (s5.below hb6).more hb6.size
  clear hb6 t4 s5 hB5 HV4 HM4 HK4
  go_wp2_with fail
  with_reducible refine (toCacheS_any A_l c_l rs _ L6 HN_l.out HX_l.out).mono ?_
  rintro e w7 ⟨A7, c7, R7, rfl, hl7, hr7, s7, hb7⟩
  have hB7 := hB6.trans (hb7.mono hB6.size)
  have t7 := (t6.below hb7).more hb7.size
  have u7 := (u6.below hb7).more hb7.size
  have HE7 : Hid (R4.map Rc.m = R7.map Rc.m) := hid (hr4.out.trans hr7.out.symm)
  have HX7 : Hid (∀ r ∈ R7, r.m.n.length ≤ 1048576) := hid (cch_of_map hr7.out HX_l.out)
  clear hb7 t6 u6 L6 hB6
  go_wp2_with fail
  with_reducible refine (eqCacheS_same A4 A7 c4 c7 rs.length R4 R7 _ t7 s7 hl4.out hl7.out HE7 HN_l.out HX7.out).mono ?_
  rintro e w8 ⟨rfl, hb8⟩
  have hB8 := hB7.trans (hb8.mono hB7.size)
  have M8 := (h_m.below hB8).more hB8.size
  have u8 := (u7.below hb8).more hb8.size
  clear hb8 t7 u7 s7 hB7 hl7 hr7 HE7 HX7
  go_wp2_with fail
  with_reducible refine (toIntS_any A_m c_m m _ M8 HF_m.out).mono ?_
  rintro e w9 ⟨v9, rfl, ho9, hb9⟩
  obtain ⟨A9, c9, rfl, k9, _⟩ := own_form ho9.out
  have s9 := Sees.of_own ho9.out
  have hB9 := hB8.trans (hb9.mono hB8.size)
  have u9 := (u8.below hb9).more hb9.size
  clear hb9 ho9 M8 u8 hB8
  go_wp2_with fail
  with_reducible refine (eqIntS_same A5 A9 c5 c9 m _ u9 s9 HF_m.out).mono ?_
  rintro e w10 ⟨rfl, hb10⟩
  have hB10 := hB9.trans (hb10.mono hB9.size)
  go_wp2
  go_ret
  exact ⟨rfl, hB10⟩
end Go.Proofs.Ytfophplmdljhbaa

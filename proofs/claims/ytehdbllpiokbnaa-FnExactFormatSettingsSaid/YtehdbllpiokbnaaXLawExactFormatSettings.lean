/-
  The walk of the exact law FnExactFormatSettings: at every argument it returns true and changes nothing that was there. Conditions: none.
-/
import Derived.Test.YtehdbllpiokbnaaXGen
import Derived.Test.YtehdbllpiokbnaaExZ
import Derived.Test.YtehdbllpiokbnaaTxtE
import Derived.Test.YtehdbllpiokbnaaSsSetting
namespace Go.Proofs.Ytehdbllpiokbnaa
open Go.RowKit Stt Txt

set_option maxHeartbeats 4000000 in
theorem walkExactFormatSettings (A_l : Option Addr) (c_l : Nat) (l : List Stg) (w : World) (hm_l : l.length ≤ maxLen) (_hc_l : l.length ≤ c_l) (h_l : Sees w w.heap.size A_l (strip stcl l)) :
    Calls Try.prog 5 #[.slice A_l l.length c_l] w fun e w' => e = .returned (.bool true) ∧ Below w.heap.size w w' := by
  have hM := hid hm_l
  clear hm_l
  go_enter Try.func5, Try.ntmps5
  by_cases hbig : 1048576 < l.length
  · have E : Hid ((if 1048576 < l.length then (-1 : Int) else 1048576 - l.length) = -1) := hid (if_pos hbig)
    go_wp2_with fail
    with_reducible refine (szSettingS_any A_l l.length c_l _ hM.out).mono ?_
    rintro e w' ⟨he, rfl⟩
    rw [E.out] at he
    subst he
    go_wp2
    go_ret
    exact ⟨rfl, Below.refl _ _⟩
  obtain ⟨q, hq⟩ : ∃ q : Nat, q = 1048576 - l.length := ⟨_, rfl⟩
  have E : Hid ((if 1048576 < l.length then (-1 : Int) else 1048576 - l.length) = (q : Int)) := hid ((if_neg hbig).trans (by omega))
  have hq0 : ¬ (q : Int) < 0 := by omega
  have HF : Hid (l.length ≤ 4194304) := hid (by omega)
  clear hq hbig
  obtain ⟨T, hT⟩ : ∃ T, T = fmtS l := ⟨_, rfl⟩
  have HT : Hid (fmtS l = T) := hid hT.symm
  clear hT
  go_wp2_with fail
  with_reducible refine (szSettingS_any A_l l.length c_l _ hM.out).mono ?_
  rintro e w' ⟨he, rfl⟩
  rw [E.out] at he
  subst he
  go_wp2_with fail
  with_reducible refine (toSettingS_any A_l c_l l _ h_l HF.out).mono ?_
  rintro e w1 ⟨v1, rfl, ho1, hb1⟩
  obtain ⟨A1, c1, rfl, _, _, s1⟩ := OwnS.form ho1
  have L1 := (h_l.below hb1).more hb1.size
  clear ho1
  go_wp2_with fail
  with_reducible refine (sFormatSettings_any A1 c1 l _ s1 HF.out).mono ?_
  rintro e w2 ⟨he, hb2⟩
  rw [HT.out] at he
  subst he
  have hB2 := hb1.trans (hb2.mono hb1.size)
  have L2 := (h_l.below hB2).more hB2.size
  clear hb1 hb2 s1 L1
  go_wp2_with fail
  with_reducible refine (toSettingS_any A_l c_l l _ L2 HF.out).mono ?_
  rintro e w3 ⟨v3, rfl, ho3, hb3⟩
  obtain ⟨A3, c3, rfl, _, _, s3⟩ := OwnS.form ho3
  have hB3 := hB2.trans (hb3.mono hB2.size)
  clear ho3 hb3 L2 hB2
  go_wp2_with fail
  with_reducible refine (iFormatSettings_any A3 c3 l _ s3 HF.out).mono ?_
  rintro e w4 ⟨he, hb4⟩
  rw [HT.out] at he
  subst he
  have hB4 := hB3.trans (hb4.mono hB3.size)
  have L4 := (h_l.below hB4).more hB4.size
  have s4 := (s3.below hb4).more hb4.size
  clear hb4 s3 hB3
  unfold tx
  go_wp2_with fail
  with_reducible refine (toSettingS_any A_l c_l l _ L4 HF.out).mono ?_
  rintro e w5 ⟨v5, rfl, ho5, hb5⟩
  obtain ⟨A5, c5, rfl, _, _, s5⟩ := OwnS.form ho5
  have hB5 := hB4.trans (hb5.mono hB4.size)
  have s6 := (s4.below hb5).more hb5.size
  clear ho5 hb5 s4 L4 hB4
  go_wp2_with fail
  with_reducible refine (eqSettingS_same A3 A5 c3 c5 l _ s6 s5 HF.out).mono ?_
  rintro e w6 ⟨rfl, hb6⟩
  have hB6 := hB5.trans (hb6.mono hB5.size)
  go_wp2
  go_ret
  exact ⟨rfl, hB6⟩
end Go.Proofs.Ytehdbllpiokbnaa

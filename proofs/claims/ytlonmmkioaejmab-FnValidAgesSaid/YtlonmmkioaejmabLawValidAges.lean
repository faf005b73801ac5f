/-
  The walk of the law FnValidAges: at every code it returns true and changes nothing that was there. Conditions: none.
-/
import Derived.Test.YtlonmmkioaejmabAgGen
import Derived.Test.YtlonmmkioaejmabAgC
import Derived.Test.YtlonmmkioaejmabAgeMathB
import Derived.Test.YtlonmmkioaejmabLawAg
import Derived.Test.YtlonmmkioaejmabLawFrame
import Derived.BigQuiet
import Derived.Deep.RegionHeldLaw
namespace Go.Proofs.Ytlonmmkioaejmab
open Go.RowKit Age

set_option maxHeartbeats 4000000 in
theorem walkValidAges (a : Option Addr) (len cap : Nat) (zs : List Int) (w : World) (hn : zs.length = len) (hc : len ≤ cap) (hcc : cap ≤ maxLen) (h : Sees w w.heap.size a (byts zs)) (hz : ∀ y ∈ zs, 0 ≤ y ∧ y ≤ 255) :
    Calls Try.prog 4 #[.slice a len cap] w fun e w' => e = .returned (.bool true) ∧ Below w.heap.size w w' := by
  have HE := hid hn
  have HC := hid hcc
  have HZ := hid hz
  clear hn hcc hz
  by_cases hbig : 1048576 < len
  · go_enter Try.func4, Try.ntmps4
    go_wp2
    go_ret
    exact ⟨rfl, Below.refl _ _⟩
  · go_enter Try.func4, Try.ntmps4
    go_wp2_with fail
    refine (drawValidAges_any _ _ _ _ _ h HZ.out HE.out hc (by omega) HC.out).mono ?_
    rintro e w1 ⟨A, c, l, rfl, dl⟩
    rcases hv : agesB l with _ | _
    · have HV := hid hv
      clear hv
      go_wp2_with fail
      refine (iValidAges_any A c l _ dl.sees (dl.n4 (by decide))).mono ?_
      rintro e w2 ⟨he, hb⟩
      rw [HV.out] at he
      subst he
      replace dl := dl.below hb
      clear hb
      go_wp2_with fail
      refine (sValidAges_any A c l _ dl.sees (dl.n4 (by decide))).mono ?_
      rintro e w2 ⟨he, hb⟩
      rw [HV.out] at he
      subst he
      replace dl := dl.below hb
      clear hb
      go_wp2_with fail
      refine (sValidAges_any A c l _ dl.sees (dl.n4 (by decide))).mono ?_
      rintro e w2 ⟨he, hb⟩
      rw [HV.out] at he
      subst he
      replace dl := dl.below hb
      clear hb
      go_wp2
      go_ret
      exact ⟨rfl, dl.bel⟩
    · have HV := hid hv
      have hl6 := (agesB_iff.1 hv).1
      clear hv
      go_wp2_with fail
      refine (iValidAges_any A c l _ dl.sees (dl.n4 (by decide))).mono ?_
      rintro e w2 ⟨he, hb⟩
      rw [HV.out] at he
      subst he
      replace dl := dl.below hb
      clear hb
      by_cases hl0 : l.length = 0
      · have hlb : ((l.length : Int) == 0) = true := by simpa using hl0
        clear hl0
        go_wp2_with fail
        refine (sValidAges_any A c l _ dl.sees (dl.n4 (by decide))).mono ?_
        rintro e w2 ⟨he, hb⟩
        rw [HV.out] at he
        subst he
        replace dl := dl.below hb
        clear hb
        go_wp2_with fail
        refine (sValidAges_any A c l _ dl.sees (dl.n4 (by decide))).mono ?_
        rintro e w2 ⟨he, hb⟩
        rw [HV.out] at he
        subst he
        replace dl := dl.below hb
        clear hb
        go_wp2
        go_ret
        exact ⟨by simp, dl.bel⟩
      · have hlb : ((l.length : Int) == 0) = false := beq_eq_false_iff_ne.2 (by omega)
        go_wp2_with fail
        refine (sValidAges_any A c l _ dl.sees (dl.n4 (by decide))).mono ?_
        rintro e w2 ⟨he, hb⟩
        rw [HV.out] at he
        subst he
        replace dl := dl.below hb
        clear hb
        obtain ⟨m, hm⟩ : ∃ m, l.length = m + 1 := ⟨l.length - 1, by omega⟩
        have hcap := dl.cap
        have hmc : (m : Int) ≤ (c : Int) := by omega
        have hm0 : (0 : Int) ≤ (m : Int) := by omega
        have hm13 : m ≤ 6 := by omega
        have hsub : IntKind.i64.wrap ((l.length : Int) - 1) = (m : Int) := by rw [IntKind.wrap_i64]; omega
        have hsub2 : (l.length : Int) - 1 = (m : Int) := by omega
        have HML := hid (show (l.take m).length = m by rw [List.length_take]; omega)
        have HDL := hid (show (l.drop 1).length = l.length - 1 by simp)
        have HVT := hid (ages_sub HV.out (List.take_sublist m l))
        have HVD := hid (ages_sub HV.out (List.drop_sublist 1 l))
        have HVN := hid ages_nil
        have HM := hid hm
        clear hm hl0
        go_wp2_with fail
        refine (iValidAges_len HML.out (dl.sees.stake acells_len m) (by rw [HML.out]; omega)).mono ?_
        rintro e w4 ⟨he, hb⟩
        rw [HVT.out] at he
        subst he
        replace dl := dl.below hb
        clear hb hsub hsub2 hmc hm0
        have h1l : (1 : Int) ≤ (l.length : Int) := by have := HM.out; omega
        have h1c : (1 : Int) ≤ (c : Int) := by omega
        have hlc : (l.length : Int) ≤ (c : Int) := by omega
        obtain ⟨b, o, rfl, _⟩ := dl.sees.age (k := 0) (by have := HM.out; omega)
        by_cases hc1 : c = 1
        · have hd0 : l.drop 1 = [] := List.drop_eq_nil_of_le (by omega)
          have HD0 := hid hd0
          subst hc1
          clear hd0
          go_wp2_with fail
          refine (iValidAges_len (l := l.drop 1) (by rw [HD0.out]; rfl) (by rw [HD0.out]; exact Sees.nil) (by rw [HDL.out]; omega)).mono ?_
          rintro e w5 ⟨he, hb⟩
          rw [HVD.out] at he
          subst he
          replace dl := dl.below hb
          clear hb
          go_wp2_with fail
          refine (iValidAges_len (l := []) rfl Sees.nil (by simp)).mono ?_
          rintro e w6 ⟨he, hb⟩
          rw [HVN.out] at he
          subst he
          replace dl := dl.below hb
          go_wp2
          go_ret
          exact ⟨by simp, dl.bel⟩
        · have hsD : Sees w4 w4.heap.size (some ⟨b, o + 1 * 2, none⟩) (strip acells (l.drop 1)) := by
            have := dl.sees.drop (k := 1 * 2) rfl
            rwa [← strip_drop acells_len] at this
          go_wp2_with fail
          refine (iValidAges_len (l := l.drop 1) HDL.out hsD (by rw [HDL.out]; omega)).mono ?_
          rintro e w5 ⟨he, hb⟩
          rw [HVD.out] at he
          subst he
          replace dl := dl.below hb
          clear hb hsD
          go_wp2_with fail
          refine (iValidAges_len (l := []) rfl Sees.nil (by simp)).mono ?_
          rintro e w6 ⟨he, hb⟩
          rw [HVN.out] at he
          subst he
          replace dl := dl.below hb
          go_wp2
          go_ret
          exact ⟨by simp, dl.bel⟩
end Go.Proofs.Ytlonmmkioaejmab

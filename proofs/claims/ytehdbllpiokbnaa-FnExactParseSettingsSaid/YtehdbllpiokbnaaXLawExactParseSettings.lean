/-
  The walk of the exact law FnExactParseSettings: at every argument it returns true and changes nothing that was there. Conditions: none.
-/
import Derived.Test.YtehdbllpiokbnaaTxtN
import Derived.Test.YtehdbllpiokbnaaTxtS
import Derived.Test.YtehdbllpiokbnaaStE
import Derived.Test.YtehdbllpiokbnaaXGen
import Derived.Test.YtehdbllpiokbnaaExZ
namespace Go.Proofs.Ytehdbllpiokbnaa
open Go.RowKit Txt Stt

set_option maxHeartbeats 8000000 in
theorem walkExactParseSettings (S : List UInt8) (w : World) :
    Calls Try.prog 6 #[.string (ByteArray.mk S.toArray)] w fun e w' => e = .returned (.bool true) ∧ Below w.heap.size w w' := by
  have hB0 := Below.refl w.heap.size w
  by_cases hbig : 1048576 < S.length
  · have h1 : (S.length : Int) > 1048576 := by omega
    clear hbig
    go_enter Try.func6, Try.ntmps6
    go_wp2
    go_ret
    exact ⟨rfl, hB0⟩
  · have h1 : ¬ (S.length : Int) > 1048576 := by omega
    have c1 := fun w => sParseSettings_any S w (by omega)
    have c2 := fun w => iParseSettings_any S w (by omega)
    unfold tx at c1 c2
    obtain ⟨V, hV⟩ : ∃ V, V = prsS S := ⟨_, rfl⟩
    obtain ⟨K, hK⟩ : ∃ K, K = prsSB S := ⟨_, rfl⟩
    have HVn : Hid (V.length ≤ 4194304) := hid (by
      rw [hV]
      rcases h : setsB (setL S) with _ | _
      · rw [prsS_no h]; simp
      · rw [prsS_yes h]; have := sets_small h; omega)
    rw [← hV, ← hK] at c1 c2
    have C1 := hid c1
    have C2 := hid c2
    clear c1 c2 hV hK hbig
    go_enter Try.func6, Try.ntmps6
    go_wp2_with fail
    with_reducible refine (C1.out _).mono ?_
    rintro e w3 ⟨v3, rfl, ho3, hb3⟩
    have hB3 := hB0.trans (hb3.mono hB0.size)
    have Z3 := hid hb3.size
    clear hb3 hB0
    obtain ⟨A3, c3, rfl, _, _, _⟩ := ho3.form
    have RW : Hid (∀ k, (Value.slice A3 V.length c3).ownBlock = some k → w.heap.size ≤ k ∧ k < w3.heap.size) := hid ho3.lt
    have W3 := ho3
    clear ho3
    go_wp2_with fail
    with_reducible refine (C2.out _).mono ?_
    rintro e w6 ⟨v6, rfl, ho6, hb6⟩
    have hB6 := hB3.trans (hb6.mono hB3.size)
    have Z6 := hid hb6.size
    have W6 := W3.below hb6
    clear hb6 W3 hB3
    obtain ⟨A6, c6, rfl, _, _, _⟩ := ho6.form
    have RG : Hid (∀ k, (Value.slice A6 V.length c6).ownBlock = some k → w3.heap.size ≤ k ∧ k < w6.heap.size) := hid ho6.lt
    have G6 := ho6
    clear ho6
    go_wp2_with fail
    with_reducible refine (eqSettingS_same A6 A3 c6 c3 V _ G6.sees W6.sees HVn.out).mono ?_
    rintro e w7 ⟨rfl, hb7⟩
    have hB7 := hB6.trans (hb7.mono hB6.size)
    have Z7 := hid hb7.size
    have W7 := W6.below hb7
    have G7 := G6.below hb7
    clear hb7 W6 G6 hB6
    have hk2 : ¬ (1 : Int) + 2 * (V.length : Int) < 0 := by omega
    go_wp2_with fail
    refine (markSettingS_any _ A6 c6 V _ G7 HVn.out).mono ?_
    rintro e w8 ⟨rfl, ho8, hg8⟩
    have hB8 := hB7.grown hg8 hB7.size (fun k hk => Nat.le_trans (by have := Z3.out; omega) (RG.out k hk).1)
    have Z8 := hid hg8.size
    have W8 := W7.kept hg8 (apart2 RW.out RG.out (Or.inl (by omega)))
    have G8 := ho8
    clear hg8 ho8 W7 G7 hB7
    go_wp2_with fail
    refine (heldSettingS_any A6 V.length c6 _ (sees_marksT G8) HVn.out).mono ?_
    rintro e w9 ⟨rfl, rfl⟩
    go_wp2_with fail
    with_reducible refine (C2.out _).mono ?_
    rintro e w10 ⟨v10, rfl, ho10, hb10⟩
    have hB10 := hB8.trans (hb10.mono hB8.size)
    have W10 := W8.below hb10
    have G10 := G8.below hb10
    clear hb10 W8 G8 hB8
    obtain ⟨A10, c10, rfl, _, _, _⟩ := ho10.form
    go_wp2_with fail
    with_reducible refine (eqSettingS_same A10 A3 c10 c3 V _ ho10.sees W10.sees HVn.out).mono ?_
    rintro e w11 ⟨rfl, hb11⟩
    have hB11 := hB10.trans (hb11.mono hB10.size)
    have G11 := G10.below hb11
    clear hb11 W10 G10 hB10 ho10
    go_wp2_with fail
    refine (heldSettingS_any A6 V.length c6 _ (sees_marksT G11) HVn.out).mono ?_
    rintro e w12 ⟨rfl, rfl⟩
    go_wp2
    go_ret
    exact ⟨rfl, hB11⟩
end Go.Proofs.Ytehdbllpiokbnaa

/-
  The walk of the law FnLifeOf: at every code it returns true and changes nothing that was there. Conditions: none.
-/
import Derived.Test.YtlonmmkioaejmaaAgGen
import Derived.Test.YtlonmmkioaejmaaAgC
import Derived.Test.YtlonmmkioaejmaaAgeMathB
import Derived.Test.YtlonmmkioaejmaaLawAg
import Derived.Test.YtlonmmkioaejmaaLawFrame
import Derived.BigQuiet
import Derived.Deep.RegionHeldLaw
namespace Go.Proofs.Ytlonmmkioaejmaa
open Go.RowKit Age

set_option maxHeartbeats 4000000 in
theorem walkLifeOf (a : Option Addr) (len cap : Nat) (zs : List Int) (w : World) (hn : zs.length = len) (hc : len ≤ cap) (hcc : cap ≤ maxLen) (h : Sees w w.heap.size a (byts zs)) (hz : ∀ y ∈ zs, 0 ≤ y ∧ y ≤ 255) :
    Calls Try.prog 8 #[.slice a len cap] w fun e w' => e = .returned (.bool true) ∧ Below w.heap.size w w' := by
  have HE := hid hn
  have HC := hid hcc
  have HZ := hid hz
  clear hn hcc hz
  by_cases hbig : 1048576 < len
  · go_enter Try.func8, Try.ntmps8
    go_wp2
    go_ret
    exact ⟨rfl, Below.refl _ _⟩
  · go_enter Try.func8, Try.ntmps8
    go_wp2_with fail
    refine (drawLifeOf_any _ _ _ _ _ h HZ.out HE.out hc (by omega) HC.out).mono ?_
    rintro e w1 ⟨c, life, rfl, hb1⟩
    obtain ⟨V, hV⟩ : ∃ V, V = Age.lifeOf c life := ⟨_, rfl⟩
    have E : Hid (Age.lifeOf c life = V) := hid hV.symm
    have HB := hid (fun (hh : 0 ≤ Age.lifeOf c life) => life_nn hh)
    rw [← hV] at HB
    clear hV
    go_wp2_with fail
    refine (iLifeOf_any c life _).mono ?_
    rintro e w9 ⟨he, rfl⟩
    rw [E.out] at he
    subst he
    go_wp2_with fail
    refine (sLifeOf_any c life _).mono ?_
    rintro e w9 ⟨he, rfl⟩
    rw [E.out] at he
    subst he
    by_cases hV0 : V < 0
    · go_wp2_with fail
      refine (sLifeOf_any c life _).mono ?_
      rintro e w9 ⟨he, rfl⟩
      rw [E.out] at he
      subst he
      go_wp2
      go_ret
      exact ⟨by simp, hb1⟩
    · obtain ⟨b1, b2, b3, b4, b5, b6, b7⟩ := HB.out (by omega)
      have E0 := hid b6
      have hw1 : IntKind.i64.wrap (5 * V) = 5 * V := by rw [IntKind.wrap_i64]; omega
      have hw2 : IntKind.i64.wrap (4 * life) = 4 * life := by rw [IntKind.wrap_i64]; omega
      have hw3 : IntKind.i64.wrap (V * 5) = V * 5 := by rw [IntKind.wrap_i64]; omega
      have hw4 : IntKind.i64.wrap (life * 4) = life * 4 := by rw [IntKind.wrap_i64]; omega
      clear b6 b7
      have b3' : 5 * V ≥ 4 * life := b3
      go_wp2_with fail
      refine (iLifeOf_any 0 life _).mono ?_
      rintro e w9 ⟨he, rfl⟩
      rw [E0.out] at he
      subst he
      go_wp2
      go_ret
      exact ⟨by simp, hb1⟩
end Go.Proofs.Ytlonmmkioaejmaa

/-
  The walk of the law FnNextEnd: at every code it returns true and changes nothing that was there. Conditions: none.
-/
import Derived.Test.YtlonmmkioaejmabAgGen
import Derived.Test.YtlonmmkioaejmabAgC
import Derived.Test.YtlonmmkioaejmabAgeMathB
import Derived.Test.YtlonmmkioaejmabLawAg
import Derived.Test.YtlonmmkioaejmabLawFrame
import Derived.BigQuiet
import Derived.Deep.RegionHeldLaw
namespace Go.Proofs.Ytlonmmkioaejmab
open Go.RowKit Age

set_option maxHeartbeats 4000000 in
theorem walkNextEnd (a : Option Addr) (len cap : Nat) (zs : List Int) (w : World) (hn : zs.length = len) (hc : len ≤ cap) (hcc : cap ≤ maxLen) (h : Sees w w.heap.size a (byts zs)) (hz : ∀ y ∈ zs, 0 ≤ y ∧ y ≤ 255) :
    Calls Try.prog 6 #[.slice a len cap] w fun e w' => e = .returned (.bool true) ∧ Below w.heap.size w w' := by
  have HE := hid hn
  have HC := hid hcc
  have HZ := hid hz
  clear hn hcc hz
  by_cases hbig : 1048576 < len
  · go_enter Try.func6, Try.ntmps6
    go_wp2
    go_ret
    exact ⟨rfl, Below.refl _ _⟩
  · go_enter Try.func6, Try.ntmps6
    go_wp2_with fail
    refine (drawNextEnd_any _ _ _ _ _ h HZ.out HE.out hc (by omega) HC.out).mono ?_
    rintro e w1 ⟨A, c, l, life, rest, rfl, dl⟩
    obtain ⟨V, hV⟩ : ∃ V, V = Age.next l life rest := ⟨_, rfl⟩
    have E : Hid (Age.next l life rest = V) := hid hV.symm
    have HB := hid (fun (h1 : 1 ≤ Age.next l life rest) (h2 : Age.next l life rest ≤ 1000) => next_ends h1 h2)
    rw [← hV] at HB
    clear hV
    go_wp2_with fail
    refine (iNextEnd_any A c l life rest _ dl.sees (dl.n4 (by decide))).mono ?_
    rintro e w2 ⟨he, hb⟩
    rw [E.out] at he
    subst he
    replace dl := dl.below hb
    clear hb
    go_wp2_with fail
    refine (sNextEnd_any A c l life rest _ dl.sees (dl.n4 (by decide))).mono ?_
    rintro e w2 ⟨he, hb⟩
    rw [E.out] at he
    subst he
    replace dl := dl.below hb
    clear hb
    by_cases h1 : V < 1
    · go_wp2_with fail
      refine (sNextEnd_any A c l life rest _ dl.sees (dl.n4 (by decide))).mono ?_
      rintro e w2 ⟨he, hb⟩
      rw [E.out] at he
      subst he
      replace dl := dl.below hb
      clear hb
      go_wp2
      go_ret
      exact ⟨by simp, dl.bel⟩
    · by_cases h2 : 1000 < V
      · go_wp2_with fail
        refine (sNextEnd_any A c l life rest _ dl.sees (dl.n4 (by decide))).mono ?_
        rintro e w2 ⟨he, hb⟩
        rw [E.out] at he
        subst he
        replace dl := dl.below hb
        clear hb
        go_wp2
        go_ret
        exact ⟨by simp, dl.bel⟩
      · obtain ⟨b1, b2⟩ := HB.out (by omega) (by omega)
        have hlen := ended_len l V life rest
        obtain ⟨Q, hQ⟩ : ∃ Q, Q = ended l V life rest := ⟨_, rfl⟩
        have EQ : Hid (ended l V life rest = Q) := hid hQ.symm
        have EP := hid b1
        rw [← hQ] at b2 hlen
        have b3 : (0 : Int) < (Q.length : Int) := by omega
        have hw1 : IntKind.i64.wrap (V - 1) = V - 1 := by rw [IntKind.wrap_i64]; omega
        clear b1 hQ
        go_wp2_with fail
        refine (iEndedConns_any A c l (V - 1) life rest _ dl.sees (dl.n4 (by decide))).mono ?_
        rintro e w4 ⟨v4, rfl, ho4, hb⟩
        rw [EP.out] at ho4
        replace dl := dl.below hb
        obtain ⟨A4, c4, rfl, _⟩ := ho4.form
        clear hb ho4
        go_wp2_with fail
        refine (iEndedConns_any A c l V life rest _ dl.sees (dl.n4 (by decide))).mono ?_
        rintro e w5 ⟨v5, rfl, ho5, hb⟩
        rw [EQ.out] at ho5
        replace dl := dl.below hb
        obtain ⟨A5, c5, rfl, _⟩ := ho5.form
        clear hb ho5
        go_wp2
        go_ret
        exact ⟨by simp <;> omega, dl.bel⟩
end Go.Proofs.Ytlonmmkioaejmab

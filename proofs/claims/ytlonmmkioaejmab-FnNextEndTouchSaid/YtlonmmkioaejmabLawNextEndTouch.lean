/-
  The walk of the law FnNextEndTouch: at every code it returns true and changes nothing that was there. Conditions: none.
-/
import Derived.Test.YtlonmmkioaejmabAgGen
import Derived.Test.YtlonmmkioaejmabAgC
import Derived.Test.YtlonmmkioaejmabAgeMathB
import Derived.Test.YtlonmmkioaejmabLawAg
import Derived.Test.YtlonmmkioaejmabLawFrame
import Derived.BigQuiet
import Derived.Deep.RegionHeldLaw
namespace Go.Proofs.Ytlonmmkioaejmab
open Go.RowKit Age

set_option maxHeartbeats 4000000 in
theorem walkNextEndTouch (a : Option Addr) (len cap : Nat) (zs : List Int) (w : World) (hn : zs.length = len) (hc : len ≤ cap) (hcc : cap ≤ maxLen) (h : Sees w w.heap.size a (byts zs)) (hz : ∀ y ∈ zs, 0 ≤ y ∧ y ≤ 255) :
    Calls Try.prog 8 #[.slice a len cap] w fun e w' => e = .returned (.bool true) ∧ Below w.heap.size w w' := by
  have HE := hid hn
  have HC := hid hcc
  have HZ := hid hz
  clear hn hcc hz
  by_cases hbig : 1048576 < len
  · go_enter Try.func8, Try.ntmps8
    go_wp2
    go_ret
    exact ⟨rfl, Below.refl _ _⟩
  · go_enter Try.func8, Try.ntmps8
    go_wp2_with fail
    refine (drawNextEnd_any _ _ _ _ _ h HZ.out HE.out hc (by omega) HC.out).mono ?_
    rintro e w1 ⟨A, c, l, life, rest, rfl, dl⟩
    obtain ⟨V, hV⟩ : ∃ V, V = Age.next l life rest := ⟨_, rfl⟩
    have E : Hid (Age.next l life rest = V) := hid hV.symm
    have HF := hid (fun (h1 : 0 ≤ Age.next l life rest) (h2 : 0 < l.length) => next_first h1 h2)
    rw [← hV] at HF
    clear hV
    go_wp2_with fail
    refine (iNextEnd_any A c l life rest _ dl.sees (dl.n4 (by decide))).mono ?_
    rintro e w2 ⟨he, hb⟩
    rw [E.out] at he
    subst he
    replace dl := dl.below hb
    clear hb
    go_wp2_with fail
    refine (sNextEnd_any A c l life rest _ dl.sees (dl.n4 (by decide))).mono ?_
    rintro e w2 ⟨he, hb⟩
    rw [E.out] at he
    subst he
    replace dl := dl.below hb
    clear hb
    by_cases h0 : V < 0
    · go_wp2_with fail
      refine (sNextEnd_any A c l life rest _ dl.sees (dl.n4 (by decide))).mono ?_
      rintro e w2 ⟨he, hb⟩
      rw [E.out] at he
      subst he
      replace dl := dl.below hb
      clear hb
      go_wp2
      go_ret
      exact ⟨by simp, dl.bel⟩
    · by_cases hl0 : l.length = 0
      · have hlb : ((l.length : Int) == 0) = true := by simpa using hl0
        clear hl0
        go_wp2_with fail
        refine (sNextEnd_any A c l life rest _ dl.sees (dl.n4 (by decide))).mono ?_
        rintro e w2 ⟨he, hb⟩
        rw [E.out] at he
        subst he
        replace dl := dl.below hb
        clear hb
        go_wp2
        go_ret
        exact ⟨by simp, dl.bel⟩
      · have hlb : ((l.length : Int) == 0) = false := beq_eq_false_iff_ne.2 (by omega)
        have hlp : 0 < l.length := by omega
        have hli : (0 : Int) < (l.length : Int) := by omega
        obtain ⟨f1, f2, f3, f4, f5⟩ := HF.out (by omega) hlp
        obtain ⟨s1, s2⟩ := spanB_iff.1 f4
        obtain ⟨r1, r2⟩ := spanB_iff.1 f5
        obtain ⟨bb, o, rfl, hbl, e0, e1⟩ := dl.sees.age hlp
        have HL := hid hlp
        obtain ⟨b, hb⟩ : ∃ b, b = (l[0]'hlp).b := ⟨_, rfl⟩
        have HBE : Hid (∀ h : 0 < l.length, (l[0]'h).b = b) := hid (fun _ => hb.symm)
        replace f1 : V ≤ b + life := by rw [hb]; exact f1
        replace f2 : 0 ≤ b := by rw [hb]; exact f2
        replace f3 : b ≤ 1000 := by rw [hb]; exact f3
        have HO := hid (next_one f2 f3 f4 f5)
        replace e0 : w2.cell? ⟨bb, o + 0 * 2, none⟩ = some (.int .i64 b) := by rw [hb]; exact e0
        clear hb f4 f5
        have hs1 := sees_one dl (x := ⟨b, b⟩)
        have hw1 : IntKind.i64.wrap (b + life) = b + life := by rw [IntKind.wrap_i64]; omega
        have hw2 : IntKind.i64.wrap (b + min life rest) = b + min life rest := by rw [IntKind.wrap_i64]; omega
        simp only [Nat.zero_mul, Nat.add_zero] at e0 e1
        go_wp2_with fail
        refine (iNextEnd_len (l := [⟨b, b⟩]) rfl hs1 (by simp)).mono ?_
        rintro e w4 ⟨he, hb⟩
        rw [HO.out] at he
        subst he
        replace dl := (dl.alloc _).below hb
        clear hb hs1 e0 e1
        obtain ⟨b', o', e', hbl', e0, e1⟩ := dl.sees.age HL.out
        obtain ⟨rfl, rfl⟩ : bb = b' ∧ o = o' := by injection e' with e'; injection e' with a b; exact ⟨a, b⟩
        rw [HBE.out HL.out] at e0
        simp only [Nat.zero_mul, Nat.add_zero] at e0 e1
        rcases Int.lt_trichotomy life rest with hlr | hlr | hlr
        · have hmn : min life rest = life := by omega
          rw [hmn] at hw2 ⊢
          clear hmn
          go_wp2
          go_ret
          exact ⟨by simp, dl.bel⟩
        · subst hlr
          have hmn : min life life = life := by omega
          rw [hmn] at hw2 ⊢
          clear hmn
          go_wp2
          go_ret
          exact ⟨by simp, dl.bel⟩
        · have hmn : min life rest = rest := by omega
          rw [hmn] at hw2 ⊢
          clear hmn
          go_wp2
          go_ret
          exact ⟨by simp, dl.bel⟩
end Go.Proofs.Ytlonmmkioaejmab

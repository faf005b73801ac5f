/-
  The walk of the law FnNextEndNone: at every code it returns true and changes nothing that was there. Conditions: none.
-/
import Derived.Test.YtlonmmkioaejmabAgGen
import Derived.Test.YtlonmmkioaejmabAgC
import Derived.Test.YtlonmmkioaejmabAgeMathB
import Derived.Test.YtlonmmkioaejmabLawAg
import Derived.Test.YtlonmmkioaejmabLawFrame
import Derived.BigQuiet
import Derived.Deep.RegionHeldLaw
namespace Go.Proofs.Ytlonmmkioaejmab
open Go.RowKit Age

set_option maxHeartbeats 4000000 in
theorem walkNextEndNone (a : Option Addr) (len cap : Nat) (zs : List Int) (w : World) (hn : zs.length = len) (hc : len ≤ cap) (hcc : cap ≤ maxLen) (h : Sees w w.heap.size a (byts zs)) (hz : ∀ y ∈ zs, 0 ≤ y ∧ y ≤ 255) :
    Calls Try.prog 7 #[.slice a len cap] w fun e w' => e = .returned (.bool true) ∧ Below w.heap.size w w' := by
  have HE := hid hn
  have HC := hid hcc
  have HZ := hid hz
  clear hn hcc hz
  by_cases hbig : 1048576 < len
  · go_enter Try.func7, Try.ntmps7
    go_wp2
    go_ret
    exact ⟨rfl, Below.refl _ _⟩
  · go_enter Try.func7, Try.ntmps7
    go_wp2_with fail
    refine (drawNextEnd_any _ _ _ _ _ h HZ.out HE.out hc (by omega) HC.out).mono ?_
    rintro e w1 ⟨A, c, l, life, rest, rfl, dl⟩
    obtain ⟨V, hV⟩ : ∃ V, V = Age.next l life rest := ⟨_, rfl⟩
    have E : Hid (Age.next l life rest = V) := hid hV.symm
    obtain ⟨Z, hZ⟩ : ∃ Z, Z = Age.next [⟨0, 0⟩] life rest := ⟨_, rfl⟩
    have EZ : Hid (Age.next [⟨0, 0⟩] life rest = Z) := hid hZ.symm
    have HZ0 := hid (next_zero life rest)
    rw [← hZ] at HZ0
    have HG := hid (next_cases l life rest)
    have hVd := hV
    have HVD := hid hVd
    clear hV hZ hVd
    go_wp2_with fail
    refine (iNextEnd_any A c l life rest _ dl.sees (dl.n4 (by decide))).mono ?_
    rintro e w2 ⟨he, hb⟩
    rw [E.out] at he
    subst he
    replace dl := dl.below hb
    clear hb
    go_wp2_with fail
    refine (sNextEnd_any A c l life rest _ dl.sees (dl.n4 (by decide))).mono ?_
    rintro e w2 ⟨he, hb⟩
    rw [E.out] at he
    subst he
    replace dl := dl.below hb
    clear hb
    have hs1 := sees_one dl (x := ⟨0, 0⟩)
    go_wp2_with fail
    refine (iNextEnd_len (l := [⟨0, 0⟩]) rfl hs1 (by simp)).mono ?_
    rintro e w4 ⟨he, hb⟩
    rw [EZ.out] at he
    subst he
    replace dl := (dl.alloc _).below hb
    clear hb hs1
    by_cases h0 : Z < 0
    · go_wp2_with fail
      refine (sNextEnd_any A c l life rest _ dl.sees (dl.n4 (by decide))).mono ?_
      rintro e w2 ⟨he, hb⟩
      rw [E.out] at he
      subst he
      replace dl := dl.below hb
      clear hb
      go_wp2
      go_ret
      exact ⟨by simp, dl.bel⟩
    · obtain ⟨hz1, hz2⟩ := HZ0.out (by omega)
      rcases hv : agesB l with _ | _
      · have Hv := hid hv
        clear hv hz1 hz2
        go_wp2_with fail
        refine (iValidAges_any A c l _ dl.sees (dl.n4 (by decide))).mono ?_
        rintro e w2 ⟨he, hb⟩
        rw [Hv.out] at he
        subst he
        replace dl := dl.below hb
        clear hb
        go_wp2_with fail
        refine (sNextEnd_any A c l life rest _ dl.sees (dl.n4 (by decide))).mono ?_
        rintro e w2 ⟨he, hb⟩
        rw [E.out] at he
        subst he
        replace dl := dl.below hb
        clear hb
        go_wp2
        go_ret
        exact ⟨by simp, dl.bel⟩
      · have Hv := hid hv
        have hiff := next_iff hv hz1 hz2
        have hV1 : -1 ≤ V := by rw [HVD.out]; rcases HG.out with e | ⟨_, _, _, _, _, e, _⟩ <;> omega
        have s1 := spanB_iff.1 hz1
        have s2 := spanB_iff.1 hz2
        have HM1 := hid (fun (h : 0 ≤ Age.next l life rest) (h1 : life < 1000) => next_mono (life' := life + 1) (rest' := rest) h (.inr ⟨rfl, h1⟩) (.inl rfl))
        have HM2 := hid (fun (h : 0 ≤ Age.next l life rest) (h1 : rest < 1000) => next_mono (life' := life) (rest' := rest + 1) h (.inl rfl) (.inr ⟨rfl, h1⟩))
        have HN1 := hid (next_cases l (life + 1) rest)
        have HN2 := hid (next_cases l life (rest + 1))
        rw [E.out] at HM1 HM2 hiff
        obtain ⟨P, hP⟩ : ∃ P, P = Age.next l (life + 1) rest := ⟨_, rfl⟩
        have EP : Hid (Age.next l (life + 1) rest = P) := hid hP.symm
        obtain ⟨R, hR⟩ : ∃ R, R = Age.next l life (rest + 1) := ⟨_, rfl⟩
        have ER : Hid (Age.next l life (rest + 1) = R) := hid hR.symm
        have hP1 : life < 1000 → V ≤ P := by
          intro hh
          rcases Int.lt_or_le V 0 with e | e
          · have : -1 ≤ P := by rw [hP]; rcases HN1.out with e | ⟨_, _, _, _, _, e, _⟩ <;> omega
            omega
          · have := HM1.out e hh; omega
        have hR1 : rest < 1000 → V ≤ R := by
          intro hh
          rcases Int.lt_or_le V 0 with e | e
          · have : -1 ≤ R := by rw [hR]; rcases HN2.out with e | ⟨_, _, _, _, _, e, _⟩ <;> omega
            omega
          · have := HM2.out e hh; omega
        have HP1 := hid hP1
        have HR1 := hid hR1
        have HIFF := hid hiff
        clear hv hz1 hz2 hiff HM1 HM2 HN1 HN2 hP hR hP1 hR1 HG HVD HZ0
        go_wp2_with fail
        refine (iValidAges_any A c l _ dl.sees (dl.n4 (by decide))).mono ?_
        rintro e w2 ⟨he, hb⟩
        rw [Hv.out] at he
        subst he
        replace dl := dl.below hb
        clear hb
        have hw1 : IntKind.i64.wrap (life + 1) = life + 1 := by rw [IntKind.wrap_i64]; omega
        have hw2 : IntKind.i64.wrap (rest + 1) = rest + 1 := by rw [IntKind.wrap_i64]; omega
        have hEQ : (V == -1) = ((l.length : Int) == 0) := by
          rw [Bool.eq_iff_iff]
          have := HIFF.out
          simp only [beq_iff_eq]
          omega
        rcases hb1 : (V == -1) with _ | _ <;> rw [hb1] at hEQ <;> have hEQ' := hEQ.symm <;> clear hEQ
        all_goals
          rcases h1 : (life == 1000) with _ | _
          · have hp := HP1.out (by have : ¬ life = 1000 := by simpa using h1
                                   omega)
            have hp' : P ≥ V := hp
            rcases h2 : (rest == 1000) with _ | _
            · have hr := HR1.out (by have : ¬ rest = 1000 := by simpa using h2
                                     omega)
              have hr' : R ≥ V := hr
              go_wp2_with fail
              refine (iNextEnd_any A c l (life + 1) rest _ dl.sees (dl.n4 (by decide))).mono ?_
              rintro e w2 ⟨he, hb⟩
              rw [EP.out] at he
              subst he
              replace dl := dl.below hb
              clear hb
              go_wp2_with fail
              refine (iNextEnd_any A c l life (rest + 1) _ dl.sees (dl.n4 (by decide))).mono ?_
              rintro e w2 ⟨he, hb⟩
              rw [ER.out] at he
              subst he
              replace dl := dl.below hb
              clear hb
              go_wp2
              go_ret
              exact ⟨by simp, dl.bel⟩
            · go_wp2_with fail
              refine (iNextEnd_any A c l (life + 1) rest _ dl.sees (dl.n4 (by decide))).mono ?_
              rintro e w2 ⟨he, hb⟩
              rw [EP.out] at he
              subst he
              replace dl := dl.below hb
              clear hb
              go_wp2
              go_ret
              exact ⟨by simp, dl.bel⟩
          · rcases h2 : (rest == 1000) with _ | _
            · have hr := HR1.out (by have : ¬ rest = 1000 := by simpa using h2
                                     omega)
              have hr' : R ≥ V := hr
              go_wp2_with fail
              refine (iNextEnd_any A c l life (rest + 1) _ dl.sees (dl.n4 (by decide))).mono ?_
              rintro e w2 ⟨he, hb⟩
              rw [ER.out] at he
              subst he
              replace dl := dl.below hb
              clear hb
              go_wp2
              go_ret
              exact ⟨by simp, dl.bel⟩
            · go_wp2
              go_ret
              exact ⟨by simp, dl.bel⟩
end Go.Proofs.Ytlonmmkioaejmab

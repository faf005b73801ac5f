/-
  The walk of the law FnFreeForNone: at every code it returns true and changes nothing that was there. Conditions: none.
-/
import Derived.Test.YtncijbmahidjbaaLsDraw
import Derived.Test.YtncijbmahidjbaaLsF
import Derived.Test.YtncijbmahidjbaaAddMath
import Derived.Test.YtncijbmahidjbaaLawFrame
import Derived.BigQuiet
import Derived.Deep.RegionHeldLaw
namespace Go.Proofs.Ytncijbmahidjbaa
open Go.RowKit Lse

set_option maxHeartbeats 4000000 in
theorem walkFreeForNone (a : Option Addr) (len cap : Nat) (zs : List Int) (w : World) (hn : zs.length = len) (hc : len ≤ cap) (hcc : cap ≤ maxLen) (h : Sees w w.heap.size a (byts zs)) (hz : ∀ y ∈ zs, 0 ≤ y ∧ y ≤ 255) :
    Calls Try.prog 9 #[.slice a len cap] w fun e w' => e = .returned (.bool true) ∧ Below w.heap.size w w' := by
  have HE := hid hn
  have HC := hid hcc
  have HZ := hid hz
  clear hn hcc hz
  by_cases hbig : 1048576 < len
  · go_enter Try.func9, Try.ntmps9
    go_wp2
    go_ret
    exact ⟨rfl, Below.refl _ _⟩
  · go_enter Try.func9, Try.ntmps9
    go_wp2_with fail
    refine (drawFreeFor_any _ _ _ _ _ h HZ.out HE.out hc (by omega) HC.out).mono ?_
    rintro e w1 ⟨A, c, l, m, f, u, rfl, dl, hf0, hf1⟩
    obtain ⟨V, hV⟩ : ∃ V, V = freeFor l m f u := ⟨_, rfl⟩
    have E : Hid (freeFor l m f u = V) := hid hV.symm
    obtain ⟨N, hN⟩ : ∃ N, N = freeFor [] m f u := ⟨_, rfl⟩
    have EN : Hid (freeFor [] m f u = N) := hid hN.symm
    have HN0 := hid (free_none m f u)
    have HN1 := hid (free_more l m f u)
    rw [← hN] at HN0
    rw [← hV, ← hN] at HN1
    clear hV hN
    go_wp2_with fail
    refine (iFreeFor_any A c l m f u _ dl.sees dl.2.2.2 (Nat.le_trans dl.2.2.1 (by decide))).mono ?_
    rintro e w2 ⟨he, hb⟩
    rw [E.out] at he
    subst he
    replace dl := dl.below hb
    clear hb
    go_wp2_with fail
    refine (sFreeFor_any A c l m f u _ dl.sees (Nat.le_trans dl.2.2.1 (by decide))).mono ?_
    rintro e w2 ⟨he, hb⟩
    rw [E.out] at he
    subst he
    replace dl := dl.below hb
    clear hb
    go_wp2_with fail
    refine (iFreeFor_any none 0 [] m f u _ Sees.nil (by simp) (by simp)).mono ?_
    rintro e w2 ⟨he, hb⟩
    rw [EN.out] at he
    subst he
    replace dl := dl.below hb
    clear hb
    by_cases hN0 : N < 0
    · go_wp2_with fail
      refine (sFreeFor_any A c l m f u _ dl.sees (Nat.le_trans dl.2.2.1 (by decide))).mono ?_
      rintro e w2 ⟨he, hb⟩
      rw [E.out] at he
      subst he
      replace dl := dl.below hb
      clear hb
      go_wp2
      go_ret
      exact ⟨by simp, dl.bel⟩
    · rcases hm6 : (m == 6) with _ | _
      · have hne : ¬ m = 6 := by simpa using hm6
        have hN1 : N = 0 := by have := HN0.out; omega
        subst hN1
        obtain ⟨hm1, hm2, hmore⟩ := HN1.out rfl hne
        have EM := hid hmore
        clear hmore hne
        obtain ⟨M, hM⟩ : ∃ M, M = freeFor l (m + 1) f u := ⟨_, rfl⟩
        rw [← hM] at EM
        have EMM : Hid (freeFor l (m + 1) f u = M) := hid hM.symm
        clear hM
        go_wp2_with fail
        refine (iFreeFor_any A c l (m + 1) f u _ dl.sees dl.2.2.2 (Nat.le_trans dl.2.2.1 (by decide))).mono ?_
        rintro e w2 ⟨he, hb⟩
        rw [EMM.out] at he
        subst he
        replace dl := dl.below hb
        clear hb
        go_wp2_with fail
        refine (iFreeFor_any none 0 [] m f u _ Sees.nil (by simp) (by simp)).mono ?_
        rintro e w2 ⟨he, hb⟩
        rw [EN.out] at he
        subst he
        replace dl := dl.below hb
        clear hb
        rcases hV1 : (V == -1) with _ | _
        · have hMV : M = V := EM.out (by simpa using hV1)
          have hMV2 : (M == V) = true := by simpa using hMV
          clear hMV
          go_wp2
          go_ret
          exact ⟨by simp, dl.bel⟩
        · go_wp2
          go_ret
          exact ⟨by simp, dl.bel⟩
      · go_wp2_with fail
        refine (sFreeFor_any A c l m f u _ dl.sees (Nat.le_trans dl.2.2.1 (by decide))).mono ?_
        rintro e w2 ⟨he, hb⟩
        rw [E.out] at he
        subst he
        replace dl := dl.below hb
        clear hb
        go_wp2
        go_ret
        exact ⟨by simp, dl.bel⟩
end Go.Proofs.Ytncijbmahidjbaa

/-
  The walk of the law FnOwnerAtBusy: at every code it returns true and changes nothing that was there. Conditions: none.
-/
import Derived.Test.YtncijbmahidjbaaLsDraw
import Derived.Test.YtncijbmahidjbaaLawLs
import Derived.Test.YtncijbmahidjbaaBusyMath
import Derived.Test.YtncijbmahidjbaaLawFrame
import Derived.BigQuiet
import Derived.Deep.RegionHeldLaw
namespace Go.Proofs.Ytncijbmahidjbaa
open Go.RowKit Lse

set_option maxHeartbeats 4000000 in
theorem walkOwnerAtBusy (a : Option Addr) (len cap : Nat) (zs : List Int) (w : World) (hn : zs.length = len) (hc : len ≤ cap) (hcc : cap ≤ maxLen) (h : Sees w w.heap.size a (byts zs)) (hz : ∀ y ∈ zs, 0 ≤ y ∧ y ≤ 255) :
    Calls Try.prog 5 #[.slice a len cap] w fun e w' => e = .returned (.bool true) ∧ Below w.heap.size w w' := by
  have HE := hid hn
  have HC := hid hcc
  have HZ := hid hz
  clear hn hcc hz
  by_cases hbig : 1048576 < len
  · go_enter Try.func5, Try.ntmps5
    go_wp2
    go_ret
    exact ⟨rfl, Below.refl _ _⟩
  · go_enter Try.func5, Try.ntmps5
    go_wp2_with fail
    refine (drawOwnerAt_any _ _ _ _ _ h HZ.out HE.out hc (by omega) HC.out).mono ?_
    rintro e w1 ⟨A, c, l, q, t, rfl, dl, hq0, hq5⟩
    obtain ⟨V, hV⟩ : ∃ V, V = ownerAt l q t := ⟨_, rfl⟩
    have E : Hid (ownerAt l q t = V) := hid hV.symm
    have HB := hid (owner_busy (l := l) (t := t) hq0 hq5)
    rw [← hV] at HB
    clear hV
    go_wp2_with fail
    refine (iOwnerAt_any A c l q t _ dl.sees dl.2.2.2 (Nat.le_trans dl.2.2.1 (by decide))).mono ?_
    rintro e w2 ⟨he, hb⟩
    rw [E.out] at he
    subst he
    replace dl := dl.below hb
    clear hb
    go_wp2_with fail
    refine (sOwnerAt_any A c l q t _ dl.sees (Nat.le_trans dl.2.2.1 (by decide))).mono ?_
    rintro e w2 ⟨he, hb⟩
    rw [E.out] at he
    subst he
    replace dl := dl.below hb
    clear hb
    rcases hv : validB l with _ | _
    · have HV := hid hv
      clear hv
      go_wp2_with fail
      refine (iValidLeases_any A c l _ dl.sees dl.2.2.2 (Nat.le_trans dl.2.2.1 (by decide))).mono ?_
      rintro e w2 ⟨he, hb⟩
      rw [HV.out] at he
      subst he
      replace dl := dl.below hb
      clear hb
      go_wp2_with fail
      refine (sOwnerAt_any A c l q t _ dl.sees (Nat.le_trans dl.2.2.1 (by decide))).mono ?_
      rintro e w2 ⟨he, hb⟩
      rw [E.out] at he
      subst he
      replace dl := dl.below hb
      clear hb
      go_wp2
      go_ret
      exact ⟨by simp, dl.bel⟩
    · have HV := hid hv
      clear hv
      go_wp2_with fail
      refine (iValidLeases_any A c l _ dl.sees dl.2.2.2 (Nat.le_trans dl.2.2.1 (by decide))).mono ?_
      rintro e w2 ⟨he, hb⟩
      rw [HV.out] at he
      subst he
      replace dl := dl.below hb
      clear hb
      go_wp2_with fail
      refine (iBusyAt_any A c l t _ dl.sees dl.2.2.2 (Nat.le_trans dl.2.2.1 (by decide))).mono ?_
      rintro e w3 ⟨v3, rfl, ho3, hb⟩
      replace dl := dl.below hb
      clear hb
      have hlen := busy_len l t
      obtain ⟨B, hB⟩ : ∃ B, B = busy l t := ⟨_, rfl⟩
      rw [← hB] at ho3 hlen HB
      clear hB
      obtain ⟨A3, c3, rfl, hs3⟩ := ho3.form
      go_wp2_with fail
      refine (lisIn_any A3 c3 B q _ hs3 (Nat.le_trans hlen (by decide))).mono ?_
      rintro e w4 ⟨he, rfl⟩
      rw [HB.out] at he
      subst he
      go_wp2
      go_ret
      exact ⟨by simp, dl.bel⟩
end Go.Proofs.Ytncijbmahidjbaa

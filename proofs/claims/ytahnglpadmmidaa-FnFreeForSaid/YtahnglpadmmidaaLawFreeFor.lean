/-
  The walk of the law FnFreeFor: at every code it returns true and changes nothing that was there. Conditions: none.
-/
import Derived.Test.YtahnglpadmmidaaLsDraw
import Derived.Test.YtahnglpadmmidaaLsF
import Derived.Test.YtahnglpadmmidaaAddMath
import Derived.Test.YtahnglpadmmidaaLawFrame
import Derived.BigQuiet
import Derived.Deep.RegionHeldLaw
namespace Go.Proofs.Ytahnglpadmmidaa
open Go.RowKit Lse

set_option maxHeartbeats 4000000 in
theorem walkFreeFor (a : Option Addr) (len cap : Nat) (zs : List Int) (w : World) (hn : zs.length = len) (hc : len ≤ cap) (hcc : cap ≤ maxLen) (h : Sees w w.heap.size a (byts zs)) (hz : ∀ y ∈ zs, 0 ≤ y ∧ y ≤ 255) :
    Calls Try.prog 7 #[.slice a len cap] w fun e w' => e = .returned (.bool true) ∧ Below w.heap.size w w' := by
  have HE := hid hn
  have HC := hid hcc
  have HZ := hid hz
  clear hn hcc hz
  by_cases hbig : 1048576 < len
  · go_enter Try.func7, Try.ntmps7
    go_wp2
    go_ret
    exact ⟨rfl, Below.refl _ _⟩
  · go_enter Try.func7, Try.ntmps7
    go_wp2_with fail
    refine (drawFreeFor_any _ _ _ _ _ h HZ.out HE.out hc (by omega) HC.out).mono ?_
    rintro e w1 ⟨A, c, l, m, f, u, rfl, dl, hf0, hf1⟩
    obtain ⟨V, hV⟩ : ∃ V, V = freeFor l m f u := ⟨_, rfl⟩
    have E : Hid (freeFor l m f u = V) := hid hV.symm
    have HB := hid (free_ge l m f u)
    rw [← hV] at HB
    clear hV
    go_wp2_with fail
    refine (iFreeFor_any A c l m f u _ dl.sees dl.2.2.2 (Nat.le_trans dl.2.2.1 (by decide))).mono ?_
    rintro e w2 ⟨he, hb⟩
    rw [E.out] at he
    subst he
    replace dl := dl.below hb
    clear hb
    go_wp2_with fail
    refine (sFreeFor_any A c l m f u _ dl.sees (Nat.le_trans dl.2.2.1 (by decide))).mono ?_
    rintro e w2 ⟨he, hb⟩
    rw [E.out] at he
    subst he
    replace dl := dl.below hb
    clear hb
    by_cases hV0 : V < 0
    · go_wp2_with fail
      refine (sFreeFor_any A c l m f u _ dl.sees (Nat.le_trans dl.2.2.1 (by decide))).mono ?_
      rintro e w2 ⟨he, hb⟩
      rw [E.out] at he
      subst he
      replace dl := dl.below hb
      clear hb
      go_wp2
      go_ret
      exact ⟨by simp, dl.bel⟩
    · by_cases hl12 : 12 ≤ l.length
      · have hl12' : (12 : Int) ≤ (l.length : Int) := by omega
        go_wp2_with fail
        refine (sFreeFor_any A c l m f u _ dl.sees (Nat.le_trans dl.2.2.1 (by decide))).mono ?_
        rintro e w2 ⟨he, hb⟩
        rw [E.out] at he
        subst he
        replace dl := dl.below hb
        clear hb
        go_wp2
        go_ret
        exact ⟨by simp, dl.bel⟩
      · have hl12' : ¬ (12 : Int) ≤ (l.length : Int) := by omega
        have hl12'' : (l.length : Int) < 12 := by omega
        have hfr := free_found (l := l) (m := m) (f := f) (u := u) (by rw [E.out]; omega) (by omega)
        rw [E.out] at hfr
        obtain ⟨n, hn, hnm, hall⟩ := hfr
        subst hn
        have HA := hid hall
        clear hall
        have hnmi : (n : Int) < m := hnm
        have hn6 : n ≤ 6 := by have := HB.out; omega
        go_wp2
        go_loopw [8] (fun i wr => ∃ k : Nat, k ≤ n + 1 ∧ i = .int .i64 k ∧ DL w wr A c l) (fun i _ => n + 1 - (intOf i).toNat)
        case atStart => exact ⟨0, Nat.zero_le _, rfl, dl⟩
        case round =>
          clear dl
          obtain ⟨k, hk, rfl, dl⟩ := hrel
          by_cases hlt : k ≤ n
          · have hi : (k : Int) ≤ (n : Int) := by omega
            have EK := hid (HA.out k hlt)
            go_wp2_with fail
            refine (iAddLease_any A c l ⟨k, 1, f, u⟩ _ dl.sees dl.2.2.2 (Nat.le_trans dl.2.2.1 (by decide))).mono ?_
            rintro e w4 ⟨v4, he, ho4, hb⟩
            rw [EK.out] at he
            subst he
            replace dl := dl.below hb
            clear hb ho4
            rcases hkn : ((k : Int) == (n : Int)) with _ | _
            · have hkn2 : decide (k = n) = false := by simp at hkn ⊢; omega
              rw [hkn2]
              go_wp2
              go_roundw
              case rel => exact ⟨k + 1, by omega, by go_num, dl⟩
              case measure => simp [intOf]; omega
            · have hkn2 : decide (k = n) = true := by simp at hkn ⊢; omega
              rw [hkn2]
              go_wp2
              go_roundw
              case rel => exact ⟨k + 1, by omega, by go_num, dl⟩
              case measure => simp [intOf]; omega
          · have hi : ¬ (k : Int) ≤ (n : Int) := by omega
            go_wp2
            go_ret
            exact ⟨by simp; try omega, dl.bel⟩
end Go.Proofs.Ytahnglpadmmidaa

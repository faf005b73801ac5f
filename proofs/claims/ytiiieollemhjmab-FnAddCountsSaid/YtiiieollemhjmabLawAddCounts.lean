/-
  The walk of the law FnAddCounts: at every code it returns true and changes nothing that was there. Conditions: none.
-/
import Derived.Test.YtiiieollemhjmabLawWtB
import Derived.Test.YtiiieollemhjmabLawFrame
import Derived.BigQuiet

namespace Go.Proofs.Ytiiieollemhjmab
open Go.RowKit Wt

set_option maxHeartbeats 8000000 in
theorem walkAddCounts (a : Option Addr) (len cap : Nat) (zs : List Int) (w : World) (hn : zs.length = len) (hc : len ≤ cap) (hcc : cap ≤ maxLen) (h : Sees w w.heap.size a (byts zs)) (hz : ∀ y ∈ zs, 0 ≤ y ∧ y ≤ 255) :
    Calls Try.prog 7 #[.slice a len cap] w fun e w' => e = .returned (.bool true) ∧ Below w.heap.size w w' := by
  have HE := hid hn
  have HC := hid hcc
  have HZ := hid hz
  clear hn hcc hz
  by_cases hbig : 1048576 < len
  · go_enter Try.func7, Try.ntmps7
    go_wp2
    go_ret
    exact ⟨rfl, Below.refl _ _⟩
  · go_enter Try.func7, Try.ntmps7
    go_wp2_with fail
    refine (drawAddCounts_any _ _ _ _ _ h HZ.out HE.out hc (by omega) HC.out).mono ?_
    rintro e w2 ⟨A, c, a, B, d, b, rfl, dl, dk⟩
    have HC2 := hid (fun (K : addB a b = true) => addB_iff.1 K)
    have HV8 := hid (Nat.le_trans (addL_len a b) (by decide) : (addL a b).length ≤ 4194304)
    have HCM := hid (addL_comm a b)
    have HCB := hid (addB_comm a b)
    have HYS := hid (fun (K : addB a b = true) => addL_yes K)
    obtain ⟨V, hV⟩ : ∃ V, V = addL a b := ⟨_, rfl⟩
    have EV : Hid (addL a b = V) := hid hV.symm
    rw [← hV] at HV8 HCM HYS
    clear hV
    obtain ⟨K, hK⟩ : ∃ K, K = addB a b := ⟨_, rfl⟩
    have EK : Hid (addB a b = K) := hid hK.symm
    rw [← hK] at HCB
    have HK := hid hK
    clear hK
    go_wp2_with fail
    refine (iAddCounts_any a b A B _ _ _ dl.sees dk.sees dl.n4 dk.n4).mono ?_
    rintro e w3 ⟨A1, c1, he, ho1, hb⟩
    rw [EV.out, EK.out] at he
    rw [EV.out] at ho1
    subst he
    replace dl := dl.below hb
    replace dk := dk.below hb
    clear hb
    go_wp2_with fail
    refine (sAddCounts_any a b A B _ _ _ dl.sees dk.sees dl.n4 dk.n4).mono ?_
    rintro e w4 ⟨A2, c2, he, ho2, hb⟩
    rw [EV.out, EK.out] at he
    rw [EV.out] at ho2
    subst he
    replace dl := dl.below hb
    replace dk := dk.below hb
    replace ho1 := ho1.below hb
    clear hb
    cases K with
    | false =>
      go_wp2_with fail
      refine (equalInts_same A1 A2 c1 c2 V _ ho1.seesW ho2.seesW HV8.out).mono ?_
      rintro e w5 ⟨rfl, hb⟩
      replace dl := dl.below hb
      replace dk := dk.below hb
      replace ho1 := ho1.below hb
      replace ho2 := ho2.below hb
      clear hb
      go_wp2_with fail
      refine (equalInts_same A1 A2 c1 c2 V _ ho1.seesW ho2.seesW HV8.out).mono ?_
      rintro e w6 ⟨rfl, hb⟩
      replace dl := dl.below hb
      replace dk := dk.below hb
      replace ho1 := ho1.below hb
      replace ho2 := ho2.below hb
      clear hb
      go_wp2
      go_ret
      exact ⟨by first | rfl | (simp; done) | (simp; omega), dl.bel⟩
    | true =>
      obtain ⟨hva, hvb, hvz⟩ := HC2.out HK.out.symm
      have hVz := HYS.out HK.out.symm
      have EC1 := hid (show addL b a = V from HCM.out.symm)
      have EC2 := hid (show addB b a = true from HCB.out.symm)
      have HVV := hid (show cntB V = true by rw [hVz]; exact hvz)
      have HIa := hid (cntB_iff.1 hva).2
      have HIb := hid (cntB_iff.1 hvb).2
      have HIv := hid (cntB_iff.1 HVV.out).2
      have Hs := hid (show V.sum = a.sum + b.sum by rw [hVz]; exact zip_sum a b (by rw [(cntB_iff.1 hva).1, (cntB_iff.1 hvb).1]))
      have HLa := hid (show a.length ≤ 100000 by rw [(cntB_iff.1 hva).1]; decide)
      have HLb := hid (show b.length ≤ 100000 by rw [(cntB_iff.1 hvb).1]; decide)
      have HLv := hid (show V.length ≤ 100000 by rw [(cntB_iff.1 HVV.out).1]; decide)
      have ha8 := (pre_range hva 0).2
      have hb8 := (pre_range hvb 0).2
      have ha0 := sum_bd HIa.out
      have hb0 := sum_bd HIb.out
      obtain ⟨x, hx⟩ : ∃ x, x = a.sum := ⟨_, rfl⟩
      obtain ⟨y, hy⟩ : ∃ y, y = b.sum := ⟨_, rfl⟩
      have EA := hid hx.symm
      have EB := hid hy.symm
      rw [← hx, ← hy] at Hs
      rw [← hx] at ha8 ha0
      rw [← hy] at hb8 hb0
      obtain ⟨_, ha8⟩ := ha8
      obtain ⟨_, hb8⟩ := hb8
      obtain ⟨ha0, _⟩ := ha0
      obtain ⟨hb0, _⟩ := hb0
      have hw : IntKind.i64.wrap (x + y) = x + y := by rw [IntKind.wrap_i64]; omega
      clear hx hy hva hvb hvz hVz
      go_wp2_with fail
      refine (equalInts_same A1 A2 c1 c2 V _ ho1.seesW ho2.seesW HV8.out).mono ?_
      rintro e w5 ⟨rfl, hb⟩
      replace dl := dl.below hb
      replace dk := dk.below hb
      replace ho1 := ho1.below hb
      replace ho2 := ho2.below hb
      clear hb
      go_wp2_with fail
      refine (iAddCounts_any b a B A _ _ _ dk.sees dl.sees dk.n4 dl.n4).mono ?_
      rintro e w6 ⟨A3, c3, he, ho3, hb⟩
      rw [EC1.out, EC2.out] at he
      rw [EC1.out] at ho3
      subst he
      replace dl := dl.below hb
      replace dk := dk.below hb
      replace ho1 := ho1.below hb
      replace ho2 := ho2.below hb
      clear hb
      go_wp2_with fail
      refine (equalInts_same A3 A1 c3 c1 V _ ho3.seesW ho1.seesW HV8.out).mono ?_
      rintro e w7 ⟨rfl, hb⟩
      replace dl := dl.below hb
      replace dk := dk.below hb
      replace ho1 := ho1.below hb
      replace ho2 := ho2.below hb
      replace ho3 := ho3.below hb
      clear hb
      go_wp2_with fail
      with_reducible refine (waLSum_any A1 c1 V _ ho1.seesW HLv.out HIv.out).mono ?_
      rintro e w' ⟨he, rfl⟩
      rw [Hs.out] at he
      subst he
      go_wp2_with fail
      with_reducible refine (waLSum_any A c a _ dl.sees HLa.out HIa.out).mono ?_
      rintro e w' ⟨he, rfl⟩
      rw [EA.out] at he
      subst he
      go_wp2_with fail
      with_reducible refine (waLSum_any B d b _ dk.sees HLb.out HIb.out).mono ?_
      rintro e w' ⟨he, rfl⟩
      rw [EB.out] at he
      subst he
      go_wp2_with fail
      with_reducible refine (iValidCounts_any A1 c1 V _ ho1.seesW HV8.out).mono ?_
      rintro e w' ⟨he, rfl⟩
      rw [HVV.out] at he
      subst he
      go_wp2
      go_ret
      exact ⟨by first | rfl | (simp; done) | (simp; omega), dl.bel⟩
end Go.Proofs.Ytiiieollemhjmab

/-
  The walk of the law FnCheapestResetOne: at every code it returns true and changes nothing that was there. Conditions: none.
-/
import Derived.Test.YtfnjphhanehoeaaLawRw
import Derived.Test.YtfnjphhanehoeaaLawFrame
import Derived.BigQuiet
namespace Go.Proofs.Ytfnjphhanehoeaa
open Go.RowKit Stt Lea

set_option maxHeartbeats 4000000 in
theorem walkCheapestResetOne (a : Option Addr) (len cap : Nat) (zs : List Int) (w : World) (hn : zs.length = len) (hc : len ≤ cap) (hcc : cap ≤ maxLen) (h : Sees w w.heap.size a (byts zs)) (hz : ∀ y ∈ zs, 0 ≤ y ∧ y ≤ 255) :
    Calls Try.prog 5 #[.slice a len cap] w fun e w' => e = .returned (.bool true) ∧ Below w.heap.size w w' := by
  have HE := hid hn
  have HC := hid hcc
  have HZ := hid hz
  clear hn hcc hz
  by_cases hbig : 1048576 < len
  · go_enter Try.func5, Try.ntmps5
    go_wp2
    go_ret
    exact ⟨rfl, Below.refl _ _⟩
  go_enter Try.func5, Try.ntmps5
  go_wp2_with fail
  refine (drawCheapestReset_any _ _ _ _ _ h HZ.out HE.out hc (by omega) HC.out).mono ?_
  rintro e w1 ⟨A, c, rs, B, d, m, rfl, dr⟩
  have hpt := che_parts (rs := rs) (m := m)
  obtain ⟨V, hV⟩ : ∃ V, V = cheV rs m := ⟨_, rfl⟩
  have EV : Hid (cheV rs m = V) := hid hV.symm
  rw [← hV] at hpt
  clear hV hbig hc
  go_wp2_with fail
  with_reducible refine (iCheapestReset_any A B c d rs m _ dr.s1 dr.s2 dr.n1 dr.n2 dr.n3).mono ?_
  rintro e w2 ⟨he, hb⟩
  rw [EV.out] at he
  subst he
  replace dr := dr.below hb
  clear hb
  go_wp2_with fail
  with_reducible refine (sCheapestReset_any A B c d rs m _ dr.s1 dr.s2 dr.n1 dr.n2 dr.n3).mono ?_
  rintro e w3 ⟨he, hb⟩
  rw [EV.out] at he
  subst he
  replace dr := dr.below hb
  clear hb
  rcases hpt with rfl | ⟨j, rfl, hjl, hrb, hmb, hle⟩
  · go_wp2_with fail
    with_reducible refine (sCheapestReset_any A B c d rs m _ dr.s1 dr.s2 dr.n1 dr.n2 dr.n3).mono ?_
    rintro e w4 ⟨he, hb⟩
    rw [EV.out] at he
    subst he
    replace dr := dr.below hb
    clear hb
    go_wp2
    go_ret
    exact ⟨rfl, dr.bel⟩
  have hj0 : ¬ (j : Int) < 0 := by omega
  have hl0 : 0 < rs.length := by omega
  have hlc := dr.cap
  have hl1 : (1 : Int) ≤ (c : Int) := by omega
  have hl2 : (0 : Int) < (rs.length : Int) := by omega
  have hr0 := (rowsB_iff.1 hrb).2 _ (List.getElem_mem hl0)
  have HCO := hid (che_one hr0 hmb)
  have HS1 := hid (seesR_one dr.s1 hl0)
  have hx4 := dr.n2 _ (List.getElem_mem hl0)
  have HJ := hid (fun (hj : (j : Int) ≠ 0) => che_differ (m := m) hl0 hjl (fun e => hj (by omega)) hle)
  obtain ⟨b, o, rfl, hbl, e0, hs⟩ := dr.s1.row hl0
  obtain ⟨x, hx⟩ : ∃ x, x = rs[0] := ⟨_, rfl⟩
  rw [← hx] at HCO HS1 e0 hs hx4
  clear hx hle hrb hmb EV hr0 e0 hs hbl
  go_wp2_with fail
  with_reducible refine (iCheapestReset_len (n := 1) (rs := [x]) rfl HS1.out dr.s2 (by simp) (fun r hr => by rw [List.mem_singleton.1 hr]; exact hx4) dr.n3).mono ?_
  rintro e w4 ⟨he, hb⟩
  rw [HCO.out] at he
  subst he
  replace dr := dr.below hb
  clear hb HS1
  rcases hj : ((j : Int) == 0) with _ | _
  · have HE2 := hid (eqT_no (HJ.out (by simpa using hj)))
    obtain ⟨b', o', e', hbl, e0, hs⟩ := dr.s1.row hl0
    injection e' with e'
    injection e' with e1 e2
    subst e1 e2
    have hx4 := dr.n2 _ (List.getElem_mem hl0)
    obtain ⟨y, hy⟩ : ∃ y, y = rs[0] := ⟨_, rfl⟩
    rw [← hy] at HE2 e0 hs hx4
    rw [Nat.add_zero] at e0
    clear hy
    go_wp2_with fail
    with_reducible refine (equalSettings_any y.A B y.c d y.l m _ hs dr.s2 hx4).mono ?_
    rintro e w5 ⟨he, hb⟩
    rw [HE2.out] at he
    subst he
    replace dr := dr.below hb
    clear hb
    go_wp2
    go_ret
    exact ⟨rfl, dr.bel⟩
  · go_wp2
    go_ret
    exact ⟨rfl, dr.bel⟩
end Go.Proofs.Ytfnjphhanehoeaa

/-
  The walk of the law FnCheapestReset: at every code it returns true and changes nothing that was there. Conditions: none.
-/
import Derived.Test.YtfnjphhanehoeaaLawRw
import Derived.Test.YtfnjphhanehoeaaLawFrame
import Derived.BigQuiet
namespace Go.Proofs.Ytfnjphhanehoeaa
open Go.RowKit Stt Lea

set_option maxHeartbeats 4000000 in
theorem walkCheapestReset (a : Option Addr) (len cap : Nat) (zs : List Int) (w : World) (hn : zs.length = len) (hc : len ≤ cap) (hcc : cap ≤ maxLen) (h : Sees w w.heap.size a (byts zs)) (hz : ∀ y ∈ zs, 0 ≤ y ∧ y ≤ 255) :
    Calls Try.prog 4 #[.slice a len cap] w fun e w' => e = .returned (.bool true) ∧ Below w.heap.size w w' := by
  have HE := hid hn
  have HC := hid hcc
  have HZ := hid hz
  clear hn hcc hz
  by_cases hbig : 1048576 < len
  · go_enter Try.func4, Try.ntmps4
    go_wp2
    go_ret
    exact ⟨rfl, Below.refl _ _⟩
  go_enter Try.func4, Try.ntmps4
  go_wp2_with fail
  refine (drawCheapestReset_any _ _ _ _ _ h HZ.out HE.out hc (by omega) HC.out).mono ?_
  rintro e w1 ⟨A, c, rs, B, d, m, rfl, dr⟩
  have hpt := che_parts (rs := rs) (m := m)
  obtain ⟨V, hV⟩ : ∃ V, V = cheV rs m := ⟨_, rfl⟩
  have EV : Hid (cheV rs m = V) := hid hV.symm
  rw [← hV] at hpt
  clear hV hbig hc
  go_wp2_with fail
  with_reducible refine (iCheapestReset_any A B c d rs m _ dr.s1 dr.s2 dr.n1 dr.n2 dr.n3).mono ?_
  rintro e w2 ⟨he, hb⟩
  rw [EV.out] at he
  subst he
  replace dr := dr.below hb
  clear hb
  go_wp2_with fail
  with_reducible refine (sCheapestReset_any A B c d rs m _ dr.s1 dr.s2 dr.n1 dr.n2 dr.n3).mono ?_
  rintro e w3 ⟨he, hb⟩
  rw [EV.out] at he
  subst he
  replace dr := dr.below hb
  clear hb
  rcases hpt with rfl | ⟨j, rfl, hjl, hrb, hmb, hle⟩
  · go_wp2_with fail
    with_reducible refine (sCheapestReset_any A B c d rs m _ dr.s1 dr.s2 dr.n1 dr.n2 dr.n3).mono ?_
    rintro e w4 ⟨he, hb⟩
    rw [EV.out] at he
    subst he
    replace dr := dr.below hb
    clear hb
    go_wp2
    go_ret
    exact ⟨rfl, dr.bel⟩
  have hj0 : ¬ (j : Int) < 0 := by omega
  have hj0' : (0 : Int) ≤ (j : Int) := by omega
  have hjl1 : (j : Int) < (rs.length : Int) := by omega
  have hjl2 : ¬ (j : Int) ≥ (rs.length : Int) := by omega
  have HLE := hid (fun i hi => hle i hi hjl)
  obtain ⟨b, o, rfl, hbl, e0, hs⟩ := dr.s1.row hjl
  have hxl := dr.n2 _ (List.getElem_mem hjl)
  obtain ⟨x, hx⟩ : ∃ x, x = rs[j] := ⟨_, rfl⟩
  rw [← hx] at e0 hs hxl HLE
  clear hx hle hrb hmb EV
  go_wp2_with fail
  with_reducible refine (iResetPlan_any x.A B x.c d x.l m _ hs dr.s2 hxl dr.n3).mono ?_
  rintro e w4 ⟨v4, rfl, ho4, hb⟩
  obtain ⟨A4, c4, rfl, _⟩ := ho4.form
  replace dr := dr.below hb
  obtain ⟨L, hL⟩ : ∃ L, L = (planL x.l m).length := ⟨_, rfl⟩
  rw [← hL] at HLE ⊢
  clear hL ho4 hb hs e0 hxl hbl
  go_wp2
  go_loopw [7] (fun i wr => ∃ k : Nat, k ≤ rs.length ∧ i = .int .i64 k ∧ DR w wr (some ⟨b, o, none⟩) c rs B d m ∧ Below w4.heap.size w4 wr) (fun i _ => rs.length - (intOf i).toNat)
  case atStart => exact ⟨0, Nat.zero_le _, rfl, dr, Below.refl _ _⟩
  case round =>
    clear dr
    obtain ⟨k, hk, rfl, dr, hb0⟩ := hrel
    have hn7 := dr.n7
    by_cases hlt : k < rs.length
    · have hi : (k : Int) < (rs.length : Int) := by omega
      obtain ⟨b', o', e', hbl, e0, hs⟩ := dr.s1.row hlt
      injection e' with e'
      injection e' with e1 e2
      subst e1 e2
      have hxl := dr.n2 _ (List.getElem_mem hlt)
      have HK := hid (HLE.out k hlt)
      obtain ⟨y, hy⟩ : ∃ y, y = rs[k] := ⟨_, rfl⟩
      rw [← hy] at e0 hs hxl HK
      clear hy
      go_wp2_with fail
      with_reducible refine (iResetPlan_any y.A B y.c d y.l m _ hs dr.s2 hxl dr.n3).mono ?_
      rintro e w5 ⟨v5, rfl, ho5, hb⟩
      obtain ⟨A5, c5, rfl, _⟩ := ho5.form
      obtain ⟨P, hP⟩ : ∃ P, P = (planL y.l m).length := ⟨_, rfl⟩
      rw [← hP] at HK ⊢
      clear hP ho5 e0 hs hxl
      have hK := HK.out
      have hP1 : ¬ (P : Int) < (L : Int) := by omega
      replace dr := dr.below hb
      have hbb := hb0.trans (hb.mono hb0.size)
      clear hb
      by_cases hPL : P = L
      · have hE : ((P : Int) == (L : Int)) = true := beq_iff_eq.2 (by omega)
        have hkj : ¬ (k : Int) < (j : Int) := by omega
        clear hK hPL
        go_wp2
        go_roundw
        case rel => exact ⟨k + 1, by omega, by go_num, dr, hbb⟩
        case measure => simp [intOf]; omega
      · have hE : ((P : Int) == (L : Int)) = false := beq_eq_false_iff_ne.2 (by omega)
        clear hK hPL
        go_wp2
        go_roundw
        case rel => exact ⟨k + 1, by omega, by go_num, dr, hbb⟩
        case measure => simp [intOf]; omega
    · have hi : ¬ (k : Int) < (rs.length : Int) := by omega
      go_wp2
      go_ret
      exact ⟨rfl, dr.bel⟩
end Go.Proofs.Ytfnjphhanehoeaa

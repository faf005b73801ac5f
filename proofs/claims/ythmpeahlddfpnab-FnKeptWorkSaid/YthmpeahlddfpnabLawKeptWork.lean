/-
  The walk of the law FnKeptWork: at every code it returns true and changes nothing that was there. Conditions: none.
-/
import Derived.Test.YthmpeahlddfpnabLawNsB
import Derived.Test.YthmpeahlddfpnabLawFrame
import Derived.BigQuiet

namespace Go.Proofs.Ythmpeahlddfpnab
open Go.RowKit Nes

set_option maxHeartbeats 8000000 in
theorem walkKeptWork (a : Option Addr) (len cap : Nat) (zs : List Int) (w : World) (hn : zs.length = len) (hc : len ≤ cap) (hcc : cap ≤ maxLen) (h : Sees w w.heap.size a (byts zs)) (hz : ∀ y ∈ zs, 0 ≤ y ∧ y ≤ 255) :
    Calls Try.prog 6 #[.slice a len cap] w fun e w' => e = .returned (.bool true) ∧ Below w.heap.size w w' := by
  have HE := hid hn
  have HC := hid hcc
  have HZ := hid hz
  clear hn hcc hz
  by_cases hbig : 1048576 < len
  · go_enter Try.func6, Try.ntmps6
    go_wp2
    go_ret
    exact ⟨rfl, Below.refl _ _⟩
  · go_enter Try.func6, Try.ntmps6
    go_wp2_with fail
    refine (drawKeptWork_any _ _ _ _ _ h HZ.out HE.out hc (by omega) HC.out).mono ?_
    rintro e w2 ⟨B, d, l, rfl, dl⟩
    have hs := dl.sees
    have HB2 := hid dl.bel
    have h18 := dl.n18
    have hB0 := Below.refl w2.heap.size w2
    obtain ⟨V, hV⟩ : ∃ V, V = keptV l := ⟨_, rfl⟩
    have EV : Hid (keptV l = V) := hid hV.symm
    have HV := hid hV
    clear hV
    have HL := hid (fun (h : l.length ≤ 16) => (⟨by have := acc_work l; have := (acc_ok l).2.1; rw [HV.out, keptV_yes h]; omega, fun e => (acc_work l).2.2 (by rw [HV.out, keptV_yes h] at e; exact e)⟩ : V ≤ ones l ∧ (0 < V → 3 ∈ l)))
    have HF := hid (fun (h : ¬ V < 0) => keptV_few (l := l) (by rw [← HV.out]; exact h))
    by_cases hv : V < 0
    · skip
      go_wp2_with fail
      with_reducible refine (iKeptWork_any B d l _ (hs.on4 hB0) dl.n4).mono ?_
      rintro e w3 ⟨he, hb3⟩
      rw [EV.out] at he
      subst he
      have sz3 : w2.heap.size ≤ w3.heap.size := Nat.le_trans (by first | exact Nat.le_refl _ | (simp; done) | (simp; omega)) (hb3.size)
      have hB1 := hB0.trans (hb3.mono hB0.size)
      clear hB0
      go_wp2_with fail
      with_reducible refine (sKeptWork_any B d l _ (hs.on4 hB1) dl.n4).mono ?_
      rintro e w4 ⟨he, hb4⟩
      rw [EV.out] at he
      subst he
      have sz4 : w3.heap.size ≤ w4.heap.size := Nat.le_trans (by first | exact Nat.le_refl _ | (simp; done) | (simp; omega)) (hb4.size)
      have hB2 := hB1.trans (hb4.mono hB1.size)
      clear hB1
      go_wp2_with fail
      with_reducible refine (sKeptWork_any B d l _ (hs.on4 hB2) dl.n4).mono ?_
      rintro e w5 ⟨he, hb5⟩
      rw [EV.out] at he
      subst he
      have sz5 : w4.heap.size ≤ w5.heap.size := Nat.le_trans (by first | exact Nat.le_refl _ | (simp; done) | (simp; omega)) (hb5.size)
      have hB3 := hB2.trans (hb5.mono hB2.size)
      clear hB2
      go_wp2
      go_ret
      exact ⟨by first | rfl | (simp; done) | (simp; omega), HB2.out.trans (hB3.mono HB2.out.size)⟩
    · skip
      obtain ⟨b1, b2⟩ := HL.out (HF.out (by omega))
      have B2 := hid b2
      clear b2
      have B1 := hid b1
      clear b1
      go_wp2_with fail
      with_reducible refine (iKeptWork_any B d l _ (hs.on4 hB0) dl.n4).mono ?_
      rintro e w3 ⟨he, hb3⟩
      rw [EV.out] at he
      subst he
      have sz3 : w2.heap.size ≤ w3.heap.size := Nat.le_trans (by first | exact Nat.le_refl _ | (simp; done) | (simp; omega)) (hb3.size)
      have hB4 := hB0.trans (hb3.mono hB0.size)
      clear hB0
      go_wp2_with fail
      with_reducible refine (sKeptWork_any B d l _ (hs.on4 hB4) dl.n4).mono ?_
      rintro e w4 ⟨he, hb4⟩
      rw [EV.out] at he
      subst he
      have sz4 : w3.heap.size ≤ w4.heap.size := Nat.le_trans (by first | exact Nat.le_refl _ | (simp; done) | (simp; omega)) (hb4.size)
      have hB5 := hB4.trans (hb4.mono hB4.size)
      clear hB4
      go_wp2_with fail
      go_loop [5, 6] (fun n i => ∃ j : Nat, j ≤ l.length ∧ i = .int .i64 j ∧ n = .int .i64 (ones (l.take j))) (fun _ i => l.length - (intOf i).toNat)
      case atStart => exact ⟨0, Nat.zero_le _, rfl, rfl⟩
      case round =>
        obtain ⟨j, hj, rfl, rfl⟩ := hrel
        by_cases hjl : j < l.length
        · skip
          have hji : (j : Int) < (l.length : Int) := by omega
          obtain ⟨b, o, rfl, hbl, hcl⟩ := (hs.on4 hB5).int hjl
          obtain ⟨s1, s2⟩ := ones_step hjl
          have hor := ones_range (l.take j)
          have htl : (l.take j).length ≤ 18 := by rw [List.length_take]; omega
          have HS1 := hid s1
          have HS2 := hid s2
          obtain ⟨x, hx⟩ : ∃ x, x = l[j] := ⟨_, rfl⟩
          rw [← hx] at hcl HS1 HS2
          clear hx s1 s2
          obtain ⟨Q, hQ⟩ : ∃ Q, Q = ones (l.take j) := ⟨_, rfl⟩
          have EQ : Hid (ones (l.take j) = Q) := hid hQ.symm
          rw [← hQ] at hor HS1 HS2
          rw [← hQ]
          clear hQ
          have hw1 : IntKind.i64.wrap (Q + 1) = Q + 1 := by rw [IntKind.wrap_i64]; omega
          by_cases hx1 : x = 1
          · skip
            have hxb : (x == 1) = true := by simp [hx1]
            have HT := hid (HS1.out hx1)
            clear hx1
            go_wp2
            go_round
            case rel => exact ⟨j + 1, by omega, by go_num, by rw [HT.out]⟩
            case measure => simp [intOf]; omega
          · skip
            have hxb : (x == 1) = false := beq_eq_false_iff_ne.2 hx1
            have HT := hid (HS2.out hx1)
            clear hx1
            go_wp2
            go_round
            case rel => exact ⟨j + 1, by omega, by go_num, by rw [HT.out]⟩
            case measure => simp [intOf]; omega
        · skip
          have hji : ¬ (j : Int) < (l.length : Int) := by omega
          rw [take_whole hjl]
          obtain ⟨Q, hQ⟩ : ∃ Q, Q = ones l := ⟨_, rfl⟩
          have EQ : Hid (ones l = Q) := hid hQ.symm
          rw [← hQ]
          have hvq : V ≤ Q := by rw [hQ]; exact B1.out
          clear hQ
          have hvb : decide (V ≤ Q) = true := by simpa using hvq
          by_cases hv0 : V = 0
          · skip
            have h0b : (V == 0) = true := by simp [hv0]
            have HV0 := hid hv0
            clear hv0
            go_wp2
            go_ret
            exact ⟨by first | rfl | (simp; done) | (simp; omega), HB2.out.trans (hB5.mono HB2.out.size)⟩
          · skip
            have h0b : (V == 0) = false := beq_eq_false_iff_ne.2 hv0
            have HM := hid (memB_three (B2.out (by omega)))
            clear hv0
            go_wp2_with fail
            with_reducible refine (lisIn_any B d l 3 _ (hs.on4 hB5) (Nat.le_trans dl.n4 (by decide))).mono ?_
            rintro e w' ⟨he, rfl⟩
            rw [HM.out] at he
            subst he
            go_wp2
            go_ret
            exact ⟨by first | rfl | (simp; done) | (simp; omega), HB2.out.trans (hB5.mono HB2.out.size)⟩
end Go.Proofs.Ythmpeahlddfpnab

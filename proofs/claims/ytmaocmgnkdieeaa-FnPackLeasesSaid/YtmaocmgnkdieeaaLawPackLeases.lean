/-
  The walk of the law FnPackLeases: at every code it returns true and changes nothing that was there. Conditions: none.
-/
import Derived.Test.YtmaocmgnkdieeaaSzN
import Derived.Test.YtmaocmgnkdieeaaLawLs
import Derived.BigQuiet
namespace Go.Proofs.Ytmaocmgnkdieeaa
open Go.RowKit Lse

set_option maxHeartbeats 8000000 in
set_option maxRecDepth 16384 in
theorem walkPackLeases (a : Option Addr) (len cap : Nat) (zs : List Int) (w : World) (hn : zs.length = len) (hc : len ≤ cap) (hcc : cap ≤ maxLen) (h : Sees w w.heap.size a (byts zs)) (hz : ∀ y ∈ zs, 0 ≤ y ∧ y ≤ 255) :
    Calls Try.prog 3 #[.slice a len cap] w fun e w' => e = .returned (.bool true) ∧ Below w.heap.size w w' := by
  have HE := hid hn
  have HC := hid hcc
  have HZ := hid hz
  clear hn hcc hz
  by_cases hbig : 1048576 < len
  · go_enter Try.func3, Try.ntmps3
    go_wp2
    go_ret
    exact ⟨rfl, Below.refl _ _⟩
  · go_enter Try.func3, Try.ntmps3
    go_wp2_with fail
    refine (drawPackLeases_any _ _ _ _ _ h HZ.out HE.out hc (by omega) HC.out).mono ?_
    rintro e w1 ⟨A, c, l, rfl, dl⟩
    have HLAW := hid (pack_law (l := l))
    have HFST := hid (pack_first (l := l))
    have HTW := hid (pack_twice (l := l))
    obtain ⟨K, hK⟩ : ∃ K, K = validB l := ⟨_, rfl⟩
    have EK : Hid (validB l = K) := hid hK.symm
    obtain ⟨V, hV⟩ : ∃ V, V = packE l := ⟨_, rfl⟩
    have EV : Hid (packE l = V) := hid hV.symm
    have HVn : Hid (V.length ≤ 13) := hid (by rw [hV]; have := packE_len l; have := dl.2.2.1; omega)
    have HMN := hid (show mostOf l ≤ l.length by have := most_le l; unfold mostOf; split <;> omega)
    obtain ⟨N, hN⟩ : ∃ N, N = mostOf l := ⟨_, rfl⟩
    have EN : Hid (mostOf l = N) := hid hN.symm
    rw [← hV, ← hN] at HLAW
    rw [← hV] at HTW HFST
    rw [← hN] at HMN
    clear hK hV hN
    go_wp2_with fail
    refine (iPackLeases_x A c l _ dl.sees dl.cap dl.n4).mono ?_
    rintro e w2 ⟨vw2, he, how2, hb⟩
    rw [EK.out] at he
    subst he
    rw [EV.out] at how2
    replace dl := dl.below hb
    clear hb
    obtain ⟨A2, c2, rfl, hc2, _, _⟩ := how2.form
    have HC2 := hid hc2
    clear hc2
    go_wp2_with fail
    refine (sPackLeases_x A c l _ dl.sees dl.n4).mono ?_
    rintro e w3 ⟨vw3, he, how3, hb⟩
    rw [EK.out] at he
    subst he
    rw [EV.out] at how3
    replace dl := dl.below hb
    replace how2 := how2.below hb
    clear hb
    obtain ⟨A3, c3, rfl, _, _, _⟩ := how3.form
    go_wp2_with fail
    refine (equalLeases_same rfl how2.sees how3.sees (Nat.le_trans HVn.out (by decide))).mono ?_
    rintro e w4 ⟨rfl, hb⟩
    replace dl := dl.below hb
    replace how2 := how2.below hb
    replace how3 := how3.below hb
    clear hb
    rcases K with _ | _
    · skip
      go_wp2_with fail
      refine (equalLeases_same rfl how2.sees how3.sees (Nat.le_trans HVn.out (by decide))).mono ?_
      rintro e w4 ⟨rfl, hb⟩
      replace dl := dl.below hb
      replace how2 := how2.below hb
      replace how3 := how3.below hb
      clear hb
      go_wp2
      go_ret
      exact ⟨by first | rfl | (simp; done) | (simp; omega), dl.bel⟩
    · obtain ⟨h1, h2, h3⟩ := HLAW.out EK.out
      have EN2 := hid h1
      have HVL := hid h2
      have HAT := hid h3
      have EV2 := hid (HTW.out EK.out).1
      clear h1 h2 h3 how3
      go_wp2_with fail
      refine (iMostLeased_any A c l _ dl.sees dl.cap dl.n4).mono ?_
      rintro e w2 ⟨he, hb⟩
      rw [EN.out] at he
      subst he
      replace dl := dl.below hb
      replace how2 := how2.below hb
      clear hb
      go_wp2_with fail
      go_loopw [9] (fun i wr => ∃ k : Nat, k ≤ l.length ∧ i = .int .i64 k ∧ DL w wr A c l ∧ OwnS 30 4 lcells wr w1.heap.size (.slice A2 V.length c2) V) (fun i _ => l.length - (intOf i).toNat)
      case atStart => exact ⟨0, Nat.zero_le _, rfl, dl, how2⟩
      case round =>
        clear dl how2
        obtain ⟨k, hk, rfl, dl, how2⟩ := hrel
        have hsV := how2.sees
        have hl13 := dl.2.2.1
        by_cases hlt : k < l.length
        · have hi : (k : Int) < (l.length : Int) := by omega
          have hk0 : (0 : Int) ≤ (k : Int) := by omega
          have hVl := HVL.out
          have hltV : k < V.length := by omega
          have hiV : (k : Int) < (V.length : Int) := by omega
          have hnV : decide (V.length ≤ k) = false := decide_eq_false (by omega)
          obtain ⟨a1, a2, a3, a4⟩ := HAT.out k hlt hltV
          obtain ⟨b, o, rfl, hbl, e0, e1, e2, e3⟩ := dl.sees.lease hlt
          obtain ⟨bV, oV, rfl, hbV, f0, f1, f2, f3⟩ := hsV.lease hltV
          obtain ⟨x, hx⟩ : ∃ x, x = l[k]'hlt := ⟨_, rfl⟩
          obtain ⟨y, hy⟩ : ∃ y, y = V[k]'hltV := ⟨_, rfl⟩
          rw [← hx] at e0 e1 e2 e3 a1 a2 a3
          rw [← hy] at f0 f1 f2 f3 a1 a2 a3 a4
          rw [a1] at f1
          rw [a2] at f2
          rw [a3] at f3
          have hcN : ¬ N ≤ y.c := by omega
          have hlt0 := hlt
          clear hx hy a1 a2 a3 a4 e0 hVl hlt hltV
          have HLT := hid hlt0
          clear hlt0
          go_wp2
          go_quiet (fail)
          go_wp2
          go_roundw
          case rel => exact ⟨k + 1, by have := HLT.out; omega, by go_num, dl.drewN _, how2.below (below_drewN (Below.refl _ _) _)⟩
          case measure => have := HLT.out; simp [intOf]; omega
        · have hi : ¬ (k : Int) < (l.length : Int) := by omega
          have hle : ((V.length : Int) == (l.length : Int)) = true := by rw [HVL.out]; simp
          clear hsV
          go_wp2_with fail
          refine (iValidLeases_any A2 c2 V _ how2.sees HC2.out (Nat.le_trans HVn.out (by decide))).mono ?_
          rintro e w7 ⟨he, hb⟩
          rw [EV2.out] at he
          subst he
          replace dl := dl.below hb
          replace how2 := how2.below hb
          clear hb
          go_wp2_with fail
          refine (iMostLeased_any A2 c2 V _ how2.sees HC2.out (Nat.le_trans HVn.out (by decide))).mono ?_
          rintro e w8 ⟨he, hb⟩
          rw [EN2.out] at he
          subst he
          replace dl := dl.below hb
          clear hb
          go_wp2
          go_ret
          exact ⟨by first | rfl | (simp; done) | (simp; omega), dl.bel⟩
end Go.Proofs.Ytmaocmgnkdieeaa

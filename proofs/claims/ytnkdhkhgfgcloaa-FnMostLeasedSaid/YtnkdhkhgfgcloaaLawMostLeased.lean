/-
  The walk of the law FnMostLeased: at every code it returns true and changes nothing that was there. Conditions: none.
-/
import Derived.Test.YtnkdhkhgfgcloaaSzG
import Derived.BigQuiet
namespace Go.Proofs.Ytnkdhkhgfgcloaa
open Go.RowKit Lse

set_option maxHeartbeats 4000000 in
theorem walkMostLeased (a : Option Addr) (len cap : Nat) (zs : List Int) (w : World) (hn : zs.length = len) (hc : len ≤ cap) (hcc : cap ≤ maxLen) (h : Sees w w.heap.size a (byts zs)) (hz : ∀ y ∈ zs, 0 ≤ y ∧ y ≤ 255) :
    Calls Try.prog 5 #[.slice a len cap] w fun e w' => e = .returned (.bool true) ∧ Below w.heap.size w w' := by
  have HE := hid hn
  have HC := hid hcc
  have HZ := hid hz
  clear hn hcc hz
  by_cases hbig : 1048576 < len
  · go_enter Try.func5, Try.ntmps5
    go_wp2
    go_ret
    exact ⟨rfl, Below.refl _ _⟩
  · go_enter Try.func5, Try.ntmps5
    go_wp2_with fail
    refine (drawMostLeased_any _ _ _ _ _ h HZ.out HE.out hc (by omega) HC.out).mono ?_
    rintro e w1 ⟨A, c, l, rfl, dl⟩
    have hl13 := dl.2.2.1
    have HNO := hid (most_none (l := l))
    have HVD := hid (most_valid (l := l))
    have HLE := hid (show mostOf l ≤ l.length by have := most_le l; unfold mostOf; split <;> omega)
    have HAT := hid (fun (hv : validB l = true) (i : Nat) (hi : i < l.length) => most_at hv hi)
    have HSO := hid (most_found (l := l))
    obtain ⟨V, hV⟩ : ∃ V, V = mostOf l := ⟨_, rfl⟩
    have E : Hid (mostOf l = V) := hid hV.symm
    rw [← hV] at HNO HVD HLE HAT HSO
    clear hV
    go_wp2_with fail
    refine (iMostLeased_any A c l _ dl.sees dl.cap dl.n4).mono ?_
    rintro e w2 ⟨he, hb⟩
    rw [E.out] at he
    subst he
    replace dl := dl.below hb
    clear hb
    go_wp2_with fail
    refine (sMostLeased_any A c l _ dl.sees dl.n4).mono ?_
    rintro e w2 ⟨he, hb⟩
    rw [E.out] at he
    subst he
    replace dl := dl.below hb
    clear hb
    by_cases hv0 : V < 1
    · rcases HNO.out hv0 with hn | ⟨hz, hl0⟩
      · skip
        go_wp2_with fail
        refine (sMostLeased_any A c l _ dl.sees dl.n4).mono ?_
        rintro e w2 ⟨he, hb⟩
        rw [E.out] at he
        subst he
        replace dl := dl.below hb
        clear hb
        go_wp2
        go_ret
        exact ⟨by simp, dl.bel⟩
      · have hlb : ((l.length : Int) == 0) = true := by simpa using hl0
        have HL0 := hid hl0
        have hnn : ¬ V < 0 := by omega
        have HZ0 := hid hz
        clear hl0 hz
        go_wp2_with fail
        refine (sMostLeased_any A c l _ dl.sees dl.n4).mono ?_
        rintro e w2 ⟨he, hb⟩
        rw [E.out] at he
        subst he
        replace dl := dl.below hb
        clear hb
        go_wp2
        go_ret
        exact ⟨by simp, dl.bel⟩
    · have HV := hid (HVD.out (by omega))
      have HV1 := hid (show 1 ≤ V by omega)
      have HL13 := hid hl13
      clear hl13 HNO HVD
      go_wp2
      go_loopw [5, 6] (fun s i wr => ∃ (k : Nat) (B : Bool), Hid (k ≤ l.length) ∧ i = .int .i64 k ∧ s = .bool B ∧ Hid ((∃ i, ∃ hi : i < l.length, i < k ∧ ((busy l l[i].f).length : Int) = V) → B = true) ∧ DL w wr A c l) (fun _ i _ => l.length - (intOf i).toNat)
      case atStart => exact ⟨0, false, hid (Nat.zero_le _), rfl, rfl, hid (fun ⟨_, _, h, _⟩ => absurd h (Nat.not_lt_zero _)), dl⟩
      case round =>
        clear dl
        obtain ⟨k, B, HK, rfl, rfl, HB, dl⟩ := hrel
        have hl13 := HL13.out
        by_cases hlt : k < l.length
        · have hi : (k : Int) < (l.length : Int) := by omega
          have hk0 : (0 : Int) ≤ (k : Int) := by omega
          obtain ⟨b, o, rfl, hbl, e0, e1, e2, e3⟩ := dl.sees.lease hlt
          have HAK := hid (HAT.out HV.out k hlt)
          obtain ⟨t, ht⟩ : ∃ t, t = l[k].f := ⟨_, rfl⟩
          obtain ⟨Q, hQ⟩ : ∃ Q, Q = busy l t := ⟨_, rfl⟩
          have HBN : Hid (∀ B2 : Bool, (B = true → B2 = true) → ((Q.length : Int) = V → B2 = true) → (∃ i, ∃ hi : i < l.length, i < k + 1 ∧ ((busy l l[i].f).length : Int) = V) → B2 = true) := hid (by
            intro B2 h1 h2 ⟨i, hi, hik, e⟩
            by_cases c : i = k
            · subst c; exact h2 (by rw [hQ, ht]; exact e)
            · exact h1 (HB.out ⟨i, hi, by omega, e⟩))
          rw [← ht] at e2 HAK
          rw [← hQ] at HAK
          have EQ : Hid (busy l t = Q) := hid hQ.symm
          have hQ6 : Q.length ≤ 6 := by rw [hQ]; exact busy_len l t
          clear ht hQ HB e0 e1 e3
          go_wp2_with fail
          refine (iBusyAt_any _ c l t _ dl.sees dl.cap dl.n4).mono ?_
          rintro e w2 ⟨v2, rfl, ho2, hb⟩
          rw [EQ.out] at ho2
          replace dl := dl.below hb
          clear hb
          obtain ⟨A2, c2, rfl, hs2⟩ := ho2.form
          clear ho2 hs2
          have hle : (Q.length : Int) ≤ V := HAK.out
          have hng : ¬ V < (Q.length : Int) := by omega
          clear hle
          rcases B with _ | _
          · by_cases hqv : (Q.length : Int) = V
            · have hb1 : ((Q.length : Int) == V) = true := beq_iff_eq.2 hqv
              clear hqv
              go_wp2
              go_roundw
              case rel => exact ⟨k + 1, true, hid (by omega), by go_num, rfl, hid (fun _ => rfl), dl⟩
              case measure => simp [intOf]; omega
            · have hb1 : ((Q.length : Int) == V) = false := beq_eq_false_iff_ne.2 hqv
              have HN2 := hid (HBN.out false (fun h => h) (fun h => absurd h hqv))
              clear hqv
              go_wp2
              go_roundw
              case rel => exact ⟨k + 1, false, hid (by omega), by go_num, rfl, HN2, dl⟩
              case measure => simp [intOf]; omega
          · go_wp2
            go_roundw
            case rel => exact ⟨k + 1, true, hid (by omega), by go_num, rfl, hid (fun _ => rfl), dl⟩
            case measure => simp [intOf]; omega
        · have hi : ¬ (k : Int) < (l.length : Int) := by omega
          have hkk : k = l.length := by have := HK.out; omega
          have hBt : B = true := HB.out (by rw [hkk]; exact HSO.out HV.out HV1.out)
          subst hBt
          clear hkk
          have hle : V ≤ (l.length : Int) := HLE.out
          go_wp2
          go_ret
          exact ⟨by simp; try omega, dl.bel⟩
end Go.Proofs.Ytnkdhkhgfgcloaa

/-
  The walk of the law FnTouchConn: at every code it returns true and changes nothing that was there. Conditions: none.
-/
import Derived.Test.YtlonmmkioaejmacAgGen
import Derived.Test.YtlonmmkioaejmacAgD
import Derived.Test.YtlonmmkioaejmacAgeMathC
import Derived.Test.YtlonmmkioaejmacLawAgE
import Derived.Test.YtlonmmkioaejmacLawFrame
import Derived.BigQuiet
import Derived.Deep.RegionHeldLaw
namespace Go.Proofs.Ytlonmmkioaejmac
open Go.RowKit Age

set_option maxHeartbeats 4000000 in
theorem walkTouchConn (a : Option Addr) (len cap : Nat) (zs : List Int) (w : World) (hn : zs.length = len) (hc : len ≤ cap) (hcc : cap ≤ maxLen) (h : Sees w w.heap.size a (byts zs)) (hz : ∀ y ∈ zs, 0 ≤ y ∧ y ≤ 255) :
    Calls Try.prog 6 #[.slice a len cap] w fun e w' => e = .returned (.bool true) ∧ Below w.heap.size w w' := by
  have HE := hid hn
  have HC := hid hcc
  have HZ := hid hz
  clear hn hcc hz
  by_cases hbig : 1048576 < len
  · go_enter Try.func6, Try.ntmps6
    go_wp2
    go_ret
    exact ⟨rfl, Below.refl _ _⟩
  · go_enter Try.func6, Try.ntmps6
    go_wp2_with fail
    refine (drawTouchConn_any _ _ _ _ _ h HZ.out HE.out hc (by omega) HC.out).mono ?_
    rintro e w1 ⟨A, c, l, q, now, rfl, dl⟩
    obtain ⟨K, hK⟩ : ∃ K, K = touchB l q now := ⟨_, rfl⟩
    have EK : Hid (touchB l q now = K) := hid hK.symm
    obtain ⟨V, hV⟩ : ∃ V, V = touchL l q now := ⟨_, rfl⟩
    have EV : Hid (touchL l q now = V) := hid hV.symm
    have HVn : Hid (V.length ≤ 7) := hid (by rw [hV]; have := touch_len l q now; have := dl.len; omega)
    clear hK hV
    go_wp2_with fail
    refine (iTouchConn_any A c l q now _ dl.sees (dl.n4 (by decide))).mono ?_
    rintro e w2 ⟨v2, he, ho2, hb⟩
    rw [EK.out] at he
    subst he
    rw [EV.out] at ho2
    replace dl := dl.below hb
    clear hb
    obtain ⟨A2, c2, rfl, _, _, _⟩ := ho2.form
    go_wp2_with fail
    refine (sTouchConn_any A c l q now _ dl.sees (dl.n4 (by decide))).mono ?_
    rintro e w3 ⟨v3, he, ho3, hb⟩
    rw [EK.out] at he
    subst he
    rw [EV.out] at ho3
    replace dl := dl.below hb
    replace ho2 := ho2.below hb
    clear hb
    obtain ⟨A3, c3, rfl, _, _, _⟩ := ho3.form
    go_wp2_with fail
    refine (equalAges_same rfl ho2.sees ho3.sees (Nat.le_trans HVn.out (by decide))).mono ?_
    rintro e w4 ⟨rfl, hb⟩
    replace dl := dl.below hb
    replace ho2 := ho2.below hb
    replace ho3 := ho3.below hb
    clear hb
    rcases K with _ | _
    · go_wp2_with fail
      refine (equalAges_same rfl ho2.sees ho3.sees (Nat.le_trans HVn.out (by decide))).mono ?_
      rintro e w5 ⟨rfl, hb⟩
      replace dl := dl.below hb
      go_wp2
      go_ret
      exact ⟨rfl, dl.bel⟩
    · obtain ⟨a1, a2, j, hqj, hj⟩ := touch_parts EK.out
      subst hqj
      obtain ⟨_, e⟩ := touch_at hj a1 a2
      have hVe : V = l.set j ⟨l[j].b, max l[j].u now⟩ := by rw [← EV.out, e]
      have HVl : Hid (V.length = l.length) := hid (by rw [hVe]; simp)
      have HVk : Hid (∀ k (h1 : k < V.length) (h2 : k < l.length), V[k] = if k = j then ⟨l[k].b, max l[k].u now⟩ else l[k]) := hid (by
        intro k h1 h2
        have e2 : ∀ (M : List Ag) (h : k < M.length), M = l.set j ⟨l[j].b, max l[j].u now⟩ → M[k] = if k = j then ⟨l[k].b, max l[k].u now⟩ else l[k] := by
          intro M h hM
          subst hM
          rw [List.getElem_set]
          by_cases hkj : k = j
          · subst hkj; simp
          · rw [if_neg (fun hh => hkj hh.symm), if_neg hkj]
        exact e2 V h1 hVe)
      have HVA : Hid (agesB V = true) := hid (by
        have h0 := touch_valid EK.out
        rwa [EV.out] at h0)
      clear a1 a2 e hVe ho3
      go_wp2
      go_loopw [10] (fun i wr => ∃ k : Nat, k ≤ l.length ∧ i = .int .i64 k ∧ DA w wr A c l ∧ ∃ B, OwnA wr B (.slice A2 V.length c2) V) (fun i _ => l.length - (intOf i).toNat)
      case atStart => exact ⟨0, Nat.zero_le _, rfl, dl, _, ho2⟩
      case round =>
        clear dl ho2
        obtain ⟨k, hk, rfl, dl, B, ho2⟩ := hrel
        have hl7 := dl.len
        by_cases hlt : k < l.length
        · have hi : (k : Int) < (l.length : Int) := by omega
          have hkv : k < V.length := by rw [HVl.out]; exact hlt
          have hiv : ¬ (V.length : Int) ≤ (k : Int) := by omega
          have hiv2 : (k : Int) < (V.length : Int) := by omega
          obtain ⟨b, o, rfl, hbl, e0, e1⟩ := dl.sees.age hlt
          obtain ⟨b2, o2, rfl, hbl2, f0, f1⟩ := ho2.sees.age hkv
          have hvk := HVk.out k hkv hlt
          rw [hvk] at f0 f1
          obtain ⟨x, hx⟩ : ∃ x, x = l[k] := ⟨_, rfl⟩
          rw [← hx] at f0 f1 e0 e1
          clear hx hvk
          have hne : ¬ wr.heap.size = b2 := by omega
          have hne2 : ¬ b2 = wr.heap.size := by omega
          by_cases hkj : k = j
          · rw [if_pos hkj] at f0 f1
            have hkji : (k : Int) = (j : Int) := by omega
            have hkjb : ((k : Int) == (j : Int)) = true := beq_iff_eq.2 hkji
            clear hkj hkji
            simp only [] at f0 f1
            rcases Int.lt_trichotomy x.u now with hun | hun | hun
            · have hmx : max x.u now = now := by omega
              rw [hmx] at f1
              clear hmx
              go_wp2
              go_quiet (fail)
              go_wp2
              go_roundw
              case rel => exact ⟨k + 1, by omega, by go_num, (dl.below ((Below.refl _ _).alloc (Nat.le_refl _) _)).drewN _, B, (ho2.below ((Below.refl _ _).alloc (Nat.le_refl _) _)).drewN' _⟩
              case measure => simp [intOf]; omega
            · have hmx : max x.u now = now := by omega
              rw [hmx] at f1
              rw [hun] at e1
              clear hmx hun
              go_wp2
              go_quiet (fail)
              go_wp2
              go_roundw
              case rel => exact ⟨k + 1, by omega, by go_num, (dl.below ((Below.refl _ _).alloc (Nat.le_refl _) _)).drewN _, B, (ho2.below ((Below.refl _ _).alloc (Nat.le_refl _) _)).drewN' _⟩
              case measure => simp [intOf]; omega
            · have hmx : max x.u now = x.u := by omega
              rw [hmx] at f1
              clear hmx
              go_wp2
              go_quiet (fail)
              go_wp2
              go_roundw
              case rel => exact ⟨k + 1, by omega, by go_num, (dl.below ((Below.refl _ _).alloc (Nat.le_refl _) _)).drewN _, B, (ho2.below ((Below.refl _ _).alloc (Nat.le_refl _) _)).drewN' _⟩
              case measure => simp [intOf]; omega
          · rw [if_neg hkj] at f0 f1
            have hkjb : ((k : Int) == (j : Int)) = false := beq_eq_false_iff_ne.2 (by omega)
            go_wp2
            go_quiet (fail)
            go_wp2
            go_roundw
            case rel => exact ⟨k + 1, by omega, by go_num, (dl.below ((Below.refl _ _).alloc (Nat.le_refl _) _)).drewN _, B, (ho2.below ((Below.refl _ _).alloc (Nat.le_refl _) _)).drewN' _⟩
            case measure => simp [intOf]; omega
        · have hi : ¬ (k : Int) < (l.length : Int) := by omega
          go_wp2_with fail
          refine (iValidAges_any A2 c2 V _ ho2.sees (Nat.le_trans HVn.out (by decide))).mono ?_
          rintro e w5 ⟨he, hb⟩
          rw [HVA.out] at he
          subst he
          replace dl := dl.below hb
          go_wp2
          go_ret
          exact ⟨rfl, dl.bel⟩
end Go.Proofs.Ytlonmmkioaejmac

/-
  What the model's listText answers. Condition: the list lies in memory, its numbers are from 0 to 9999.
-/
import Derived.Test.YtehdbllpiokbnaaTxtD
import Derived.Test.YtehdbllpiokbnaaTxtF
namespace Go.Proofs.Ytehdbllpiokbnaa
open Go.RowKit Txt

set_option maxHeartbeats 4000000 in
set_option maxRecDepth 16384 in
theorem listText_any (A : Option Addr) (c : Nat) (l : List Int) (w : World) (h : Sees w w.heap.size A (ints l)) (hn : l.length ≤ 4194304) (hx : ∀ x ∈ l, 0 ≤ x ∧ x ≤ 9999) :
    Calls Try.prog 68 #[.slice A l.length c] w fun e w' => e = .returned (tx (nums l)) ∧ Below w.heap.size w w' := by
  have HN := hid hn
  have HX := hid hx
  have HTL := hid (fun k => jn_len (numTs_len hx) k)
  clear hn hx
  go_enter Try.func68, Try.ntmps68
  go_wp2
  go_loopw [3, 4] (fun v i wr => ∃ (k : Nat) (T : List UInt8), k ≤ l.length ∧ i = .int .i64 k ∧ v = .string (ByteArray.mk T.toArray) ∧ Hid (jn (numTs l) k = T) ∧ Below w.heap.size w wr) (fun _ i _ => l.length - (intOf i).toNat)
  case atStart => exact ⟨0, [], Nat.zero_le _, rfl, rfl, hid rfl, Below.refl _ _⟩
  case round =>
    obtain ⟨k, T, hk, rfl, rfl, HT, hb⟩ := hrel
    have hn := HN.out
    by_cases hlt : k < l.length
    · have hi : (k : Int) < (l.length : Int) := by omega
      have hi0 : (0 : Int) ≤ (k : Int) := by omega
      obtain ⟨b, o, rfl, hbl, e0⟩ := (h.below hb).int hlt
      have hr := HX.out _ (List.getElem_mem hlt)
      have HAT := hid (numTs_at hlt)
      obtain ⟨x, hx⟩ : ∃ x, x = l[k] := ⟨_, rfl⟩
      rw [← hx] at e0 HAT hr
      obtain ⟨a, rfl⟩ : ∃ a : Nat, x = a := ⟨x.toNat, by omega⟩
      rw [Int.toNat_natCast] at HAT
      have ha9 : a ≤ 1000000000 := by omega
      have la := dec_len 3 a (by omega)
      obtain ⟨D1, hD1⟩ : ∃ D, D = dec a := ⟨_, rfl⟩
      have H1 := hid hD1
      rw [← hD1] at la HAT
      clear hx hr hD1
      have hT := HTL.out k
      rw [HT.out] at hT
      have hTl : T.length ≤ 20971520 := by omega
      have hz := hb.size
      rcases Nat.eq_zero_or_pos k with hk0 | hk0
      · have HS := hid (show jn (numTs l) (k + 1) = T ++ D1 by rw [← HT.out, hk0, jn_one, jn_zero, List.nil_append, ← HAT.out, hk0])
        have hkg : ¬ (k : Int) > 0 := by omega
        have hs1 : ¬ T.length + D1.length > 9223372036854775807 := by omega
        clear hk0 hT
        go_wp2_with fail
        with_reducible refine (decimal_any a _ ha9).mono ?_
        rintro e w2 ⟨he, hb2⟩
        rw [← H1.out] at he
        subst he
        have hbb := hb.trans (hb2.mono hz)
        unfold tx
        go_wp2
        go_roundw
        case rel => exact ⟨k + 1, T ++ D1, by omega, by go_num, by rw [tx_app], HS, hbb⟩
        case measure => simp [intOf]; omega
      · have HS := hid (show jn (numTs l) (k + 1) = T ++ [44] ++ D1 by rw [jn_succ _ (by omega), HT.out, HAT.out])
        have hkg : (k : Int) > 0 := by omega
        have hs0 : ¬ T.length + 1 > 9223372036854775807 := by omega
        have hs1 : ¬ T.length + 1 + D1.length > 9223372036854775807 := by omega
        clear hk0 hT
        go_wp2_with fail
        with_reducible refine (decimal_any a _ ha9).mono ?_
        rintro e w2 ⟨he, hb2⟩
        rw [← H1.out] at he
        subst he
        have hbb := hb.trans (hb2.mono hz)
        unfold tx
        go_wp2
        go_roundw
        case rel => exact ⟨k + 1, T ++ [44] ++ D1, by omega, by go_num, by rw [← tx_app, ← tx_app], HS, hbb⟩
        case measure => simp [intOf]; omega
    · have hi : ¬ (k : Int) < (l.length : Int) := by omega
      have hke : k = l.length := by omega
      subst hke
      have E := hid (show nums l = T from HT.out)
      go_wp2
      go_ret
      exact ⟨by rw [E.out]; rfl, hb⟩

end Go.Proofs.Ytehdbllpiokbnaa

/-
  What the program's joinTexts answers. Condition: the texts lie in memory.
-/
import Derived.Test.YtehdbllpiokbnabTxtB
import Derived.Test.YtehdbllpiokbnabStrip
import Derived.Test.YtehdbllpiokbnabApp
import Derived.Test.YtehdbllpiokbnabOwnI

namespace Go.Proofs.Ytehdbllpiokbnab
open Go.RowKit Txt

theorem tx_app (a b : List UInt8) : (ByteArray.mk a.toArray ++ ByteArray.mk b.toArray) = ByteArray.mk (a ++ b).toArray := ByteArray.mk_append_mk a b
/-- Texts in memory. -/
def tcell (x : List UInt8) : List Value := [tx x]
theorem tcell_ln : ∀ x, (tcell x).length = 1 := fun _ => rfl
theorem strInfo : (Try.prog.info? 9).map (fun i => (i.zero, i.size, i.bytes)) = some (some (.string ⟨#[]⟩), 1, 16) := by kernel_rfl
set_option maxHeartbeats 2000000 in
theorem joinTexts_any (A : Option Addr) (c m : Nat) (ls : List (List UInt8)) (w : World) (h : Sees w w.heap.size A (strip tcell ls)) (hn : ls.length ≤ 4194304) (hm : ∀ l ∈ ls, l.length ≤ m) (hm2 : m ≤ 1000) :
    Calls Try.prog 47 #[.slice A ls.length c] w fun e w' => e = .returned (tx (jn ls ls.length)) ∧ Below w.heap.size w w' := by
  have HN := hid hn
  have HL := hid (fun k => jn_len hm k)
  have HM := hid hm
  clear hn hm
  go_enter Try.func47, Try.ntmps47
  go_wp2
  go_loopw [3, 8] (fun v i wr => ∃ (k : Nat) (T : List UInt8), k ≤ ls.length ∧ i = .int .i64 k ∧ v = .string (ByteArray.mk T.toArray) ∧ Hid (jn ls k = T) ∧ Below w.heap.size w wr) (fun _ i _ => ls.length - (intOf i).toNat)
  case atStart => exact ⟨0, [], Nat.zero_le _, rfl, rfl, hid rfl, Below.refl _ _⟩
  case round =>
    obtain ⟨k, T, hk, rfl, rfl, HT, hb⟩ := hrel
    have hn := HN.out
    by_cases hlt : k < ls.length
    · have hi : (k : Int) < (ls.length : Int) := by omega
      obtain ⟨b, o, rfl, hbl, e0⟩ := Sees.elem (f := tcell) (s := 1) tcell_ln (by decide) (h.below hb) hlt
      have e0 := e0 0 (tx ls[k]) rfl
      rw [Nat.mul_one, Nat.add_zero] at e0
      have hz := hb.size
      have hxl := HM.out _ (List.getElem_mem hlt)
      have hT := HL.out k
      rw [HT.out] at hT
      have HG := hid (show ls.getD k [] = ls[k] by simp [List.getD_eq_getElem?_getD, hlt])
      obtain ⟨X, hX⟩ : ∃ X, X = ls[k] := ⟨_, rfl⟩
      rw [← hX] at e0 hxl HG
      unfold tx at e0
      have hTl : T.length ≤ 4198604304 := Nat.le_trans hT (Nat.le_trans (Nat.mul_le_mul (show m + 1 ≤ 1001 by omega) hk) (by omega))
      clear hX hT
      by_cases hk0 : k = 0
      · have HS := hid (show jn ls (k + 1) = T ++ X by rw [← HT.out, hk0, jn_one, jn_zero, List.nil_append, ← HG.out, hk0])
        have hkg : ¬ (k : Int) > 0 := by omega
        have hs : ¬ T.length + X.length > 9223372036854775807 := by omega
        clear hk0
        go_wp2
        go_roundw
        case rel => exact ⟨k + 1, T ++ X, by omega, by go_num, by rw [ByteArray.mk_append_mk], HS, hb⟩
        case measure => simp [intOf]; omega
      · have HS := hid (show jn ls (k + 1) = T ++ [44] ++ X by rw [jn_succ ls hk0, HT.out, HG.out])
        have hkg : (k : Int) > 0 := by omega
        have hs : ¬ T.length + 1 > 9223372036854775807 := by omega
        have hs2 : ¬ T.length + 1 + X.length > 9223372036854775807 := by omega
        clear hk0
        go_wp2
        go_roundw
        case rel => exact ⟨k + 1, T ++ [44] ++ X, by omega, by go_num, by rw [← ByteArray.mk_append_mk, ← ByteArray.mk_append_mk], HS, hb⟩
        case measure => simp [intOf]; omega
    · have hi : ¬ (k : Int) < (ls.length : Int) := by omega
      have hke : k = ls.length := by omega
      subst hke
      go_wp2
      go_ret
      exact ⟨by rw [HT.out]; rfl, hb⟩
end Go.Proofs.Ytehdbllpiokbnab

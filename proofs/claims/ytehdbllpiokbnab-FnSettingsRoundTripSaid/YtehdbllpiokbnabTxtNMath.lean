/-
  Plain facts on the number of signs in a text. No condition; nothing of the program's text is used here.
-/
import Derived.Test.YtehdbllpiokbnabTxtSMath

namespace Go.Proofs.Ytehdbllpiokbnab
open Txt

theorem cnt_free {c : UInt8} {l : List UInt8} (h : c ∉ l) : l.count c = 0 := List.count_eq_zero.2 h
theorem cnt_jn {c : UInt8} (hc : c ≠ 44) {m : Nat} {ls : List (List UInt8)} (h : ∀ t ∈ ls, t.count c = m) : ∀ k, k ≤ ls.length → (jn ls k).count c = m * k
  | 0, _ => by simp [jn]
  | k + 1, hk => by
    have ih := cnt_jn hc h k (by omega)
    have hg : (ls.getD k []).count c = m := by
      rw [List.getD_eq_getElem?_getD, List.getElem?_eq_getElem (by omega)]
      exact h _ (List.getElem_mem (by omega))
    have h44 : ([44] : List UInt8).count c = 0 := cnt_free (by simpa using hc)
    by_cases h0 : k = 0
    · subst h0; rw [jn_one, hg]; omega
    · rw [jn_succ _ h0, List.count_append, List.count_append, ih, h44, hg, Nat.mul_succ]; omega
theorem cnt_succ {T : List UInt8} {k : Nat} (hk : k < T.length) (c : UInt8) : (T.take (k + 1)).count c = (T.take k).count c + (if T[k] = c then 1 else 0) := by
  rw [List.take_succ_eq_append_getElem hk, List.count_append, List.count_singleton]
  simp
theorem cnt_le (T : List UInt8) (k : Nat) (c : UInt8) : (T.take k).count c ≤ T.length := Nat.le_trans List.count_le_length (by rw [List.length_take]; omega)
theorem cnt_yes {T : List UInt8} {k : Nat} (hk : k < T.length) {c : UInt8} (h : T[k] = c) : (T.take (k + 1)).count c = (T.take k).count c + 1 := by rw [cnt_succ hk, if_pos h]
theorem cnt_no {T : List UInt8} {k : Nat} (hk : k < T.length) {c : UInt8} (h : T[k] ≠ c) : (T.take (k + 1)).count c = (T.take k).count c := by rw [cnt_succ hk, if_neg h]; omega
theorem byte_eq {x c : UInt8} {cz : Int} (hc : cz = (c.toNat : Int)) (h : x = c) : ((x.toNat : Int) == cz) = true := by rw [h, hc]; simp
theorem byte_ne {x c : UInt8} {cz : Int} (hc : cz = (c.toNat : Int)) (h : x ≠ c) : ((x.toNat : Int) == cz) = false := by
  rw [hc]
  simp only [beq_eq_false_iff_ne, ne_eq]
  intro e
  exact h (UInt8.toNat_inj.1 (by omega))
theorem cnt_comma {ls : List (List UInt8)} (h : ∀ t ∈ ls, (44 : UInt8) ∉ t) : ∀ k, k < ls.length → (jn ls (k + 1)).count 44 = k
  | 0, hk => by
    have hg : (44 : UInt8) ∉ ls.getD 0 [] := by
      rw [List.getD_eq_getElem?_getD, List.getElem?_eq_getElem (by omega)]
      exact h _ (List.getElem_mem (by omega))
    rw [jn_one, cnt_free hg]
  | k + 1, hk => by
    have hg : (44 : UInt8) ∉ ls.getD (k + 1) [] := by
      rw [List.getD_eq_getElem?_getD, List.getElem?_eq_getElem (by omega)]
      exact h _ (List.getElem_mem (by omega))
    have h1 : ([44] : List UInt8).count 44 = 1 := by decide
    rw [jn_succ _ (by omega), List.count_append, List.count_append, cnt_comma h k (by omega), cnt_free hg, h1]
end Go.Proofs.Ytehdbllpiokbnab

/-
  Words for the walks of the drawn laws on texts of settings: signs are counted; a text that is written is read again. No condition.
-/
import Derived.Test.YtehdbllpiokbnabLawSt
import Derived.Test.YtehdbllpiokbnabTxtNMath
import Derived.Test.YtehdbllpiokbnabTxtW
import Derived.Test.YtehdbllpiokbnabTxtN
import Derived.Test.YtehdbllpiokbnabTxtS

namespace Go.Proofs.Ytehdbllpiokbnab
open Go.RowKit Txt Stt

/-- Nothing that was there has changed. -/
def DS (w w' : World) : Prop := Below w.heap.size w w'
theorem DS.below {w w' w'' : World} (h : DS w w') (hb : Below w'.heap.size w' w'') : DS w w'' := Below.trans h (hb.mono (Below.size h))
theorem DS.bel {w w' : World} (h : DS w w') : Below w.heap.size w w' := h
theorem fmt_stT {l : List Stg} (h : setsB l = true) : fmtS l = jn (l.map stT) l.length := fmtS_yes h
theorem sfmt_back {l : List Stg} (h : setsB l = true) : prsS (fmtS l) = l ∧ prsSB (fmtS l) = true := by
  rw [fmt_stT h]
  exact ⟨(prsS_back h).2, (prsS_back h).1⟩
theorem sfmt_fore {S : List UInt8} (h : prsSB S = true) : fmtS (prsS S) = S ∧ setsB (prsS S) = true := by
  obtain ⟨e, hk⟩ := prsS_fore h
  exact ⟨by rw [fmt_stT hk, e], hk⟩
theorem sfmt_ok {l : List Stg} (h : fmtS l ≠ []) : setsB l = true ∧ l ≠ [] := by
  rcases hk : setsB l with _ | _
  · exact absurd (fmtS_no hk) h
  · refine ⟨rfl, ?_⟩
    rintro rfl
    exact h rfl
theorem sfmt_nil {l : List Stg} (h : setsB l = true) (e : fmtS l = []) : l = [] := by
  have := (sfmt_back h).1
  rw [e] at this
  exact this.symm
theorem prsS_small (S : List UInt8) : (prsS S).length ≤ 10 := by
  rcases h : setsB (setL S) with _ | _
  · rw [prsS_no h]; simp
  · rw [prsS_yes h]; exact sets_small h
theorem cnt_signs {l : List Stg} (h : setsB l = true) : (fmtS l).count 61 = l.length := by
  rw [fmt_stT h, cnt_jn (by decide) (m := 1) (ls := l.map stT) (fun t ht => ?_) l.length (by simp)]
  · omega
  · obtain ⟨x, _, rfl⟩ := List.mem_map.1 ht
    have h1 : ([61] : List UInt8).count 61 = 1 := by decide
    unfold stT
    rw [List.count_append, List.count_append, cnt_free (dec_free equal_no _), cnt_free (dec_free equal_no _), h1]
theorem cnt_commas {l : List Stg} (h : setsB l = true) (h0 : l ≠ []) : (((fmtS l).count 44 : Nat) : Int) = (l.length : Int) - 1 := by
  obtain ⟨k, hk⟩ : ∃ k, l.length = k + 1 := ⟨l.length - 1, by have := List.length_pos_iff.2 h0; omega⟩
  rw [fmt_stT h, hk, cnt_comma (ls := l.map stT) (fun t ht => ?_) k (by rw [List.length_map]; omega)]
  · omega
  · obtain ⟨x, _, rfl⟩ := List.mem_map.1 ht
    exact stT_free comma_no (by decide) x
end Go.Proofs.Ytehdbllpiokbnab

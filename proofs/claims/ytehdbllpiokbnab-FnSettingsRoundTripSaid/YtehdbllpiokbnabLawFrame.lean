/-
  What the walks of the laws over drawn codes are told of the code. No condition.
-/
import Derived.Test.YtehdbllpiokbnabReadB

namespace Go.Proofs.Ytehdbllpiokbnab
open Go.RowKit

theorem code_sees {w : World} {a : Option Addr} {len cap : Nat} {zs : List Int}
    (h : (a = none ∧ len = 0 ∧ cap = 0 ∧ zs = []) ∨ ∃ x, a = some x ∧ len ≤ cap ∧ cap ≤ maxLen ∧ zs.length = cap ∧ (∀ i, i < zs.length → w.cell? (x.add i) = some (.int .u8 (zs.getD i 0))) ∧ ∀ n ∈ zs, (Lit.int .u8 n).wf = true) :
    ∃ ys : List Int, ys.length = len ∧ len ≤ cap ∧ cap ≤ maxLen ∧ Sees w w.heap.size a (byts ys) ∧ ∀ y ∈ ys, 0 ≤ y ∧ y ≤ 255 := by
  rcases h with ⟨rfl, rfl, rfl, rfl⟩ | ⟨x, rfl, h1, h2, h3, h4, h5⟩
  · exact ⟨[], rfl, by omega, by unfold maxLen; omega, fun h => absurd rfl h, by simp⟩
  · refine ⟨zs.take len, by rw [List.length_take]; omega, h1, h2, ?_, ?_⟩
    · intro hne
      have hl : 0 < zs.length := by
        rcases Nat.eq_zero_or_pos zs.length with e | e
        · rw [List.eq_nil_of_length_eq_zero e] at hne; simp [byts] at hne
        · exact e
      have hc := h4 0 hl
      obtain ⟨b, o, spot⟩ := x
      have hspot : spot = none := by simpa [Addr.add] using World.cell?_spot hc
      subst hspot
      refine ⟨b, o, rfl, ?_, ?_⟩
      · have := World.block_lt_of_cell? w _ hc
        simpa [Addr.add] using this
      · intro j u hu
        simp only [byts, List.map_take, List.getElem?_take] at hu
        split at hu
        · have hj : j < zs.length := by
            rcases Nat.lt_or_ge j zs.length with e | e
            · exact e
            · simp [List.getElem?_eq_none e] at hu
          have := h4 j hj
          have e : (zs.map (Value.int .u8))[j]? = some (.int .u8 zs[j]) := by simp [hj]
          rw [e] at hu
          injection hu with hu
          subst hu
          have hadd : (⟨b, o, none⟩ : Addr).add j = ⟨b, o + j, none⟩ := by unfold Addr.add; split <;> simp_all
          rw [hadd] at this
          simpa [hj] using this
        · cases hu
    · intro y hy
      have := h5 y (List.mem_of_mem_take hy)
      simp [Lit.wf, IntKind.min, IntKind.max, IntKind.signed, IntKind.bits] at this
      omega
end Go.Proofs.Ytehdbllpiokbnab

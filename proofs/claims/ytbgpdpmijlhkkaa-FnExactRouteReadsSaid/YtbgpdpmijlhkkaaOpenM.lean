/-
  A list of structs of numbers and truth values that comes in as an argument: it is in memory, below all that is made later. No condition.
-/
import Derived.Test.YtbgpdpmijlhkkaaOpen
import Derived.ChangeArms
namespace Go.Proofs.Ytbgpdpmijlhkkaa
open Go.RowKit Go.ChangeShapes Go.WideShapes Go.Deep

section
variable {H : Type} {enc : TypeId × Value → H} {P : Program} {w : World} {base : Nat} {spare : Nat → Bool} {held : Bool}
theorem open_mixed {α : Type} {f : α → List Value} {s : Nat} (ks : Nat → Bool) (tys : List TypeId) (mk : (Nat → Int) → (Nat → Bool) → α) (hs0 : 0 < s) (hfl : ∀ x, (f x).length = s) (hfm : ∀ (g : Nat → Int) (gb : Nat → Bool) (j : Nat), j < s → (f (mk g gb))[j]? = some (if ks j = true then .bool (gb j) else .int .i64 (g j)))
    {t e : TypeId} {fs : Array Field} {fuel : Nat} {cs : List Value} {x : DataW H × List MemPlace} (ht : P.underlying t = some (.slice e)) (he : P.underlying e = some (.struct fs))
    (hs : fs.size = s) (hone : oneCellFields P fs = true) (hC : P.cellsOf e = s) (hI : ∀ j, j < s → if ks j = true then P.underlying (tys.getD j 0) = some .bool else P.underlying (tys.getD j 0) = some (.int .i64)) (hall : fs.toList.map Field.type = tys) (h : DataW.trod enc P w base spare held fuel t cs = some x) :
    ∃ (A : Option Addr) (c : Nat) (l : List α), cs = [.slice A l.length c] ∧ l.length ≤ c ∧ c ≤ maxLen ∧ Sees w w.heap.size A (strip f l) := by
  rcases open_slice ht h with ⟨rfl, _⟩ | ⟨a, len, cap, m, n, D, Pl, rfl, hb, hl, hm, hmm, hx, hi⟩
  · exact ⟨none, 0, [], rfl, Nat.le_refl _, Nat.zero_le _, Sees.nil⟩
  · have cell : ∀ i, i < len → ∀ j, j < s → ∃ (v : Int) (vb : Bool), w.cell? (a.add (i * s + j)) = some (if ks j = true then .bool vb else .int .i64 v) := by
      intro i hil j hj
      obtain ⟨cs', hc, ht'⟩ := hi i (by rw [hmm]; split <;> omega)
      rw [hC] at hc
      obtain ⟨_, hcl, hat⟩ := World.cells?_some hc
      obtain ⟨ys, n', _, _, _, hyl, hf⟩ := DataW.trod_struct he ht'
      have hjf : j < fs.size := by omega
      have hfd : fs[j]? = some fs[j] := Array.getElem?_eq_getElem hjf
      obtain ⟨ho, hk⟩ := hone_of hone j _ hfd
      have h1 := hf j _ hfd
      rw [ho, hk] at h1
      have hjc : j < cs'.length := by omega
      have e1 : (cs'.drop j).take 1 = [cs'[j]] := by rw [List.drop_eq_getElem_cons hjc]; rfl
      have hys : ys[j]? = some (ys[j]'(by omega)) := List.getElem?_eq_getElem (by omega)
      rw [e1, hys] at h1
      have hty : fs[j].type = tys.getD j 0 := by
        subst hall
        rw [List.getD_eq_getElem?_getD, List.getElem?_map, List.getElem?_eq_getElem (by simpa using hjf)]
        simp
      rw [hty] at h1
      have hII := hI j hj
      have h2 := hat j hj
      rw [Go.Deep.add_add] at h2
      by_cases hkj : ks j = true
      · rw [if_pos hkj] at hII
        obtain ⟨v, e2, _⟩ := DataW.trod_bool hII h1
        injection e2 with e2 _
        refine ⟨0, v, ?_⟩
        rw [h2, List.getElem?_eq_getElem hjc, e2, if_pos hkj]
      · rw [if_neg hkj] at hII
        obtain ⟨v, e2, _⟩ := DataW.trod_int hII h1
        injection e2 with e2 _
        refine ⟨v, false, ?_⟩
        rw [h2, List.getElem?_eq_getElem hjc, e2, if_neg hkj]
    obtain ⟨V, U, hV⟩ : ∃ (V : Nat → Nat → Int) (U : Nat → Nat → Bool), ∀ i, i < len → ∀ j, j < s → w.cell? (a.add (i * s + j)) = some (if ks j = true then .bool (U i j) else .int .i64 (V i j)) :=
      ⟨fun i j => if h : i < len ∧ j < s then (cell i h.1 j h.2).choose else 0, fun i j => if h : i < len ∧ j < s then (cell i h.1 j h.2).choose_spec.choose else false, fun i hi' j hj => by
        have h0 : i < len ∧ j < s := ⟨hi', hj⟩
        simp only [h0, and_self, dite_true]
        exact (cell i hi' j hj).choose_spec.choose_spec⟩
    refine ⟨some a, cap, (List.range len).map fun i => mk (V i) (U i), by simp, by simpa using hl, hm, sees_of_cells fun q u hu => ?_⟩
    have hq : q < len * s := by
      have h0 := strip_len hfl ((List.range len).map fun i => mk (V i) (U i))
      rw [List.length_map, List.length_range] at h0
      rcases Nat.lt_or_ge q (len * s) with h5 | h5
      · exact h5
      · rw [List.getElem?_eq_none (by omega)] at hu; cases hu
    have h1 : q = q / s * s + q % s := by rw [Nat.mul_comm]; exact (Nat.div_add_mod q s).symm
    have h2 : q / s < len := Nat.div_lt_of_lt_mul (by rw [Nat.mul_comm]; exact hq)
    have h3 : q % s < s := Nat.mod_lt _ hs0
    rw [h1, strip_at hfl (k := q / s) (by simpa using h2) h3] at hu
    simp only [List.getElem_map, List.getElem_range, hfm _ _ _ h3] at hu
    injection hu with hu
    rw [← hu]
    have := hV (q / s) h2 (q % s) h3
    rwa [← h1] at this
end
end Go.Proofs.Ytbgpdpmijlhkkaa

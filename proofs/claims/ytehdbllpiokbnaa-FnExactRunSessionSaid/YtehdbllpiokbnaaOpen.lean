/-
  A list of structs of numbers (and a list of numbers) that comes in as an argument: it is in memory, below all that is made later. No condition.
-/
import Derived.Test.YtehdbllpiokbnaaStrip
import Derived.Deep.Slices
import Derived.Deep.Fields
import Derived.ChangeSame
import Derived.OpenShut

namespace Go.Proofs.Ytehdbllpiokbnaa
open Go.RowKit Go.ChangeShapes Go.WideShapes Go.Deep

section
variable {H : Type} {enc : TypeId × Value → H} {P : Program} {w : World} {base : Nat} {spare : Nat → Bool} {held : Bool}
/-- What lies from an address on, cell by cell, is seen. -/
theorem sees_of_cells {w : World} {a : Addr} {xs : List Value} (hc : ∀ i u, xs[i]? = some u → w.cell? (a.add i) = some u) : Sees w w.heap.size (some a) xs := by
  intro hne
  obtain ⟨u0, h0⟩ : ∃ u, xs[0]? = some u := by
    cases xs with
    | nil => exact absurd rfl hne
    | cons x xs => exact ⟨x, rfl⟩
  have hb := hc 0 u0 h0
  obtain ⟨b, o, spot⟩ := a
  have hspot : spot = none := by simpa [Addr.add] using World.cell?_spot hb
  subst hspot
  refine ⟨b, o, rfl, ?_, ?_⟩
  · have := World.block_lt_of_cell? w _ hb
    simpa [Addr.add] using this
  · intro j u hu
    have hadd : (⟨b, o, none⟩ : Addr).add j = ⟨b, o + j, none⟩ := by unfold Addr.add; split <;> simp_all
    rw [← hadd]
    exact hc j u hu
theorem open_strip {α : Type} {f : α → List Value} {s : Nat} (mk : (Nat → Int) → α) (hs0 : 0 < s) (hfl : ∀ x, (f x).length = s) (hfm : ∀ (g : Nat → Int) (j : Nat), j < s → (f (mk g))[j]? = some (.int .i64 (g j)))
    {t e I : TypeId} {fs : Array Field} {fuel : Nat} {cs : List Value} {x : DataW H × List MemPlace} (ht : P.underlying t = some (.slice e)) (he : P.underlying e = some (.struct fs))
    (hs : fs.size = s) (hone : oneCellFields P fs = true) (hC : P.cellsOf e = s) (hI : P.underlying I = some (.int .i64)) (hall : (fs.toList.all fun fd => fd.type == I) = true) (h : DataW.trod enc P w base spare held fuel t cs = some x) :
    ∃ (A : Option Addr) (c : Nat) (l : List α), cs = [.slice A l.length c] ∧ l.length ≤ c ∧ c ≤ maxLen ∧ Sees w w.heap.size A (strip f l) := by
  rcases open_slice ht h with ⟨rfl, _⟩ | ⟨a, len, cap, m, n, D, Pl, rfl, hb, hl, hm, hmm, hx, hi⟩
  · exact ⟨none, 0, [], rfl, Nat.le_refl _, Nat.zero_le _, Sees.nil⟩
  · have cell : ∀ i, i < len → ∀ j, j < s → ∃ v : Int, w.cell? (a.add (i * s + j)) = some (.int .i64 v) := by
      intro i hil j hj
      obtain ⟨cs', hc, ht'⟩ := hi i (by rw [hmm]; split <;> omega)
      rw [hC] at hc
      obtain ⟨_, hcl, hat⟩ := World.cells?_some hc
      obtain ⟨ys, n', _, _, _, hyl, hf⟩ := DataW.trod_struct he ht'
      have hjf : j < fs.size := by omega
      have hfd : fs[j]? = some fs[j] := Array.getElem?_eq_getElem hjf
      obtain ⟨ho, hk⟩ := hone_of hone j _ hfd
      have h1 := hf j _ hfd
      rw [ho, hk] at h1
      have hjc : j < cs'.length := by omega
      have e1 : (cs'.drop j).take 1 = [cs'[j]] := by rw [List.drop_eq_getElem_cons hjc]; rfl
      have hys : ys[j]? = some (ys[j]'(by omega)) := List.getElem?_eq_getElem (by omega)
      rw [e1, hys] at h1
      have hty : fs[j].type = I := by
        have := List.all_eq_true.1 hall fs[j] (by rw [← Array.getElem_toList (h := by simpa using hjf)]; exact List.getElem_mem _)
        simpa using this
      rw [hty] at h1
      obtain ⟨v, e2, _⟩ := DataW.trod_int hI h1
      injection e2 with e2 _
      refine ⟨v, ?_⟩
      have h2 := hat j hj
      rw [Go.Deep.add_add] at h2
      rw [h2, List.getElem?_eq_getElem hjc, e2]
    obtain ⟨V, hV⟩ : ∃ V : Nat → Nat → Int, ∀ i, i < len → ∀ j, j < s → w.cell? (a.add (i * s + j)) = some (.int .i64 (V i j)) :=
      ⟨fun i j => if h : i < len ∧ j < s then (cell i h.1 j h.2).choose else 0, fun i hi' j hj => by
        have h0 : i < len ∧ j < s := ⟨hi', hj⟩
        simp only [h0, and_self, dite_true]
        exact (cell i hi' j hj).choose_spec⟩
    refine ⟨some a, cap, (List.range len).map fun i => mk (V i), by simp, by simpa using hl, hm, sees_of_cells fun q u hu => ?_⟩
    have hq : q < len * s := by
      have h0 := strip_len hfl ((List.range len).map fun i => mk (V i))
      rw [List.length_map, List.length_range] at h0
      rcases Nat.lt_or_ge q (len * s) with h5 | h5
      · exact h5
      · rw [List.getElem?_eq_none (by omega)] at hu; cases hu
    have h1 : q = q / s * s + q % s := by rw [Nat.mul_comm]; exact (Nat.div_add_mod q s).symm
    have h2 : q / s < len := Nat.div_lt_of_lt_mul (by rw [Nat.mul_comm]; exact hq)
    have h3 : q % s < s := Nat.mod_lt _ hs0
    rw [h1, strip_at hfl (k := q / s) (by simpa using h2) h3] at hu
    simp only [List.getElem_map, List.getElem_range, hfm _ _ h3] at hu
    injection hu with hu
    rw [← hu]
    have := hV (q / s) h2 (q % s) h3
    rwa [← h1] at this
theorem open_ints4 {t I : TypeId} {fuel : Nat} {cs : List Value} {x : DataW H × List MemPlace} (ht : P.underlying t = some (.slice I)) (hI : P.underlying I = some (.int .i64)) (hC : P.cellsOf I = 1) (h : DataW.trod enc P w base spare held fuel t cs = some x) :
    ∃ (A : Option Addr) (c : Nat) (l : List Int), cs = [.slice A l.length c] ∧ l.length ≤ c ∧ c ≤ maxLen ∧ Sees w w.heap.size A (ints l) := by
  rcases open_ints ht hI hC h with ⟨hcs, _⟩ | ⟨a, l, c, zs, hcs, _, hl, hm, hz, _, hcell, _⟩
  · exact ⟨none, 0, [], hcs, Nat.le_refl _, Nat.zero_le _, Sees.nil⟩
  · have hz' : l ≤ zs.length := by rw [hz]; split <;> omega
    have e : (zs.take l).length = l := by rw [List.length_take]; omega
    refine ⟨some a, c, zs.take l, by rw [e]; exact hcs, by omega, hm, sees_of_cells fun i u hu => ?_⟩
    have hi : i < l := by
      rcases Nat.lt_or_ge i l with h5 | h5
      · exact h5
      · rw [List.getElem?_eq_none (by rw [ints_len, e]; exact h5)] at hu; cases hu
    have h6 : i < (zs.take l).length := by omega
    rw [ints_at h6] at hu
    injection hu with hu
    rw [← hu]
    have := hcell i (by omega)
    simpa [List.getD_eq_getElem?_getD, show i < zs.length by omega] using this
end
end Go.Proofs.Ytehdbllpiokbnaa

/-
  A list of lists of settings that comes in as an argument: it is in memory, below all that is made later. No condition.
-/
import Derived.Test.YtfnjphhanehoeaaOpen
import Derived.Test.YtfnjphhanehoeaaStF
namespace Go.Proofs.Ytfnjphhanehoeaa
open Go.RowKit Go.ChangeShapes Go.WideShapes Go.Deep Stt

section
variable {H : Type} {enc : TypeId × Value → H} {P : Program} {w : World} {base : Nat} {spare : Nat → Bool} {held : Bool}
theorem open_rows {t e e2 I : TypeId} {fs : Array Field} {fuel : Nat} {cs : List Value} {x : DataW H × List MemPlace} (ht : P.underlying t = some (.slice e)) (hte : P.underlying e = some (.slice e2)) (hCe : P.cellsOf e = 1)
    (he2 : P.underlying e2 = some (.struct fs)) (hs : fs.size = 2) (hone : oneCellFields P fs = true) (hC : P.cellsOf e2 = 2) (hI : P.underlying I = some (.int .i64)) (hall : (fs.toList.all fun fd => fd.type == I) = true) (h : DataW.trod enc P w base spare held fuel t cs = some x) :
    ∃ (A : Option Addr) (c : Nat) (rs : List Rw), cs = [.slice A rs.length c] ∧ rs.length ≤ c ∧ c ≤ maxLen ∧ SeesR w w.heap.size A rs ∧ ∀ r ∈ rs, r.l.length ≤ maxLen := by
  rcases open_slice ht h with ⟨rfl, _⟩ | ⟨a, len, cap, m, n, D, Pl, rfl, hb, hl, hm, hmm, hx, hi⟩
  · exact ⟨none, 0, [], rfl, Nat.le_refl _, Nat.zero_le _, ⟨Sees.nil, by simp⟩, by simp⟩
  · have cell : ∀ i, i < len → ∃ r : Rw, w.cell? (a.add i) = some (.slice r.A r.l.length r.c) ∧ Sees w w.heap.size r.A (strip stcl r.l) ∧ r.l.length ≤ maxLen := by
      intro i hil
      obtain ⟨cs', hc, ht'⟩ := hi i (by rw [hmm]; split <;> omega)
      rw [hCe] at hc
      obtain ⟨_, hcl, hat⟩ := World.cells?_some hc
      obtain ⟨A, c, l, rfl, h1, h2, h3⟩ := open_strip (f := stcl) (s := 2) (fun g => (⟨g 0, g 1⟩ : Stg)) (by decide) stcl_ln (fun g j hj => by match j, hj with | 0, _ => rfl | 1, _ => rfl) hte he2 hs hone hC hI hall ht'
      refine ⟨⟨A, c, l⟩, ?_, h3, Nat.le_trans h1 h2⟩
      have := hat 0 (by decide)
      rw [Go.Deep.add_add] at this
      simpa using this
    obtain ⟨V, hV⟩ : ∃ V : Nat → Rw, ∀ i, i < len → w.cell? (a.add i) = some (.slice (V i).A (V i).l.length (V i).c) ∧ Sees w w.heap.size (V i).A (strip stcl (V i).l) ∧ (V i).l.length ≤ maxLen :=
      ⟨fun i => if h : i < len then (cell i h).choose else ⟨none, 0, []⟩, fun i hi' => by
        simp only [hi', dite_true]
        exact (cell i hi').choose_spec⟩
    refine ⟨some a, cap, (List.range len).map V, by simp, by simpa using hl, hm, ⟨sees_of_cells fun q u hu => ?_, fun r hr => ?_⟩, fun r hr => ?_⟩
    · have e : strip rwcl ((List.range len).map V) = (List.range len).map fun i => .slice (V i).A (V i).l.length (V i).c := by
        unfold strip
        rw [List.flatMap_map]
        induction (List.range len) with
        | nil => rfl
        | cons y l ih => rw [List.flatMap_cons, ih]; rfl
      rw [e, List.getElem?_map] at hu
      rcases Nat.lt_or_ge q len with h5 | h5
      · rw [List.getElem?_range h5] at hu
        simp only [Option.map_some] at hu
        rw [← hu]; exact (hV q h5).1
      · rw [List.getElem?_eq_none (by simpa using h5)] at hu; cases hu
    · obtain ⟨i, hi', rfl⟩ := List.mem_map.1 hr
      exact (hV i (List.mem_range.1 hi')).2.1
    · obtain ⟨i, hi', rfl⟩ := List.mem_map.1 hr
      exact (hV i (List.mem_range.1 hi')).2.2
end
end Go.Proofs.Ytfnjphhanehoeaa

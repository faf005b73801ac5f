/-
  A list of structs of a number and a list that comes in as an argument: it is in memory, below all that is made later. No condition.
-/
import Derived.Test.YtfophplmdljhbaaOpen
import Derived.Test.YtfophplmdljhbaaCaI
namespace Go.Proofs.Ytfophplmdljhbaa
open Go.RowKit Go.ChangeShapes Go.WideShapes Go.Deep Cac

section
variable {H : Type} {enc : TypeId × Value → H} {P : Program} {w : World} {base : Nat} {spare : Nat → Bool} {held : Bool}
theorem open_caches {t e I S : TypeId} {f0 f1 : Field} {fuel : Nat} {cs : List Value} {x : DataW H × List MemPlace} (ht : P.underlying t = some (.slice e)) (he : P.underlying e = some (.struct #[f0, f1]))
    (hone : oneCellFields P #[f0, f1] = true) (hC : P.cellsOf e = 2) (h0 : f0.type = I) (h1 : f1.type = S) (hI : P.underlying I = some (.int .i64)) (hS : P.underlying S = some (.slice I)) (hCI : P.cellsOf I = 1) (h : DataW.trod enc P w base spare held fuel t cs = some x) :
    ∃ (A : Option Addr) (c : Nat) (rs : List Rc), cs = [.slice A rs.length c] ∧ rs.length ≤ c ∧ c ≤ maxLen ∧ SeesC w w.heap.size A rs ∧ ∀ r ∈ rs, r.m.n.length ≤ maxLen := by
  rcases open_slice ht h with ⟨rfl, _⟩ | ⟨a, len, cap, m, n, D, Pl, rfl, hb, hl, hm, hmm, hx, hi⟩
  · exact ⟨none, 0, [], rfl, Nat.le_refl _, Nat.zero_le _, ⟨Sees.nil, by simp⟩, by simp⟩
  · have cell : ∀ i, i < len → ∃ r : Rc, w.cell? (a.add (i * 2)) = some (.int .i64 r.m.r) ∧ w.cell? (a.add (i * 2 + 1)) = some (.slice r.A r.m.n.length r.c) ∧ Sees w w.heap.size r.A (ints r.m.n) ∧ r.m.n.length ≤ r.c ∧ r.m.n.length ≤ maxLen := by
      intro i hil
      obtain ⟨cs', hc, ht'⟩ := hi i (by rw [hmm]; split <;> omega)
      rw [hC] at hc
      obtain ⟨_, hcl, hat⟩ := World.cells?_some hc
      obtain ⟨ys, n', _, _, _, hyl, hf⟩ := DataW.trod_struct he ht'
      have g0 := hf 0 f0 rfl
      have g1 := hf 1 f1 rfl
      obtain ⟨o0, k0⟩ := hone_of hone 0 f0 rfl
      obtain ⟨o1, k1⟩ := hone_of hone 1 f1 rfl
      rw [o0, k0, h0] at g0
      rw [o1, k1, h1] at g1
      have hcl2 : cs'.length = 2 := hcl
      have a0 := hat 0 (by decide)
      have a1 := hat 1 (by decide)
      rw [Go.Deep.add_add] at a0 a1
      have hyl2 : ys.length = 2 := hyl
      match cs', hcl2, ys, hyl2 with
      | [u0, u1], _, [y0, y1], _ =>
        have g0' : DataW.trod enc P w base spare held n' I [u0] = some y0 := by simpa using g0
        have g1' : DataW.trod enc P w base spare held n' S [u1] = some y1 := by simpa using g1
        obtain ⟨v, e2, _⟩ := DataW.trod_int hI g0'
        obtain ⟨A, c, l, e3, r1, r2, r3⟩ := open_ints4 hS hI hCI g1'
        injection e2 with e2 _
        injection e3 with e3 _
        refine ⟨⟨A, c, ⟨v, l⟩⟩, ?_, ?_, r3, r1, Nat.le_trans r1 r2⟩
        · rw [← e2]; simpa using a0
        · rw [← e3]; simpa using a1
    obtain ⟨V, hV⟩ : ∃ V : Nat → Rc, ∀ i, i < len → w.cell? (a.add (i * 2)) = some (.int .i64 (V i).m.r) ∧ w.cell? (a.add (i * 2 + 1)) = some (.slice (V i).A (V i).m.n.length (V i).c) ∧ Sees w w.heap.size (V i).A (ints (V i).m.n) ∧ (V i).m.n.length ≤ (V i).c ∧ (V i).m.n.length ≤ maxLen :=
      ⟨fun i => if h : i < len then (cell i h).choose else ⟨none, 0, zeroC⟩, fun i hi' => by
        simp only [hi', dite_true]
        exact (cell i hi').choose_spec⟩
    refine ⟨some a, cap, (List.range len).map V, by simp, by simpa using hl, hm, ⟨sees_of_cells fun q u hu => ?_, fun r hr => ?_⟩, fun r hr => ?_⟩
    · have hq : q < len * 2 := by
        have h0 := strip_len rccl_ln ((List.range len).map V)
        rw [List.length_map, List.length_range] at h0
        rcases Nat.lt_or_ge q (len * 2) with h5 | h5
        · exact h5
        · rw [List.getElem?_eq_none (by omega)] at hu; cases hu
      have h1 : q = q / 2 * 2 + q % 2 := by omega
      have h2 : q / 2 < len := by omega
      have h3 : q % 2 < 2 := by omega
      rw [h1, strip_at rccl_ln (k := q / 2) (by simpa using h2) h3] at hu
      simp only [List.getElem_map, List.getElem_range] at hu
      obtain ⟨z0, z1, _⟩ := hV (q / 2) h2
      rw [h1]
      have h3' : q % 2 = 0 ∨ q % 2 = 1 := by omega
      rcases h3' with e | e
      · rw [e] at hu ⊢
        simp only [rccl, List.getElem?_cons_zero] at hu
        injection hu with hu
        rw [← hu]; exact z0
      · rw [e] at hu ⊢
        simp only [rccl, List.getElem?_cons_succ, List.getElem?_cons_zero] at hu
        injection hu with hu
        rw [← hu]; exact z1
    · obtain ⟨i, hi', rfl⟩ := List.mem_map.1 hr
      obtain ⟨_, _, z2, z3, _⟩ := hV i (List.mem_range.1 hi')
      exact ⟨z2, z3⟩
    · obtain ⟨i, hi', rfl⟩ := List.mem_map.1 hr
      exact (hV i (List.mem_range.1 hi')).2.2.2.2
end
end Go.Proofs.Ytfophplmdljhbaa

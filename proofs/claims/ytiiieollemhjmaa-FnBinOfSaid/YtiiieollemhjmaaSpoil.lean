/-
  What spoil answers. Conditions: the list lies in memory and is at most 1000 long; the reader stands at a place below 1000.
-/
import Derived.Test.YtiiieollemhjmaaSeesF
import Derived.Test.YtiiieollemhjmaaOwnI
import Derived.Test.YtiiieollemhjmaaApp
import Derived.Test.YtiiieollemhjmaaReadB
namespace Go.Proofs.Ytiiieollemhjmaa
open Go.RowKit

/-- A list of numbers in a block that was made by the call; only the reader's block has changed. -/
def SpoilAns (m : Nat) (w : World) (g p : Nat) (e : Ending) (w' : World) : Prop := ∃ (A : Option Addr) (c : Nat) (ys : List Int) (q : Nat),
  e = .returned (.slice A ys.length c) ∧ ys.length ≤ c ∧ ys.length ≤ m + 1 ∧ SeesF w' (fun b => b < w.heap.size) A (ints ys) ∧ w.grownBy w' (some g) ∧ Rd w' g q ∧ q ≤ p + 3
theorem row_new {w : World} {B n c : Nat} {A : Option Addr} {ys : List Int} (h : w.ownsRow B 3 1 (.slice A n c) n (ints ys)) : SeesF w (fun b => b < B) A (ints ys) := SeesF.of_row h fun b hb _ hh => by omega
theorem row_int' {w : World} {base g n c : Nat} {K : List Int} (h : w.ownsRow base 3 1 (.slice (some ⟨g, 0, none⟩) n c) n (ints K)) {i : Nat} (hi : i < K.length) : w.cell? ⟨g, i, none⟩ = some (.int .i64 K[i]) := by
  obtain ⟨b, o, e, _, hc⟩ := (Sees.of_own h).int hi
  injection e with e
  injection e with e1 e2
  subst e1 e2
  simpa using hc
theorem row_some {w : World} {base : Nat} {v : Value} {ys : List Int} (h : Own w base v ys) (hn : 0 < ys.length) : ∃ g c, v = .slice (some ⟨g, 0, none⟩) ys.length c ∧ ys.length ≤ c := by
  rcases h.2 with ⟨_, e⟩ | ⟨g, cap, cur, e, _, _, h1, h2, _⟩
  · omega
  · exact ⟨g, cap, e, h1⟩
theorem seesF_tail {w : World} {F : Nat → Prop} {g : Nat} {ys : List Int} (h : SeesF w F (some ⟨g, 0, none⟩) (ints ys)) : SeesF w F (some ⟨g, 1, none⟩) (ints (ys.drop 1)) := by
  have e : ints (ys.drop 1) = (ints ys).drop 1 := by simp [ints]
  rw [e]
  intro hx
  obtain ⟨b, o, e1, h1, h2, h3⟩ := h (by intro e2; rw [e2] at hx; simp at hx)
  injection e1 with e1
  injection e1 with e1 e2
  subst e1 e2
  refine ⟨g, 1, rfl, h1, h2, fun j u hu => ?_⟩
  rw [← h3 (1 + j) u (by rw [← hu, List.getElem?_drop])]
  simp
theorem ints_put (l : List Int) (i : Nat) (x : Int) : (ints l).set i (.int .i64 x) = ints (l.set i x) := by simp [ints, List.map_set]
end Go.Proofs.Ytiiieollemhjmaa

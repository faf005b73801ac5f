/-
  A pool of the call's own, list by list: a list is laid anew, a list has grown by one, a block beside it is written. No condition.
-/
import Derived.Test.YtehdbllpiokbnaaOwnX
import Derived.Test.YtehdbllpiokbnaaPlC
import Derived.Test.YtehdbllpiokbnaaSsHoldG

namespace Go.Proofs.Ytehdbllpiokbnaa
open Go.RowKit Pol

section
variable {w w' : World} {base : Nat} {A1 A2 A3 : Option Addr} {c1 c2 c3 : Nat} {p : Pl}
/-- A block that is none of the pool's lists is written. -/
theorem OwnP.past (h : OwnP w base A1 A2 A3 c1 c2 c3 p) {g : Nat} {cs : Array Value} (ha : At w g 30 cs) (hg : w.grownBy w' (some g)) : OwnP w' base A1 A2 A3 c1 c2 c3 p := by
  obtain ⟨h1, h2, h3, h4⟩ := h
  have n1 := row_ne h1.out ha (by decide)
  have n2 := row_ne h2.out ha (by decide)
  have n3 := row_ne h3.out ha (by decide)
  exact ⟨row_kept h1 hg (fun k hk e => n1 (by rw [hk, e])), h2.kept hg (fun k hk e => n2 (by rw [hk, e])), row_kept h3 hg (fun k hk e => n3 (by rw [hk, e])), h4⟩
/-- A list is laid anew, behind all that was there. -/
theorem OwnP.newIdle (h : OwnP w base A1 A2 A3 c1 c2 c3 p) (hs : base ≤ w.heap.size) {A : Option Addr} {c : Nat} {l : List Int} (ho : Own w' w.heap.size (.slice A l.length c) l) (hb : Below w.heap.size w w') : OwnP w' base A A2 A3 c c2 c3 ⟨p.mx, l, p.held, p.wait⟩ := by
  have h' := h.below hb
  obtain ⟨h1, h2, h3, f12, f13, f23⟩ := h
  obtain ⟨_, h2', h3', _⟩ := h'
  exact ⟨ho.mono hs, h2', h3', far_of (fun k hk => ho.out.lt k hk) (fun k hk => h2.out.lt k hk) (.inr (Nat.le_refl _)), far_of (fun k hk => ho.out.lt k hk) (fun k hk => h3.out.lt k hk) (.inr (Nat.le_refl _)), f23⟩
theorem OwnP.newHeld (h : OwnP w base A1 A2 A3 c1 c2 c3 p) (hs : base ≤ w.heap.size) {A : Option Addr} {c : Nat} {l : List Ho} (ho : OwnS 91 2 hcells w' w.heap.size (.slice A l.length c) l) (hb : Below w.heap.size w w') : OwnP w' base A1 A A3 c1 c c3 ⟨p.mx, p.idle, l, p.wait⟩ := by
  have h' := h.below hb
  obtain ⟨h1, h2, h3, f12, f13, f23⟩ := h
  obtain ⟨h1', _, h3', _⟩ := h'
  exact ⟨h1', ho.mono hs, h3', far_of (fun k hk => h1.out.lt k hk) (fun k hk => ho.out.lt k hk) (.inl (Nat.le_refl _)), f13, far_of (fun k hk => ho.out.lt k hk) (fun k hk => h3.out.lt k hk) (.inr (Nat.le_refl _))⟩
theorem OwnP.newWait (h : OwnP w base A1 A2 A3 c1 c2 c3 p) (hs : base ≤ w.heap.size) {A : Option Addr} {c : Nat} {l : List Int} (ho : Own w' w.heap.size (.slice A l.length c) l) (hb : Below w.heap.size w w') : OwnP w' base A1 A2 A c1 c2 c ⟨p.mx, p.idle, p.held, l⟩ := by
  have h' := h.below hb
  obtain ⟨h1, h2, h3, f12, f13, f23⟩ := h
  obtain ⟨h1', h2', _, _⟩ := h'
  exact ⟨h1', h2', ho.mono hs, f12, far_of (fun k hk => h1.out.lt k hk) (fun k hk => ho.out.lt k hk) (.inl (Nat.le_refl _)), far_of (fun k hk => h2.out.lt k hk) (fun k hk => ho.out.lt k hk) (.inl (Nat.le_refl _))⟩
/-- A list has grown by one at its end. -/
theorem OwnP.addIdle (h : OwnP w base A1 A2 A3 c1 c2 c3 p) {x : Int} {A : Option Addr} {c : Nat} (h' : w'.ownsRow base 3 1 (.slice A (p.idle.length + 1) c) (p.idle.length + 1) (ints p.idle ++ [.int .i64 x])) (hg : w.grownBy w' (Value.slice A1 p.idle.length c1).ownBlock) (hat : (Value.slice A (p.idle.length + 1) c).ownBlock = (Value.slice A1 p.idle.length c1).ownBlock ∨ (Value.slice A (p.idle.length + 1) c).ownBlock = some w.heap.size) :
    OwnP w' base A A2 A3 c c2 c3 ⟨p.mx, p.idle ++ [x], p.held, p.wait⟩ := by
  obtain ⟨h1, h2, h3, f12, f13, f23⟩ := h
  have a2 := h2
  have a3 := h3
  refine ⟨?_, a2.kept hg (fun k hk e => f12 k e hk), row_kept a3 hg (fun k hk e => f13 k e hk), ?_, ?_, f23⟩
  · unfold Own; rw [ints_app, List.length_append]; exact h'
  · rw [List.length_append]; exact far_step f12 hat (fun k hk => (h2.out.lt k hk).2)
  · rw [List.length_append]; exact far_step f13 hat (fun k hk => (h3.out.lt k hk).2)
theorem OwnP.addHeld (h : OwnP w base A1 A2 A3 c1 c2 c3 p) {x : Ho} {A : Option Addr} {c : Nat} (h' : w'.ownsRow base 91 2 (.slice A (p.held.length + 1) c) (p.held.length + 1) (strip hcells p.held ++ hcells x)) (hg : w.grownBy w' (Value.slice A2 p.held.length c2).ownBlock) (hat : (Value.slice A (p.held.length + 1) c).ownBlock = (Value.slice A2 p.held.length c2).ownBlock ∨ (Value.slice A (p.held.length + 1) c).ownBlock = some w.heap.size) :
    OwnP w' base A1 A A3 c1 c c3 ⟨p.mx, p.idle, p.held ++ [x], p.wait⟩ := by
  obtain ⟨h1, h2, h3, f12, f13, f23⟩ := h
  have a1 := h1
  have a3 := h3
  refine ⟨row_kept a1 hg (fun k hk e => f12 k hk e), ?_, row_kept a3 hg (fun k hk e => f23 k e hk), ?_, f13, ?_⟩
  · unfold OwnS; rw [strip_snoc, List.length_append]; exact h'
  · rw [List.length_append]; exact (far_step f12.symm hat (fun k hk => (h1.out.lt k hk).2)).symm
  · rw [List.length_append]; exact far_step f23 hat (fun k hk => (h3.out.lt k hk).2)
theorem OwnP.addWait (h : OwnP w base A1 A2 A3 c1 c2 c3 p) {x : Int} {A : Option Addr} {c : Nat} (h' : w'.ownsRow base 3 1 (.slice A (p.wait.length + 1) c) (p.wait.length + 1) (ints p.wait ++ [.int .i64 x])) (hg : w.grownBy w' (Value.slice A3 p.wait.length c3).ownBlock) (hat : (Value.slice A (p.wait.length + 1) c).ownBlock = (Value.slice A3 p.wait.length c3).ownBlock ∨ (Value.slice A (p.wait.length + 1) c).ownBlock = some w.heap.size) :
    OwnP w' base A1 A2 A c1 c2 c ⟨p.mx, p.idle, p.held, p.wait ++ [x]⟩ := by
  obtain ⟨h1, h2, h3, f12, f13, f23⟩ := h
  have a1 := h1
  have a2 := h2
  refine ⟨row_kept a1 hg (fun k hk e => f13 k hk e), a2.kept hg (fun k hk e => f23 k hk e), ?_, f12, ?_, ?_⟩
  · unfold Own; rw [ints_app, List.length_append]; exact h'
  · rw [List.length_append]; exact (far_step f13.symm hat (fun k hk => (h1.out.lt k hk).2)).symm
  · rw [List.length_append]; exact (far_step f23.symm hat (fun k hk => (h2.out.lt k hk).2)).symm
theorem OwnP.low (h : OwnP w base A1 A2 A3 c1 c2 c3 p) : (∀ k, (Value.slice A1 p.idle.length c1).ownBlock = some k → base ≤ k) ∧ (∀ k, (Value.slice A2 p.held.length c2).ownBlock = some k → base ≤ k) ∧ (∀ k, (Value.slice A3 p.wait.length c3).ownBlock = some k → base ≤ k) :=
  ⟨fun k hk => (h.1.out.lt k hk).1, fun k hk => (h.2.1.out.lt k hk).1, fun k hk => (h.2.2.1.out.lt k hk).1⟩
theorem OwnP.lens (h : OwnP w base A1 A2 A3 c1 c2 c3 p) : p.idle.length ≤ c1 ∧ p.held.length ≤ c2 ∧ p.wait.length ≤ c3 := by
  obtain ⟨h1, h2, h3, _⟩ := h
  obtain ⟨_, _, e1, l1, _⟩ := own_form h1.out
  obtain ⟨_, _, e2, l2, _⟩ := own_form h2.out
  obtain ⟨_, _, e3, l3, _⟩ := own_form h3.out
  injection e1 with _ _ e1
  injection e2 with _ _ e2
  injection e3 with _ _ e3
  exact ⟨by omega, by omega, by omega⟩
end
/-- A pool's four cells are written into its block. -/
theorem pool_put {w : World} {g : Nat} {cs : Array Value} (u0 u1 u2 u3 : Value) (h : At w g 30 cs) (hc : cs.size = 4) :
    At ((((w.setCell ⟨g, 0, none⟩ u0).setCell ⟨g, 1, none⟩ u1).setCell ⟨g, 2, none⟩ u2).setCell ⟨g, 3, none⟩ u3) g 30 #[u0, u1, u2, u3] ∧
    w.grownBy ((((w.setCell ⟨g, 0, none⟩ u0).setCell ⟨g, 1, none⟩ u1).setCell ⟨g, 2, none⟩ u2).setCell ⟨g, 3, none⟩ u3) (some g) := by
  refine ⟨?_, grown_trans (grown_trans (grown_trans (grown_set _ _ _ _) (grown_set _ _ _ _)) (grown_set _ _ _ _)) (grown_set _ _ _ _)⟩
  have := (((h.set 0 u0).set 1 u1).set 2 u2).set 3 u3
  obtain ⟨l⟩ := cs
  match l, hc with
  | [a, b, c, d], _ => simpa using this
end Go.Proofs.Ytehdbllpiokbnaa

/-
  The state of the model's generator of lines between two steps. No condition.
-/
import Derived.Test.YtcfijijpcafncaaLineF
import Derived.Test.YtcfijijpcafncaaLineH
import Derived.Test.YtcfijijpcafncaaReadB
namespace Go.Proofs.Ytcfijijpcafncaa
open Go.RowKit

theorem TakeAns.one {s n : Int} {g : List Int} {base : Nat} {e : Ending} {w' : World} (h : TakeAns s n g base e w') :
    ∃ (s' n' k : Int) (A : Option Addr) (c : Nat) (g' : List Int) (ok : Bool), e = .returned (.tuple #[.agg #[.int .i64 s', .int .i64 n', .slice A g'.length c], .int .i64 k, .bool ok]) ∧ Own w' base (.slice A g'.length c) g' ∧ (ok = true → Line.okB s' n' g' = true) := by
  rcases h with ⟨h, v, rfl, ho⟩ | ⟨h, rfl⟩
  · obtain ⟨A, c, rfl, _⟩ := ho.form
    exact ⟨_, _, _, _, _, _, _, rfl, ho, fun _ => Line.take_ok h⟩
  · exact ⟨_, _, _, none, 0, [], _, rfl, Own.none_ _ _, fun h => by cases h⟩
theorem LeaveAns.one {s n t : Int} {g : List Int} {base : Nat} {e : Ending} {w' : World} (h : LeaveAns s n t g base e w') :
    ∃ (s' n' : Int) (A : Option Addr) (c : Nat) (g' : List Int) (ok : Bool), e = .returned (.tuple #[.agg #[.int .i64 s', .int .i64 n', .slice A g'.length c], .bool ok]) ∧ Own w' base (.slice A g'.length c) g' ∧ (ok = true → Line.okB s' n' g' = true) := by
  rcases h with ⟨h, v, rfl, ho⟩ | ⟨h, rfl⟩
  · obtain ⟨A, c, rfl, _⟩ := ho.form
    exact ⟨_, _, _, _, _, _, rfl, ho, fun _ => Line.leave_ok h⟩
  · exact ⟨_, _, none, 0, [], _, rfl, Own.none_ _ _, fun h => by cases h⟩

theorem Own.past {w w' : World} {base g : Nat} {v : Value} {ys : List Int} (h : Own w base v ys) (hg : w.grownBy w' (some g)) (hb : g < base) : Own w' base v ys :=
  h.out.kept hg (.inr fun e => by have := (h.out.lt g e).1; omega)

/-- Block L holds a line; its list is the generator's own, from block base on; block g is the reader, at place q; the result's block is as it was made; nothing else that was there has changed. -/
def GS (w0 wr : World) (g base L q : Nat) (s n : Int) (v : Value) (l : List Int) : Prop :=
  At wr L 25 #[.int .i64 s, .int .i64 n, v] ∧ Own wr base v l ∧ Rd wr g q ∧ At wr w0.heap.size 25 #[.int .i64 0, .int .i64 0, .slice none 0 0] ∧ w0.grownBy wr (some g) ∧ g < w0.heap.size ∧ w0.heap.size < base ∧ base < L
section
variable {w0 wr w' : World} {g base L q q' : Nat} {s n s' n' : Int} {v v' : Value} {l l' : List Int}
theorem GS.lt (h : GS w0 wr g base L q s n v l) : g < w0.heap.size ∧ w0.heap.size < base ∧ base < L ∧ L < wr.heap.size := ⟨h.2.2.2.2.2.1, h.2.2.2.2.2.2.1, h.2.2.2.2.2.2.2, h.1.lt⟩
theorem GS.below (h : GS w0 wr g base L q s n v l) (hb : Below wr.heap.size wr w') : GS w0 w' g base L q s n v l := by
  obtain ⟨h1, h2, h3, h4, h5, h6⟩ := h
  exact ⟨h1.below hb h1.lt, h2.below hb, h3.below hb h3.lt, h4.below hb h4.lt, grown_trans h5 (grown_of_below hb _), h6⟩
theorem GS.alloc (h : GS w0 wr g base L q s n v l) (o : Obj) : GS w0 (wr.alloc o) g base L q s n v l := h.below ((Below.refl _ _).alloc (Nat.le_refl _) o)
theorem GS.drew (h : GS w0 wr g base L q s n v l) : GS w0 wr.drew g base L q s n v l := h.below (Below.refl _ _).drew
theorem GS.pick (h : GS w0 wr g base L q s n v l) (hg : wr.grownBy w' (some g)) (hr : Rd w' g q') : GS w0 w' g base L q' s n v l := by
  obtain ⟨h1, h2, h3, h4, h5, h6, h7, h8⟩ := h
  exact ⟨h1.past hg (by omega), h2.past hg (by omega), hr, h4.past hg (by omega), grown_trans h5 hg, h6, h7, h8⟩
theorem GS.own (h : GS w0 wr g base L q s n v l) {i : Nat} {u : Value} (ho : Own wr base v' l') : Own (wr.setCell ⟨L, i, none⟩ u) base v' l' := ho.far h.1 (by decide)
theorem GS.set (h : GS w0 wr g base L q s n v l) {i : Nat} {u : Value} (hu : (#[.int .i64 s, .int .i64 n, v] : Array Value).setIfInBounds i u = #[.int .i64 s', .int .i64 n', v']) (ho : Own wr base v' l') : GS w0 (wr.setCell ⟨L, i, none⟩ u) g base L q s' n' v' l' := by
  obtain ⟨h1, h2, h3, h4, h5, h6, h7, h8⟩ := h
  exact ⟨hu ▸ h1.set i u, ho.far h1 (by decide), h3.far (by simp; omega) u, h4.far (by simp; omega) u, ⟨h5.os, h5.tape, h5.output, by simpa [World.setCell] using h5.size, fun k hk hn => (Below.heap_setCell wr ⟨L, i, none⟩ u k (by simp; omega)).trans (h5.block k hk hn)⟩, h6, h7, h8⟩
/-- A whole line is stored. -/
theorem GS.put (h : GS w0 wr g base L q s n v l) (ho : Own wr base v' l') : GS w0 (((wr.setCell ⟨L, 0, none⟩ (.int .i64 s')).setCell ⟨L, 1, none⟩ (.int .i64 n')).setCell ⟨L, 2, none⟩ v') g base L q s' n' v' l' :=
  ((h.set (s' := s') (n' := n) (v' := v) (i := 0) (by rfl) h.2.1).set (s' := s') (n' := n') (v' := v) (i := 1) (by rfl) (h.own h.2.1)).set (i := 2) (by rfl) ((h.set (s' := s') (n' := n) (v' := v) (i := 0) (by rfl) h.2.1).own (h.own ho))
/-- A store into a line that lies beside. -/
theorem GS.side (h : GS w0 wr g base L q s n v l) {b i : Nat} {cs : Array Value} (hx : At wr b 25 cs) (hb : L < b) (u : Value) : GS w0 (wr.setCell ⟨b, i, none⟩ u) g base L q s n v l := by
  obtain ⟨h1, h2, h3, h4, h5, h6, h7, h8⟩ := h
  exact ⟨h1.far (by simp; omega) u, h2.far hx (by decide), h3.far (by simp; omega) u, h4.far (by simp; omega) u, ⟨h5.os, h5.tape, h5.output, by simpa [World.setCell] using h5.size, fun k hk hn => (Below.heap_setCell wr ⟨b, i, none⟩ u k (by simp; omega)).trans (h5.block k hk hn)⟩, h6, h7, h8⟩
theorem GS.side3 (h : GS w0 wr g base L q s n v l) {b : Nat} {cs : Array Value} (hx : At wr b 25 cs) (hb : L < b) (u0 u1 u2 : Value) : GS w0 (((wr.setCell ⟨b, 0, none⟩ u0).setCell ⟨b, 1, none⟩ u1).setCell ⟨b, 2, none⟩ u2) g base L q s n v l :=
  ((h.side hx hb u0).side (hx.set 0 u0) hb u1).side ((hx.set 0 u0).set 1 u1) hb u2
theorem own_side3 {ys : List Int} (ho : Own wr base v ys) {b : Nat} {cs : Array Value} (hx : At wr b 25 cs) (u0 u1 u2 : Value) : Own (((wr.setCell ⟨b, 0, none⟩ u0).setCell ⟨b, 1, none⟩ u1).setCell ⟨b, 2, none⟩ u2) base v ys :=
  ((ho.far hx (by decide)).far (hx.set 0 u0) (by decide)).far ((hx.set 0 u0).set 1 u1) (by decide)
/-- Behind an append onto a list of the generator's own: the line's block, and then the whole state with the new list stored. -/
theorem GS.app (h : GS w0 wr g base L q s n v l) {v1 : Value} {ys : List Int} (ho : Own wr base v1 ys) (hg : wr.grownBy w' v1.ownBlock) : At w' L 25 #[.int .i64 s, .int .i64 n, v] :=
  h.1.grown hg fun e => (ho.ne h.1 (by decide)) e.symm
theorem GS.appPut (h : GS w0 wr g base L q s n v l) {v1 : Value} {ys : List Int} (ho : Own wr base v1 ys) (hg : wr.grownBy w' v1.ownBlock) (ho' : Own w' base v' l') : GS w0 (w'.setCell ⟨L, 2, none⟩ v') g base L q s n v' l' := by
  have hL := h.app ho hg
  obtain ⟨h1, h2, h3, h4, h5, h6, h7, h8⟩ := h
  have hb : Below base wr w' := (Below.refl base wr).grown hg (by have := h1.lt; omega) fun k hk => (ho.out.lt k hk).1
  refine ⟨by simpa using hL.set 2 v', ho'.far hL (by decide), (h3.below hb (by omega)).far (by simp; omega) _, (h4.below hb h7).far (by simp; omega) _, ?_, h6, h7, h8⟩
  exact ⟨hb.os.trans h5.os, hb.tape.trans h5.tape, hb.output.trans h5.output, by simpa [World.setCell] using Nat.le_trans h5.size hb.size, fun k hk hn => (Below.heap_setCell w' ⟨L, 2, none⟩ v' k (by simp; omega)).trans ((hb.block k (by omega)).trans (h5.block k hk hn))⟩

/-- The result's block is written. -/
theorem GS.done (h : GS w0 wr g base L q s n v l) (u0 u1 u2 : Value) : Own (((wr.setCell ⟨w0.heap.size, 0, none⟩ u0).setCell ⟨w0.heap.size, 1, none⟩ u1).setCell ⟨w0.heap.size, 2, none⟩ u2) w0.heap.size v l ∧
    w0.grownBy (((wr.setCell ⟨w0.heap.size, 0, none⟩ u0).setCell ⟨w0.heap.size, 1, none⟩ u1).setCell ⟨w0.heap.size, 2, none⟩ u2) (some g) ∧ Rd (((wr.setCell ⟨w0.heap.size, 0, none⟩ u0).setCell ⟨w0.heap.size, 1, none⟩ u1).setCell ⟨w0.heap.size, 2, none⟩ u2) g q := by
  obtain ⟨h1, h2, h3, h4, h5, h6, h7, h8⟩ := h
  refine ⟨(((h2.setCell (by simpa using h7) _).setCell (by simpa using h7) _).setCell (by simpa using h7) _).mono (by omega), ?_, ((h3.far (by simpa using h6) _).far (by simpa using h6) _).far (by simpa using h6) _⟩
  have key : ∀ (x : World) (i : Nat) (u : Value), w0.grownBy x (some g) → w0.grownBy (x.setCell ⟨w0.heap.size, i, none⟩ u) (some g) := fun x i u hx =>
    ⟨hx.os, hx.tape, hx.output, by simpa [World.setCell] using hx.size, fun k hk hn => (Below.heap_setCell x ⟨w0.heap.size, i, none⟩ u k (by simp; omega)).trans (hx.block k hk hn)⟩
  exact key _ _ _ (key _ _ _ (key _ _ _ h5))
theorem GS.res (h : GS w0 wr g base L q s n v l) : (∀ i, wr.cell? ⟨w0.heap.size, i, none⟩ = (#[.int .i64 0, .int .i64 0, .slice none 0 0] : Array Value)[i]?) ∧ ∀ i, wr.frozen? ⟨w0.heap.size, i, none⟩ = false := ⟨h.2.2.2.1.cell, h.2.2.2.1.frozen⟩
theorem GS.cells (h : GS w0 wr g base L q s n v l) : wr.cell? ⟨L, 0, none⟩ = some (.int .i64 s) ∧ wr.cell? ⟨L, 1, none⟩ = some (.int .i64 n) ∧ wr.cell? ⟨L, 2, none⟩ = some v ∧ ∀ i, wr.frozen? ⟨L, i, none⟩ = false :=
  ⟨h.1.cell 0, h.1.cell 1, h.1.cell 2, h.1.frozen⟩
end
end Go.Proofs.Ytcfijijpcafncaa

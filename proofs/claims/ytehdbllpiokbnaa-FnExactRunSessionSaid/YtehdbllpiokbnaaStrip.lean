/-
  Rows of structs in memory, whatever their fields: each element takes s cells. No condition.
-/
import Derived.Test.YtehdbllpiokbnaaBase
import Derived.Test.YtehdbllpiokbnaaOwnB
import Derived.OwnWalk

namespace Go.Proofs.Ytehdbllpiokbnaa
open Go.RowKit

def strip {α : Type} (f : α → List Value) (l : List α) : List Value := l.flatMap f
section
variable {α : Type} {f : α → List Value} {s : Nat}
theorem strip_nil : strip f [] = [] := rfl
theorem strip_cons (x : α) (l : List α) : strip f (x :: l) = f x ++ strip f l := rfl
theorem strip_one (x : α) : strip f [x] = f x := by simp [strip]
theorem strip_app (l m : List α) : strip f (l ++ m) = strip f l ++ strip f m := by simp [strip]
theorem strip_snoc (l : List α) (x : α) : strip f (l ++ [x]) = strip f l ++ f x := by rw [strip_app, strip_one]
theorem strip_len (hf : ∀ x, (f x).length = s) : ∀ l : List α, (strip f l).length = l.length * s
  | [] => by simp [strip_nil]
  | x :: l => by rw [strip_cons, List.length_append, strip_len hf l, hf, List.length_cons, Nat.succ_mul]; omega
theorem strip_at (hf : ∀ x, (f x).length = s) : ∀ {l : List α} {k : Nat} (hk : k < l.length) {j : Nat} (_ : j < s), (strip f l)[k * s + j]? = (f l[k])[j]?
  | x :: l, 0, hk, j, hj => by
    rw [strip_cons, Nat.zero_mul, Nat.zero_add, List.getElem?_append_left (by rw [hf]; exact hj)]
    rfl
  | x :: l, k + 1, hk, j, hj => by
    rw [strip_cons, List.getElem?_append_right (by rw [hf, Nat.succ_mul]; omega)]
    have := strip_at hf (l := l) (k := k) (by simpa using hk) hj
    simp only [List.getElem_cons_succ]
    rw [← this]
    congr 1
    rw [hf, Nat.succ_mul]
    omega
theorem strip_take (hf : ∀ x, (f x).length = s) (l : List α) (k : Nat) : strip f (l.take k) = (strip f l).take (k * s) := by
  rcases Nat.lt_or_ge k l.length with h | h
  · have e : strip f l = strip f (l.take k) ++ strip f (l.drop k) := by rw [← strip_app, List.take_append_drop]
    have hl : (strip f (l.take k)).length = k * s := by rw [strip_len hf, List.length_take, Nat.min_eq_left (by omega)]
    rw [e, ← hl, List.take_left]
  · have hl : (strip f l).length ≤ k * s := by rw [strip_len hf]; exact Nat.mul_le_mul_right _ h
    rw [List.take_of_length_le h, List.take_of_length_le hl]
theorem strip_drop (hf : ∀ x, (f x).length = s) (l : List α) (k : Nat) : strip f (l.drop k) = (strip f l).drop (k * s) := by
  have h1 : strip f (l.take k) ++ strip f (l.drop k) = strip f l := by rw [← strip_app, List.take_append_drop]
  have h2 := List.take_append_drop (k * s) (strip f l)
  rw [strip_take hf] at h1
  exact List.append_cancel_left (h1.trans h2.symm)
/-- us written from place i on. -/
def putAll (xs : List Value) (i : Nat) : List Value → List Value
  | [] => xs
  | u :: us => putAll (xs.set i u) (i + 1) us
theorem putAll_eq : ∀ (us xs : List Value) (i : Nat), i + us.length ≤ xs.length → putAll xs i us = xs.take i ++ us ++ xs.drop (i + us.length)
  | [], xs, i, h => by simp [putAll]
  | u :: us, xs, i, h => by
    simp only [List.length_cons] at h
    rw [putAll, putAll_eq us _ _ (by rw [List.length_set]; omega)]
    rw [List.take_set, List.drop_set_of_lt (by omega), List.take_succ_eq_append_getElem (by omega)]
    rw [List.set_append_right _ _ (by simp; omega)]
    have e : i - (List.take i xs).length = 0 := by simp; omega
    rw [e, List.set_cons_zero]
    simp [Nat.add_comm, Nat.add_left_comm]
theorem strip_set (hf : ∀ x, (f x).length = s) (l : List α) (k : Nat) (hk : k < l.length) (x : α) : strip f (l.set k x) = putAll (strip f l) (k * s) (f x) := by
  have hb : k * s + s ≤ (strip f l).length := by rw [strip_len hf, ← Nat.succ_mul]; exact Nat.mul_le_mul_right _ hk
  rw [putAll_eq _ _ _ (by rw [hf]; exact hb), hf, ← strip_take hf, List.set_eq_take_append_cons_drop, if_pos hk, strip_app, strip_cons]
  rw [← Nat.succ_mul, ← strip_drop hf, List.append_assoc]
end

section
variable {w w' : World} {B : Nat} {A : Option Addr} {α : Type} {f : α → List Value} {s : Nat}
theorem Sees.elem (hf : ∀ x, (f x).length = s) (hs : 0 < s) {l : List α} (h : Sees w B A (strip f l)) {k : Nat} (hk : k < l.length) :
    ∃ b o, A = some ⟨b, o, none⟩ ∧ b < B ∧ ∀ j u, (f l[k])[j]? = some u → w.cell? ⟨b, o + (k * s + j), none⟩ = some u := by
  obtain ⟨b, o, e, hb, hc⟩ := h (by
    intro e
    have h1 := strip_len hf l
    rw [e] at h1
    have : 0 < l.length * s := Nat.mul_pos (by omega) hs
    simp at h1
    omega)
  refine ⟨b, o, e, hb, fun j u hu => hc _ u ?_⟩
  have hj : j < s := by
    rcases Nat.lt_or_ge j s with h5 | h5
    · exact h5
    · rw [List.getElem?_eq_none (by rw [hf]; exact h5)] at hu; cases hu
  rw [strip_at hf hk hj]; exact hu
theorem Sees.stake (hf : ∀ x, (f x).length = s) {l : List α} (h : Sees w B A (strip f l)) (k : Nat) : Sees w B A (strip f (l.take k)) := by
  rw [strip_take hf]; exact h.take _
end

/-- Cells of a row of the call's own are written. -/
theorem row_put {w : World} {base : Nat} {t : TypeId} {s g c n : Nat} {xs : List Value} (h : w.ownsRow base t s (.slice (some ⟨g, 0, none⟩) n c) n xs) (i : Nat) (u : Value) :
    (w.setCell ⟨g, i, none⟩ u).ownsRow base t s (.slice (some ⟨g, 0, none⟩) n c) n (xs.set i u) := by
  obtain ⟨h1, h2⟩ := h
  refine ⟨by simpa using h1, .inr ?_⟩
  rcases h2 with ⟨e, _⟩ | ⟨g', cap, cur, e, hg, hh, h3, h4, h5, h6⟩
  · cases e
  · injection e with e1 e2 e3
    injection e1 with e1
    injection e1 with e1
    subst e1 e3
    refine ⟨g, c, cur.setIfInBounds i u, rfl, hg, ?_, h3, h4, by simpa using h5, ?_⟩
    · simp [World.setCell, Array.getElem?_modify, hh]
    · rw [Array.toList_setIfInBounds, List.take_set, h6]
theorem row_thaw {w : World} {base : Nat} {t : TypeId} {s g c n : Nat} {xs : List Value} (h : w.ownsRow base t s (.slice (some ⟨g, 0, none⟩) n c) n xs) : ∀ i, w.frozen? ⟨g, i, none⟩ = false := fun i => by
  rcases h.2 with ⟨e, _⟩ | ⟨g', cap, cur, e, hg, hh, _⟩
  · cases e
  · injection e with e1 e2 e3
    injection e1 with e1
    injection e1 with e1
    subst e1
    simp [World.frozen?, hh]
theorem row_base {w : World} {base : Nat} {t : TypeId} {s g c n : Nat} {xs : List Value} (h : w.ownsRow base t s (.slice (some ⟨g, 0, none⟩) n c) n xs) : base ≤ g ∧ g < w.heap.size := by
  rcases h.2 with ⟨e, _⟩ | ⟨g', cap, cur, e, hg, hh, _⟩
  · cases e
  · injection e with e1 e2 e3
    injection e1 with e1
    injection e1 with e1
    subst e1
    exact ⟨hg, (Array.getElem?_eq_some_iff.1 hh).1⟩
theorem row_kept {w w' : World} {base : Nat} {t : TypeId} {s n : Nat} {v : Value} {xs : List Value} {row : Option Nat} (h : w.ownsRow base t s v n xs) (hg : w.grownBy w' row) (hr : ∀ k, v.ownBlock = some k → row ≠ some k) : w'.ownsRow base t s v n xs := by
  refine h.kept hg ?_
  rcases hv : v.ownBlock with _ | k
  · exact .inl rfl
  · exact .inr (fun e => hr k hv e.symm)

/-- The value v is a slice of the elements l, which the call itself made: all of it lies from block base on. -/
def OwnS {α : Type} (t : TypeId) (s : Nat) (f : α → List Value) (w : World) (base : Nat) (v : Value) (l : List α) : Prop := w.ownsRow base t s v l.length (strip f l)
section
variable {α : Type} {t : TypeId} {s : Nat} {f : α → List Value} {w w' : World} {base base' : Nat} {v : Value} {l : List α}
theorem OwnS.out (h : OwnS t s f w base v l) : w.ownsRow base t s v l.length (strip f l) := h
theorem OwnS.none_ (w : World) (base : Nat) : OwnS t s f w base (.slice none 0 0) [] := World.ownsRow_nil w base _ s
theorem OwnS.made (w : World) (hb : base ≤ w.heap.size) : OwnS t s f (w.alloc (.cells #[] t)) base (.slice (some ⟨w.heap.size, 0, none⟩) 0 0) [] := World.ownsRow_made w #[] 0 hb (Nat.zero_le _) (by simp)
theorem OwnS.form (h : OwnS t s f w base v l) : ∃ A c, v = .slice A l.length c ∧ l.length ≤ c ∧ c ≤ maxLen ∧ Sees w w.heap.size A (strip f l) := by
  obtain ⟨A, c, rfl, h1, h2⟩ := own_form h.out
  exact ⟨A, c, rfl, h1, h2, Sees.of_own h.out⟩
theorem OwnS.sees {A : Option Addr} {n c : Nat} (h : OwnS t s f w base (.slice A n c) l) : Sees w w.heap.size A (strip f l) := by
  obtain ⟨A', c', e, _, _, hs⟩ := h.form
  injection e with e1 e2 e3
  rw [e1]; exact hs
theorem OwnS.below (h : OwnS t s f w base v l) (hb : Below w.heap.size w w') : OwnS t s f w' base v l := own_below h hb
theorem OwnS.mono (h : OwnS t s f w base v l) (hb : base' ≤ base) : OwnS t s f w base' v l := own_mono h hb
theorem OwnS.alloc (h : OwnS t s f w base v l) (o : Obj) : OwnS t s f (w.alloc o) base v l := h.below ((Below.refl _ _).alloc (Nat.le_refl _) o)
theorem OwnS.drew (h : OwnS t s f w base v l) : OwnS t s f w.drew base v l := h.below ((Below.refl _ _).drew)
theorem OwnS.kept (h : OwnS t s f w base v l) {row : Option Nat} (hg : w.grownBy w' row) (hr : ∀ k, v.ownBlock = some k → row ≠ some k) : OwnS t s f w' base v l := row_kept h hg hr
theorem OwnS.lt (h : OwnS t s f w base v l) : ∀ k, v.ownBlock = some k → base ≤ k ∧ k < w.heap.size := fun k hk => h.out.lt k hk
/-- Behind an append of one element. -/
theorem OwnS.snoc {W wr w1 : World} {base : Nat} {v v' : Value} {ys : List α} {x : α} {o : Obj} (ho : OwnS t s f wr base v ys) (hb : Below base W wr) (hs : base ≤ W.heap.size)
    (h' : w1.ownsRow base t s v' (ys.length + 1) (strip f ys ++ f x)) (hg : (wr.alloc o).grownBy w1 v.ownBlock) : OwnS t s f w1 base v' (ys ++ [x]) ∧ Below base W w1 := by
  refine ⟨?_, ?_⟩
  · unfold OwnS
    rw [strip_snoc, List.length_append]
    exact h'
  · have hz := hb.size
    exact (hb.alloc (by omega) o).grown hg (by simp; omega) fun k hk => (ho.out.lt k hk).1
end
end Go.Proofs.Ytehdbllpiokbnaa

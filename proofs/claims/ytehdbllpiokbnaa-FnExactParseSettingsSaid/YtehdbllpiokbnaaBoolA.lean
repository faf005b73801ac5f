/-
  Lists of truth values: in memory; of the call's own; what the exact laws' helpers answer on them. Condition: the list lies in memory and is at most 2^22 long.
-/
import Derived.Test.YtehdbllpiokbnaaOwnB
import Derived.Test.YtehdbllpiokbnaaBase
import Derived.OwnWalk
import Derived.Test.YtehdbllpiokbnaaStrip
namespace Go.Proofs.Ytehdbllpiokbnaa
open Go.RowKit

def boos (xs : List Bool) : List Value := xs.map Value.bool
theorem boos_len (xs : List Bool) : (boos xs).length = xs.length := by simp [boos]
theorem boos_at {xs : List Bool} {k : Nat} (hk : k < xs.length) : (boos xs)[k]? = some (.bool xs[k]) := by simp [boos, hk]
theorem boos_app (xs ys : List Bool) : boos (xs ++ ys) = boos xs ++ boos ys := by simp [boos]
theorem boos_one (xs : List Bool) : ∀ u ∈ boos xs, u.oneCell' = true := by
  intro u hu
  obtain ⟨x, _, rfl⟩ := List.mem_map.1 hu
  rfl
/-- A truth value of a row. -/
theorem Sees.boo {w : World} {B : Nat} {A : Option Addr} {l : List Bool} (h : Sees w B A (boos l)) {k : Nat} (hk : k < l.length) : ∃ b o, A = some ⟨b, o, none⟩ ∧ b < B ∧ w.cell? ⟨b, o + k, none⟩ = some (.bool l[k]) := by
  obtain ⟨b, o, e, hb, hc⟩ := h (by intro e; have := boos_len l; rw [e] at this; simp at this; omega)
  exact ⟨b, o, e, hb, hc k _ (boos_at hk)⟩
theorem Sees.btake {w : World} {B : Nat} {A : Option Addr} {l : List Bool} (h : Sees w B A (boos l)) (k : Nat) : Sees w B A (boos (l.take k)) := by
  have e : boos (l.take k) = (boos l).take k := by simp [boos]
  rw [e]; exact h.take k
theorem booInfo : (Try.prog.info? 4).map (fun i => (i.zero, i.size, i.bytes)) = some (some (.bool false), 1, 1) := by kernel_rfl
/-- The value v is a slice of the truth values ys, which the call itself made: all of it lies from block base on. -/
def OwnT (w : World) (base : Nat) (v : Value) (ys : List Bool) : Prop := w.ownsRow base 4 1 v ys.length (boos ys)
section
variable {w w' : World} {base base' : Nat} {v : Value} {ys : List Bool}
theorem OwnT.out (h : OwnT w base v ys) : w.ownsRow base 4 1 v ys.length (boos ys) := h
theorem OwnT.none_ (w : World) (base : Nat) : OwnT w base (.slice none 0 0) [] := World.ownsRow_nil w base _ 1
theorem OwnT.made (w : World) (base : Nat) (hb : base ≤ w.heap.size) : OwnT (w.alloc (.cells #[] 4)) base (.slice (some ⟨w.heap.size, 0, none⟩) 0 0) [] :=
  World.ownsRow_made w #[] 0 hb (Nat.zero_le _) rfl
theorem OwnT.form (h : OwnT w base v ys) : ∃ A c, v = .slice A ys.length c ∧ ys.length ≤ c ∧ c ≤ maxLen ∧ Sees w w.heap.size A (boos ys) := by
  obtain ⟨A, c, rfl, h1, h2⟩ := own_form h.out
  exact ⟨A, c, rfl, h1, h2, Sees.of_own h.out⟩
theorem OwnT.sees {A : Option Addr} {n c : Nat} (h : OwnT w base (.slice A n c) ys) : Sees w w.heap.size A (boos ys) := by
  obtain ⟨A', c', e, _, _, hs⟩ := h.form
  injection e with e1 e2 e3
  rw [e1]; exact hs
theorem OwnT.below (h : OwnT w base v ys) (hb : Below w.heap.size w w') : OwnT w' base v ys := own_below h hb
theorem OwnT.mono (h : OwnT w base v ys) (hb : base' ≤ base) : OwnT w base' v ys := own_mono h hb
theorem OwnT.lt (h : OwnT w base v ys) : ∀ k, v.ownBlock = some k → base ≤ k ∧ k < w.heap.size := fun k hk => h.out.lt k hk
theorem OwnT.drew (h : OwnT w base v ys) : OwnT w.drew base v ys := h.below ((Below.refl _ _).drew)
theorem OwnT.kept (h : OwnT w base v ys) {row : Option Nat} (hg : w.grownBy w' row) (hr : ∀ k, v.ownBlock = some k → row ≠ some k) : OwnT w' base v ys := row_kept h hg hr
theorem OwnT.snoc {W wr w1 : World} {v v' : Value} {x : Bool} {o : Obj} (ho : OwnT wr base v ys) (hb : Below base W wr) (hs : base ≤ W.heap.size)
    (h' : w1.ownsRow base 4 1 v' (ys.length + 1) (boos ys ++ [.bool x])) (hg : (wr.alloc o).grownBy w1 v.ownBlock) : OwnT w1 base v' (ys ++ [x]) ∧ Below base W w1 := by
  refine ⟨?_, ?_⟩
  · unfold OwnT
    rw [boos_app, List.length_append]
    exact h'
  · have hz := hb.size
    exact (hb.alloc (by omega) o).grown hg (by simp; omega) fun k hk => (ho.out.lt k hk).1
end
theorem boos_set (xs : List Bool) (k : Nat) (x : Bool) : boos (xs.set k x) = (boos xs).set k (.bool x) := by simp [boos, List.map_set]
/-- A store into a list of the call's own. -/
theorem boo_put {w : World} {base g n c : Nat} {ys : List Bool} (h : w.ownsRow base 4 1 (.slice (some ⟨g, 0, none⟩) n c) n (boos ys)) (k : Nat) (x : Bool) :
    (w.setCell ⟨g, k, none⟩ (.bool x)).ownsRow base 4 1 (.slice (some ⟨g, 0, none⟩) n c) n (boos (ys.set k x)) := by
  rw [boos_set]; exact row_put h _ _
theorem boo_at {w : World} {base g n c : Nat} {ys : List Bool} (h : w.ownsRow base 4 1 (.slice (some ⟨g, 0, none⟩) n c) n (boos ys)) {k : Nat} (hk : k < ys.length) : w.cell? ⟨g, k, none⟩ = some (.bool ys[k]) := by
  obtain ⟨b, o, e, _, hc⟩ := (Sees.of_own h).boo hk
  injection e with e
  injection e with e1 e2
  subst e1 e2
  simpa using hc
theorem made_boos (n : Nat) : (madeCells #[Value.bool false] n).toList = boos (List.replicate n false) := by
  simp [madeCells, boos, Nat.mod_one, List.map_const']
theorem boo_fill {xs : List Bool} {k : Nat} (hlt : k < xs.length) : (xs.take k ++ List.replicate (xs.length - k) false).set k xs[k] = xs.take (k + 1) ++ List.replicate (xs.length - (k + 1)) false := by
  rw [List.set_append_right _ _ (by simp; omega)]
  have e1 : xs.length - k = (xs.length - (k + 1)) + 1 := by omega
  rw [e1, List.replicate_succ]
  simp only [List.length_take, Nat.min_eq_left (Nat.le_of_lt hlt), Nat.sub_self, List.set_cons_zero]
  rw [List.take_succ_eq_append_getElem hlt, List.append_assoc]
  rfl
end Go.Proofs.Ytehdbllpiokbnaa

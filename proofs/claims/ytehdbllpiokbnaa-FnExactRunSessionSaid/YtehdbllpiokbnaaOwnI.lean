/-
  Lists of numbers of the call's own; what the model's copyInts answers. Condition: the list lies in memory and is at most 2^22 long.
-/
import Derived.Test.YtehdbllpiokbnaaBase
import Derived.OwnWalk

namespace Go.Proofs.Ytehdbllpiokbnaa
open Go.RowKit

theorem intInfo : (Try.prog.info? 3).map (fun i => (i.zero, i.size, i.bytes)) = some (some (.int .i64 0), 1, 8) := by kernel_rfl

/-- The value v is a slice of the numbers ys, which the call itself made: all of it lies from block base on. -/
def Own (w : World) (base : Nat) (v : Value) (ys : List Int) : Prop := w.ownsRow base 3 1 v ys.length (ints ys)
theorem Own.out {w : World} {base : Nat} {v : Value} {ys : List Int} (h : Own w base v ys) : w.ownsRow base 3 1 v ys.length (ints ys) := h
theorem Own.none_ (w : World) (base : Nat) : Own w base (.slice none 0 0) [] := World.ownsRow_nil w base _ 1
theorem Own.made (w : World) (base : Nat) (hb : base ≤ w.heap.size) : Own (w.alloc (.cells #[] 3)) base (.slice (some ⟨w.heap.size, 0, none⟩) 0 0) [] :=
  World.ownsRow_made w #[] 0 hb (Nat.zero_le _) rfl
theorem Own.form {w : World} {base : Nat} {v : Value} {ys : List Int} (h : Own w base v ys) : ∃ A c, v = .slice A ys.length c ∧ Sees w w.heap.size A (ints ys) := by
  obtain ⟨A, c, rfl, _, _⟩ := own_form h.out
  exact ⟨A, c, rfl, Sees.of_own h.out⟩
theorem Own.below {w w' : World} {base : Nat} {v : Value} {ys : List Int} (h : Own w base v ys) (hb : Below w.heap.size w w') : Own w' base v ys := own_below h hb
theorem Own.mono {w : World} {base base' : Nat} {v : Value} {ys : List Int} (h : Own w base v ys) (hb : base' ≤ base) : Own w base' v ys := own_mono h hb
theorem Own.setCell {w : World} {base : Nat} {v : Value} {ys : List Int} (h : Own w base v ys) {a : Addr} (ha : a.block < base) (u : Value) : Own (w.setCell a u) base v ys := ownsRow_setCell_below h ha u
theorem Own.snoc {W wr w1 : World} {base : Nat} {v v' : Value} {ys : List Int} {x : Int} {o : Obj} (ho : Own wr base v ys) (hb : Below base W wr) (hs : base ≤ W.heap.size)
    (h' : w1.ownsRow base 3 1 v' (ys.length + 1) (ints ys ++ [.int .i64 x])) (hg : (wr.alloc o).grownBy w1 v.ownBlock) : Own w1 base v' (ys ++ [x]) ∧ Below base W w1 := by
  refine ⟨?_, ?_⟩
  · unfold Own
    rw [ints_app, List.length_append]
    exact h'
  · have hz := hb.size
    exact (hb.alloc (by omega) o).grown hg (by simp; omega) fun k hk => (ho.out.lt k hk).1

set_option maxHeartbeats 400000 in
theorem copyInts_any (A : Option Addr) (c : Nat) (xs : List Int) (w : World) (h : Sees w w.heap.size A (ints xs)) (hn : xs.length ≤ 4194304) :
    Calls Try.prog 97 #[.slice A xs.length c] w fun e w' => ∃ v, e = .returned v ∧ Own w' w.heap.size v xs ∧ Below w.heap.size w w' := by
  obtain ⟨i0, hi0, hz0, hz1, hz2⟩ := info_parts intInfo
  have HN := hid hn; clear hn
  have ho := Own.made w w.heap.size (Nat.le_refl _)
  have hb := (Below.refl w.heap.size w).alloc (Nat.le_refl _) (.cells #[] 3)
  rcases A with _ | ad
  · have e := h.none_nil
    have e : xs = [] := by cases xs <;> simp_all [ints]
    subst e
    clear HN
    go_enter Try.func97, Try.ntmps97
    go_wp2
    go_ret
    exact ⟨_, rfl, ho, hb⟩
  · go_enter Try.func97, Try.ntmps97
    go_wp2_with (at_builtin; refine wpList_append_own _ rfl _ _ 22 rfl w.heap.size 3 i0 (.int .i64 0) 1 8 Try.underlying22 hi0 hz0 hz1 hz2 rfl (by decide) _ _ _ rfl ho.out ad xs.length c (ints xs) rfl ?c1 ?cn ?c2 ?c3 ?c4 ?c5 ?_)
    case c1 => simp [ints]
    case cn => exact (h.alloc (Nat.le_refl _) _).add
    case c2 => exact ints_one xs
    case c3 => have := HN.out; unfold maxLen; simp; omega
    case c4 => have := HN.out; simp; omega
    case c5 => simp
    case _ =>
      intro v1 w1 h1 hg1 _
      go_wp2
      go_ret
      refine ⟨_, rfl, ?_, hb.grown hg1 (by simp) fun k hk => (ho.out.lt k hk).1⟩
      simpa [Own, ints] using h1

end Go.Proofs.Ytehdbllpiokbnaa

/-
  What the model's generator of checks answers, and the functions that draw the arguments of the laws on checks. Condition: the code is at most 2^20 bytes.
-/
import Derived.Test.YtmaocmgnkdieeabBoolA
import Derived.Test.YtmaocmgnkdieeabReadB
import Derived.Test.YtmaocmgnkdieeabApp
namespace Go.Proofs.Ytmaocmgnkdieeab
open Go.RowKit

/-- The generator between two steps: its list of truth values, the reader, and nothing else changed. -/
def GT (w0 wr : World) (g q : Nat) (v : Value) (l : List Bool) : Prop := OwnT wr w0.heap.size v l ∧ Rd wr g q ∧ w0.grownBy wr (some g) ∧ g < w0.heap.size
section
variable {w0 wr w' : World} {g q q' : Nat} {v v' : Value} {l : List Bool}
theorem GT.below (h : GT w0 wr g q v l) (hb : Below wr.heap.size wr w') : GT w0 w' g q v l := by
  obtain ⟨h1, h2, h3, h4⟩ := h
  exact ⟨h1.below hb, h2.below hb h2.lt, grown_trans h3 (grown_of_below hb _), h4⟩
theorem GT.alloc (h : GT w0 wr g q v l) (o : Obj) : GT w0 (wr.alloc o) g q v l := h.below ((Below.refl _ _).alloc (Nat.le_refl _) o)
theorem GT.pick (h : GT w0 wr g q v l) (hg : wr.grownBy w' (some g)) (hr : Rd w' g q') : GT w0 w' g q' v l := by
  obtain ⟨h1, h2, h3, h4⟩ := h
  exact ⟨h1.kept hg (fun k hk e => by injection e with e; have := (h1.lt k hk).1; omega), hr, grown_trans h3 hg, h4⟩
theorem GT.lt (h : GT w0 wr g q v l) : g < w0.heap.size ∧ w0.heap.size ≤ wr.heap.size ∧ g < wr.heap.size := ⟨h.2.2.2, h.2.2.1.size, h.2.1.lt⟩
theorem GT.rd (h : GT w0 wr g q v l) : Rd wr g q := h.2.1
theorem GT.own (h : GT w0 wr g q v l) : OwnT wr w0.heap.size v l := h.1
theorem GT.snoc {o : Obj} {x : Bool} (h : GT w0 wr g q v l) (h' : w'.ownsRow w0.heap.size 4 1 v' (l.length + 1) (boos l ++ [.bool x])) (hg : (wr.alloc o).grownBy w' v.ownBlock) : GT w0 w' g q v' (l ++ [x]) := by
  have hk := h.alloc o
  obtain ⟨h1, h2, h3, h4⟩ := hk
  have hb7 : Below w0.heap.size (wr.alloc o) w' := (Below.refl _ _).grown hg h3.size (fun k hk => (h.1.lt k hk).1)
  refine ⟨?_, h2.below hb7 h4, ⟨hb7.os.trans h3.os, hb7.tape.trans h3.tape, hb7.output.trans h3.output, Nat.le_trans h3.size hb7.size, fun i hi hn => (hb7.block i hi).trans (h3.block i hi hn)⟩, h4⟩
  unfold OwnT
  rw [boos_app, List.length_append]
  exact h'
end
/-- What has been drawn: a list of truth values of its own; nothing that was there has changed. -/
def DT (w w' : World) (A : Option Addr) (c : Nat) (l : List Bool) : Prop := OwnT w' w.heap.size (.slice A l.length c) l ∧ Below w.heap.size w w' ∧ l.length ≤ 13 ∧ l.length ≤ c
section
variable {w w' w'' : World} {A : Option Addr} {c : Nat} {l : List Bool}
theorem DT.below (h : DT w w' A c l) (hb : Below w'.heap.size w' w'') : DT w w'' A c l := by
  obtain ⟨h1, h2, h3⟩ := h
  exact ⟨h1.below hb, h2.trans (hb.mono h2.size), h3⟩
theorem DT.alloc (h : DT w w' A c l) (o : Obj) : DT w (w'.alloc o) A c l := h.below ((Below.refl _ _).alloc (Nat.le_refl _) o)
theorem DT.drew (h : DT w w' A c l) : DT w w'.drew A c l := h.below ((Below.refl _ _).drew)
theorem DT.drewN (h : DT w w' A c l) (k : Nat) : DT w (w'.drewN k) A c l := h.below (below_drewN (Below.refl _ _) k)
theorem DT.sees (h : DT w w' A c l) : Sees w' w'.heap.size A (boos l) := OwnT.sees h.1
theorem DT.bel (h : DT w w' A c l) : Below w.heap.size w w' := h.2.1
theorem DT.len (h : DT w w' A c l) : l.length ≤ 13 := h.2.2.1
theorem DT.cap (h : DT w w' A c l) : l.length ≤ c := h.2.2.2
theorem DT.n4 (h : DT w w' A c l) : l.length ≤ 4194304 := Nat.le_trans h.2.2.1 (by decide)
theorem DT.of_gt {w1 : World} {g q : Nat} (hb : Below w.heap.size w w1) (hg : GT w1 w' g q (.slice A l.length c) l) (hw : w.heap.size ≤ g) (hl : l.length ≤ 13) : DT w w' A c l := by
  obtain ⟨h1, h2, h3, h4⟩ := hg
  obtain ⟨A', c', e, r1, _, _⟩ := OwnT.form h1
  injection e with e1 e2 e3
  exact ⟨h1.mono hb.size, hb.trans (below_of_grown h3 hw (Nat.le_of_lt h4)), hl, by omega⟩
end
def ChkAns (w : World) (g p : Nat) (e : Ending) (w' : World) : Prop := ∃ (A : Option Addr) (c : Nat) (l : List Bool) (q : Nat), e = .returned (.slice A l.length c) ∧ GT w w' g q (.slice A l.length c) l ∧ l.length ≤ 13 ∧ q ≤ p + 30
set_option maxHeartbeats 4000000 in
theorem someChecks_any (g p : Nat) (w : World) (h : Rd w g p) (hp : p < 1000) :
    Calls Try.prog 16 #[.pointer (some ⟨g, 0, none⟩)] w (ChkAns w g p) := by
  have hg := h.lt
  obtain ⟨i0, hi0, hz0, hz1, hz2⟩ := info_parts booInfo
  have gl0 : GT w (w.alloc (.cells #[] 4)) g p (.slice (some ⟨w.heap.size, 0, none⟩) 0 0) [] :=
    ⟨OwnT.made w w.heap.size (Nat.le_refl _), h.alloc _, grown_of_below ((Below.refl _ _).alloc (Nat.le_refl _) _) _, hg⟩
  go_enter Try.func16, Try.ntmps16
  go_wp2_with fail
  refine (one_any g p _ 7 _ [6, 8, 12, 4, 1, 0, 13] _ (gl0.alloc _).rd (by omega) (At.newAt 3 _ (by simp)) (by rfl) (by omega) (by rfl) (by omega) (by omega)).mono ?_
  rintro e w1 ⟨n0, rfl, hn0, hg1, hr1⟩
  have hn0' : ∃ k : Nat, n0 = k ∧ k ≤ 13 := ⟨n0.toNat, by simp at hn0; omega, by simp at hn0; omega⟩
  obtain ⟨k0, rfl, hk0⟩ := hn0'
  clear hn0
  have gl1 := (gl0.alloc _).pick hg1 hr1
  clear hg1 hr1 gl0
  go_wp2_with fail
  go_loopw [3, 4, 5] (fun v b i wr => ∃ (k q : Nat) (A : Option Addr) (c : Nat) (l : List Bool) (x : Bool), i = .int .i64 k ∧ l.length + k ≤ 13 ∧ q + k ≤ p + 20 ∧ v = .slice A l.length c ∧ b = .bool x ∧ GT w wr g q (.slice A l.length c) l) (fun _ _ i _ => (intOf i).toNat)
  case atStart => exact ⟨k0, p + 1, _, _, [], true, rfl, by simp; omega, by omega, rfl, rfl, gl1⟩
  case round =>
    clear gl1
    obtain ⟨k, q, A, c, l, x, rfl, hk, hq, rfl, rfl, gl⟩ := hrel
    obtain ⟨z1, z2, z3⟩ := gl.lt
    by_cases hk0 : 0 < k
    · have hki : (0 : Int) < (k : Int) := by omega
      go_wp2_with fail
      refine (pick_any g q 3 _ gl.rd (by omega)).mono ?_
      rintro e w2 ⟨f, rfl, hf0, hf1, hg2, hr2⟩
      have gl2 := gl.pick hg2 hr2
      clear hg2 hr2 hf1 gl
      rcases hf : (f == 0) with _ | _
      · go_wp2_with (at_builtin; refine wpList_append_own _ rfl _ _ 25 rfl w.heap.size 4 i0 (.bool false) 1 1 Try.underlying25 hi0 hz0 hz1 hz2 rfl (by decide) _ _ _ rfl (gl2.alloc _).own.out ⟨w2.heap.size, 0, none⟩ 1 1 [.bool x] rfl rfl (by simpa using cells_new w2 [.bool x] _) ?c2 ?c3 ?c4 ?c5 ?_)
        case c2 => simp [Value.oneCell']
        case c3 => unfold maxLen; omega
        case c4 => omega
        case c5 => have := gl2.lt; simp; omega
        case _ =>
          intro v1 w5 h1 hg5 _
          have gl5 := gl2.snoc (x := x) h1 hg5
          obtain ⟨A5, c5, rfl, _, _, _⟩ := OwnT.form gl5.own
          have e5 : (l ++ [x]).length = l.length + 1 := by simp
          clear h1 hg5 gl2
          rw [e5] at gl5
          go_wp2
          go_roundw
          case rel => exact ⟨k - 1, q + 1, A5, c5, l ++ [x], x, by go_num, by rw [e5]; omega, by omega, by rw [e5], rfl, by rw [e5]; exact gl5⟩
          case measure => simp [intOf]; omega
      · go_wp2_with (at_builtin; refine wpList_append_own _ rfl _ _ 25 rfl w.heap.size 4 i0 (.bool false) 1 1 Try.underlying25 hi0 hz0 hz1 hz2 rfl (by decide) _ _ _ rfl (gl2.alloc _).own.out ⟨w2.heap.size, 0, none⟩ 1 1 [.bool (!x)] rfl rfl (by simpa using cells_new w2 [.bool (!x)] _) ?c2 ?c3 ?c4 ?c5 ?_)
        case c2 => simp [Value.oneCell']
        case c3 => unfold maxLen; omega
        case c4 => omega
        case c5 => have := gl2.lt; simp; omega
        case _ =>
          intro v1 w5 h1 hg5 _
          have gl5 := gl2.snoc (x := !x) h1 hg5
          obtain ⟨A5, c5, rfl, _, _, _⟩ := OwnT.form gl5.own
          have e5 : (l ++ [!x]).length = l.length + 1 := by simp
          clear h1 hg5 gl2
          rw [e5] at gl5
          go_wp2
          go_roundw
          case rel => exact ⟨k - 1, q + 1, A5, c5, l ++ [!x], !x, by go_num, by rw [e5]; omega, by omega, by rw [e5], rfl, by rw [e5]; exact gl5⟩
          case measure => simp [intOf]; omega
    · have hki : ¬ (0 : Int) < (k : Int) := by omega
      go_wp2
      go_ret
      exact ⟨A, c, l, q, rfl, gl, by omega, by omega⟩

def ChD0 (w : World) (e : Ending) (w' : World) : Prop := ∃ A c l, e = .returned (.slice A (List.length l) c) ∧ DT w w' A c l
def ChD2 (w : World) (e : Ending) (w' : World) : Prop := ∃ A c l, ∃ i j : Int, e = .returned (.tuple #[.slice A (List.length l) c, .int .i64 i, .int .i64 j]) ∧ DT w w' A c l
end Go.Proofs.Ytmaocmgnkdieeab

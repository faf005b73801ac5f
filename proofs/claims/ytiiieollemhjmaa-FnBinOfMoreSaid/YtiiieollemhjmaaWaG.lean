/-
  What draws the arguments of the laws on waits. Condition: the code is at most 2^20 bytes.
-/
import Derived.Test.YtiiieollemhjmaaSpoil
import Derived.Test.YtiiieollemhjmaaReadB
import Derived.Test.YtiiieollemhjmaaApp
namespace Go.Proofs.Ytiiieollemhjmaa
open Go.RowKit

/-- Numbers that were drawn: they lie in new blocks; nothing that was there has changed. -/
def WL (w w' : World) (A : Option Addr) (c : Nat) (ys : List Int) : Prop := SeesF w' (fun b => b < w.heap.size) A (ints ys) ∧ Below w.heap.size w w' ∧ ys.length ≤ 18 ∧ ys.length ≤ c
section
variable {w w' w'' : World} {A : Option Addr} {c : Nat} {ys : List Int}
theorem WL.below (h : WL w w' A c ys) (hb : Below w'.heap.size w' w'') : WL w w'' A c ys := ⟨h.1.below hb, h.2.1.trans (hb.mono h.2.1.size), h.2.2⟩
theorem WL.drewN (h : WL w w' A c ys) (k : Nat) : WL w (w'.drewN k) A c ys := h.below (below_drewN (Below.refl _ _) k)
theorem WL.drew (h : WL w w' A c ys) : WL w w'.drew A c ys := h.below ((Below.refl _ _).drew)
theorem WL.alloc (h : WL w w' A c ys) (o : Obj) : WL w (w'.alloc o) A c ys := h.below ((Below.refl _ _).alloc (Nat.le_refl _) o)
theorem WL.sees (h : WL w w' A c ys) : Sees w' w'.heap.size A (ints ys) := h.1.sees
theorem WL.bel (h : WL w w' A c ys) : Below w.heap.size w w' := h.2.1
theorem WL.n18 (h : WL w w' A c ys) : ys.length ≤ 18 := h.2.2.1
theorem WL.n4 (h : WL w w' A c ys) : ys.length ≤ 4194304 := Nat.le_trans h.2.2.1 (by decide)
theorem WL.cap (h : WL w w' A c ys) : ys.length ≤ c := h.2.2.2
end
def WtD1 (w : World) (e : Ending) (w' : World) : Prop := ∃ A c ys, e = .returned (.slice A (List.length ys) c) ∧ WL w w' A c ys
def WtDi (w : World) (e : Ending) (w' : World) : Prop := ∃ A c ys, ∃ i : Int, e = .returned (.tuple #[.slice A (List.length ys) c, .int .i64 i]) ∧ WL w w' A c ys ∧ -1 ≤ i ∧ i ≤ 101
def WtD2 (w : World) (e : Ending) (w' : World) : Prop := ∃ A c ys B d zs, e = .returned (.tuple #[.slice A (List.length ys) c, .slice B (List.length zs) d]) ∧ WL w w' A c ys ∧ WL w w' B d zs
def WtN (w : World) (e : Ending) (w' : World) : Prop := ∃ i : Int, e = .returned (.int .i64 i) ∧ Below w.heap.size w w' ∧ -1000 ≤ i ∧ i ≤ 2000
/-- Numbers that a part of the generator drew. -/
def WtAns (w : World) (g p : Nat) (e : Ending) (w' : World) : Prop := ∃ (A : Option Addr) (c : Nat) (ys : List Int) (q : Nat),
  e = .returned (.slice A ys.length c) ∧ ys.length ≤ c ∧ ys.length ≤ 18 ∧ SeesF w' (fun b => b < w.heap.size) A (ints ys) ∧ w.grownBy w' (some g) ∧ Rd w' g q ∧ q ≤ p + 50
theorem grown_lowW {w0 wr w' : World} {g B : Nat} (h : w0.grownBy wr (some g)) (hb : Below B wr w') (hB : w0.heap.size ≤ B) : w0.grownBy w' (some g) :=
  ⟨hb.os.trans h.os, hb.tape.trans h.tape, hb.output.trans h.output, Nat.le_trans h.size hb.size, fun i hi hne => (hb.block i (by omega)).trans (h.block i hi hne)⟩

set_option maxHeartbeats 4000000 in
theorem drawBinOf_any (A : Option Addr) (n c : Nat) (zs : List Int) (w : World) (h : Sees w w.heap.size A (byts zs)) (hz : ∀ z ∈ zs, 0 ≤ z ∧ z ≤ 255) (hn : zs.length = n) (hc : n ≤ c) (hm : n ≤ 1048576) (hcc : c ≤ maxLen) :
    Calls Try.prog 27 #[.slice A n c] w (WtN w) := by
  have HZ := hid hz
  have HE := hid hn
  have HC := hid hcc
  clear hz hn hcc
  go_enter Try.func27, Try.ntmps27
  go_wp2_with fail
  refine (newReader_any A n c zs _ h HZ.out HE.out hc hm HC.out).mono ?_
  rintro e w1 ⟨rfl, hb1, hr1⟩
  have hgl := hr1.lt
  go_wp2_with fail
  refine (pick_any w.heap.size 0 250 _ hr1 (by omega)).mono ?_
  rintro e w2 ⟨x, rfl, lx, ux, hg2, hr2⟩
  have bx := ux (by omega)
  have hz2 := hg2.size
  have hbb2 := hb1.trans (below_of_grown hg2 (Nat.le_refl _) (Nat.le_of_lt hgl))
  clear ux hg2 hr1
  go_wp2_with fail
  refine (one_any w.heap.size (0 + 1) _ 13 _ [0, 1, 2, 3, 4, 7, 8, 63, 64, 1000, 1001, -1, x] _ (hr2.alloc _) (by omega) (At.new _ 3 _) (by rfl) (by omega) (by rfl) (by omega) (by omega)).mono ?_
  rintro e w3 ⟨y, rfl, my, hg3, hr3⟩
  have my2 : -1 ≤ y ∧ y ≤ 1001 := by simp at my; omega
  have hbb3 := (hbb2.alloc hbb2.size (.cells #[.int .i64 0, .int .i64 1, .int .i64 2, .int .i64 3, .int .i64 4, .int .i64 7, .int .i64 8, .int .i64 63, .int .i64 64, .int .i64 1000, .int .i64 1001, .int .i64 (-1), .int .i64 x] 3)).trans (below_of_grown hg3 (Nat.le_refl _) (by simp; omega))
  clear my hg3 hr2 hbb2
  go_wp2
  go_ret
  exact ⟨y, rfl, hbb3, by omega, by omega⟩

end Go.Proofs.Ytiiieollemhjmaa

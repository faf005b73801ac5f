/-
  The functions that draw the arguments of the laws on breakers that take no list. Condition: the code is at most 2^20 bytes.
-/
import Derived.Test.YtkailakeiepkgaaBrkGen
import Derived.Test.YtkailakeiepkgaaApp
import Derived.Deep.RegionHeld3
namespace Go.Proofs.Ytkailakeiepkgaa
open Go.RowKit Brk

def BrD0 (w : World) (e : Ending) (w' : World) : Prop := ∃ b : Br, e = .returned (.agg #[.int .i64 b.li, .int .i64 b.re, .int .i64 b.st, .int .i64 b.fa, .int .i64 b.si]) ∧ Below w.heap.size w w'
def BrD1 (w : World) (e : Ending) (w' : World) : Prop := ∃ (b : Br) (t : Int), e = .returned (.tuple #[.agg #[.int .i64 b.li, .int .i64 b.re, .int .i64 b.st, .int .i64 b.fa, .int .i64 b.si], .int .i64 t]) ∧ Below w.heap.size w w'
def BrD2 (w : World) (e : Ending) (w' : World) : Prop := ∃ (b : Br) (g : Bool) (t : Int), e = .returned (.tuple #[.agg #[.int .i64 b.li, .int .i64 b.re, .int .i64 b.st, .int .i64 b.fa, .int .i64 b.si], .bool g, .int .i64 t]) ∧ Below w.heap.size w w'

set_option maxHeartbeats 2000000 in
theorem drawValidBreaker_any (A : Option Addr) (n c : Nat) (zs : List Int) (w : World) (h : Sees w w.heap.size A (byts zs)) (hz : ∀ z ∈ zs, 0 ≤ z ∧ z ≤ 255) (hn : zs.length = n) (hc : n ≤ c) (hm : n ≤ 1048576) (hcc : c ≤ maxLen) :
    Calls Try.prog 28 #[.slice A n c] w (BrD0 w) := by
  have HZ := hid hz
  have HE := hid hn
  have HC := hid hcc
  clear hz hn hcc
  have pr0 := At.new w 25 #[.int .i64 0, .int .i64 0, .int .i64 0, .int .i64 0, .int .i64 0]
  have hB0 := (Below.refl w.heap.size w).alloc (Nat.le_refl _) (.cells #[.int .i64 0, .int .i64 0, .int .i64 0, .int .i64 0, .int .i64 0] 25)
  go_enter Try.func28, Try.ntmps28
  go_wp2_with fail
  refine (newReader_any A n c zs _ ((h.alloc (Nat.le_refl _) _).more (by simp)) HZ.out HE.out hc hm HC.out).mono ?_
  rintro e w1 ⟨rfl, hb1, hr1⟩
  have pr1 := pr0.below hb1 pr0.lt
  have hB1 := hB0.trans (hb1.mono hB0.size)
  clear pr0 hB0 hb1
  simp only [World.size_alloc] at hr1
  have hl1 := hr1.lt
  go_wp2_with fail
  refine (anyBreaker_any (w.heap.size + 1) 0 _ hr1 (by omega)).mono ?_
  rintro e w2 ⟨b, q, rfl, hg2, hr2, hq, hs0, hs1⟩
  have pr2 := pr1.past hg2 (by omega)
  have hB2 := hB1.trans (below_of_grown hg2 (B := w.heap.size) (by omega) (by omega))
  clear pr1 hB1 hg2 hr1
  have hl2 := hr2.lt
  have qf := pr2.frozen
  have q0 := pr2.cell
  have ql := pr2.lt
  go_wp2
  have hat := (((((pr2.set 0 (.int .i64 b.li)).set 1 (.int .i64 b.re)).set 2 (.int .i64 b.st)).set 3 (.int .i64 b.fa)).set 4 (.int .i64 b.si)).cell
  refine bodyPost_ret (v := .agg #[.int .i64 b.li, .int .i64 b.re, .int .i64 b.st, .int .i64 b.fa, .int .i64 b.si]) (by simp [results, Try.results28, go_sem, hat]) rfl ⟨b, rfl, ?_⟩
  exact (((((hB2.setCell (by simp) _).setCell (by simp) _).setCell (by simp) _).setCell (by simp) _).setCell (by simp) _)

end Go.Proofs.Ytkailakeiepkgaa

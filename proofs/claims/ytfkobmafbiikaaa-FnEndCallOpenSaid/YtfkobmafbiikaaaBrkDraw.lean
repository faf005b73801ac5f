/-
  The functions that draw the arguments of the laws on breakers that take no list. Condition: the code is at most 2^20 bytes.
-/
import Derived.Test.YtfkobmafbiikaaaBrkGen
import Derived.Test.YtfkobmafbiikaaaApp
import Derived.Deep.RegionHeld3
namespace Go.Proofs.Ytfkobmafbiikaaa
open Go.RowKit Brk

def BrD0 (w : World) (e : Ending) (w' : World) : Prop := ∃ b : Br, e = .returned (.agg #[.int .i64 b.li, .int .i64 b.re, .int .i64 b.st, .int .i64 b.fa, .int .i64 b.si]) ∧ Below w.heap.size w w'
def BrD1 (w : World) (e : Ending) (w' : World) : Prop := ∃ (b : Br) (t : Int), e = .returned (.tuple #[.agg #[.int .i64 b.li, .int .i64 b.re, .int .i64 b.st, .int .i64 b.fa, .int .i64 b.si], .int .i64 t]) ∧ Below w.heap.size w w'
def BrD2 (w : World) (e : Ending) (w' : World) : Prop := ∃ (b : Br) (g : Bool) (t : Int), e = .returned (.tuple #[.agg #[.int .i64 b.li, .int .i64 b.re, .int .i64 b.st, .int .i64 b.fa, .int .i64 b.si], .bool g, .int .i64 t]) ∧ Below w.heap.size w w'

set_option maxHeartbeats 4000000 in
theorem drawEndCall_any (A : Option Addr) (n c : Nat) (zs : List Int) (w : World) (h : Sees w w.heap.size A (byts zs)) (hz : ∀ z ∈ zs, 0 ≤ z ∧ z ≤ 255) (hn : zs.length = n) (hc : n ≤ c) (hm : n ≤ 1048576) (hcc : c ≤ maxLen) :
    Calls Try.prog 7 #[.slice A n c] w (BrD2 w) := by
  have HZ := hid hz
  have HE := hid hn
  have HC := hid hcc
  clear hz hn hcc
  have pr0 := At.new w 24 #[.int .i64 0, .int .i64 0, .int .i64 0, .int .i64 0, .int .i64 0]
  have hB0 := (Below.refl w.heap.size w).alloc (Nat.le_refl _) (.cells #[.int .i64 0, .int .i64 0, .int .i64 0, .int .i64 0, .int .i64 0] 24)
  go_enter Try.func7, Try.ntmps7
  go_wp2_with fail
  refine (newReader_any A n c zs _ ((h.alloc (Nat.le_refl _) _).more (by simp)) HZ.out HE.out hc hm HC.out).mono ?_
  rintro e w1 ⟨rfl, hb1, hr1⟩
  have pr1 := pr0.below hb1 pr0.lt
  have hB1 := hB0.trans (hb1.mono hB0.size)
  clear pr0 hB0 hb1
  simp only [World.size_alloc] at hr1
  have hl1 := hr1.lt
  go_wp2_with fail
  refine (anyBreaker_any (w.heap.size + 1) 0 _ hr1 (by omega)).mono ?_
  rintro e w2 ⟨b, q, rfl, hg2, hr2, hq, hs0, hs1⟩
  have pr2 := pr1.past hg2 (by omega)
  have hB2 := hB1.trans (below_of_grown hg2 (B := w.heap.size) (by omega) (by omega))
  clear pr1 hB1 hg2 hr1
  have hl2 := hr2.lt
  have px3 := At.new w2 24 #[.int .i64 b.li, .int .i64 b.re, .int .i64 b.st, .int .i64 b.fa, .int .i64 b.si]
  have pr3 := pr2.alloc (.cells #[.int .i64 b.li, .int .i64 b.re, .int .i64 b.st, .int .i64 b.fa, .int .i64 b.si] 24)
  have hB3 := hB2.alloc hB2.size (.cells #[.int .i64 b.li, .int .i64 b.re, .int .i64 b.st, .int .i64 b.fa, .int .i64 b.si] 24)
  have hr3 := hr2.alloc (.cells #[.int .i64 b.li, .int .i64 b.re, .int .i64 b.st, .int .i64 b.fa, .int .i64 b.si] 24)
  clear pr2 hB2
  obtain ⟨p0, p1, p2, p3, p4, pl⟩ := px3.brk
  go_wp2_with fail
  refine (pick_any (w.heap.size + 1) q 2 _ hr3 (by omega)).mono ?_
  rintro e w5 ⟨x1, rfl, hx1, hx1b, hg5, hr5⟩
  have px5 := px3.past hg5 (by omega)
  have pr5 := pr3.past hg5 (by omega)
  have hB5 := hB3.trans (below_of_grown hg5 (B := w.heap.size) (by omega) (by simp; omega))
  clear px3 pr3 hB3 hg5 hr3 hx1b p0 p1 p2 p3 p4 pl
  have hl5 := px5.lt
  obtain ⟨p0, p1, p2, p3, p4, pl⟩ := px5.brk
  have n2 : ¬ w.heap.size + 1 = w2.heap.size := by omega
  have n3 : ¬ w.heap.size = w2.heap.size := by omega
  have hsw : ∀ y : Int, -1 ≤ y → y ≤ 1000 → IntKind.i64.wrap (b.si + y) = b.si + y := fun y h1 h2 => by rw [IntKind.wrap_i64]; omega
  have HSW := hid hsw
  clear hsw
  go_wp2_with fail
  go_region_held3 (fun w' => w'.cell? ⟨w2.heap.size, 0, none⟩ = some (.int .i64 b.li) ∧ w'.cell? ⟨w2.heap.size, 1, none⟩ = some (.int .i64 b.re) ∧ w'.cell? ⟨w2.heap.size, 2, none⟩ = some (.int .i64 b.st) ∧ w'.cell? ⟨w2.heap.size, 3, none⟩ = some (.int .i64 b.fa) ∧ w'.cell? ⟨w2.heap.size, 4, none⟩ = some (.int .i64 b.si))
    (first | with_reducible exact ⟨p0, p1, p2, p3, p4⟩ | with_reducible exact ⟨q0, q1, q2, q3, q4⟩ | go_keep)
    (first | (go_at_call 18; refine (one_any (w.heap.size + 1) (q + 1) _ 7 _ [0, 5, 10, 20, 100, -1, 1000] _ ((hr5.alloc _).drew) (by omega) ((At.newAt 3 _ (by simp)).drew) (by rfl) (by simp; omega) (by rfl) (by omega) (by omega)).mono ?_; rintro e w6 ⟨x2, rfl, hx2, hg6, hr6⟩; have hx2p : -1 ≤ x2 ∧ x2 ≤ 1000 := (by simp at hx2; omega); have hww := HSW.out x2 hx2p.1 hx2p.2; have px6 := ((px5.alloc (.cells (ints [0, 5, 10, 20, 100, -1, 1000]).toArray 3)).drew).past hg6 (by omega); have pr6 := ((pr5.alloc (.cells (ints [0, 5, 10, 20, 100, -1, 1000]).toArray 3)).drew).past hg6 (by omega); have hB6 := ((hB5.alloc hB5.size (.cells (ints [0, 5, 10, 20, 100, -1, 1000]).toArray 3)).drew).trans (below_of_grown hg6 (B := w.heap.size) (by omega) (by simp; omega)); obtain ⟨q0, q1, q2, q3, q4, ql⟩ := px6.brk; have e0 := pr6.cell; have ef := pr6.frozen))
  clear p0 p1 p2 p3 p4 pl hr6 hx2
  have el := pr6.lt
  go_wp2
  have hat := (((((pr6.set 0 (.int .i64 b.li)).set 1 (.int .i64 b.re)).set 2 (.int .i64 b.st)).set 3 (.int .i64 b.fa)).set 4 (.int .i64 b.si)).cell
  refine bodyPost_ret (v := .tuple #[.agg #[.int .i64 b.li, .int .i64 b.re, .int .i64 b.st, .int .i64 b.fa, .int .i64 b.si], .bool (x1 == 0), .int .i64 (b.si + x2)]) (by simp [results, Try.results7, go_sem, hat]) rfl ⟨b, (x1 == 0), b.si + x2, rfl, ?_⟩
  exact (((((hB6.setCell (by simp) _).setCell (by simp) _).setCell (by simp) _).setCell (by simp) _).setCell (by simp) _)

end Go.Proofs.Ytfkobmafbiikaaa

/-
  What the exact laws' helpers answer on breakers. No condition.
-/
import Derived.Test.YtkailakeiepkgaaBrkB
import Derived.Handy
namespace Go.Proofs.Ytkailakeiepkgaa
open Go.RowKit Brk

set_option maxHeartbeats 1000000 in
theorem toBreaker_any (x : Br) (w : World) :
    Calls Try.prog 10 #[.agg #[.int .i64 x.li, .int .i64 x.re, .int .i64 x.st, .int .i64 x.fa, .int .i64 x.si]] w fun e w' => e = .returned (.agg #[.int .i64 x.li, .int .i64 x.re, .int .i64 x.st, .int .i64 x.fa, .int .i64 x.si]) ∧ Below w.heap.size w w' := by
  go_enter Try.func10, Try.ntmps10
  go_wp2
  refine bodyPost_ret (v := .agg #[.int .i64 x.li, .int .i64 x.re, .int .i64 x.st, .int .i64 x.fa, .int .i64 x.si]) (by simp [results, Try.results10, go_sem]) rfl ⟨rfl, ?_⟩
  go_grown

set_option maxHeartbeats 1000000 in
theorem eqBreaker_same (x : Br) (w : World) :
    Calls Try.prog 16 #[.agg #[.int .i64 x.li, .int .i64 x.re, .int .i64 x.st, .int .i64 x.fa, .int .i64 x.si], .agg #[.int .i64 x.li, .int .i64 x.re, .int .i64 x.st, .int .i64 x.fa, .int .i64 x.si]] w fun e w' => e = .returned (.bool true) ∧ Below w.heap.size w w' := by
  go_enter Try.func16, Try.ntmps16
  go_wp2
  go_ret
  exact ⟨rfl, by go_grown⟩

/-- The five cells of a block that holds a breaker of the laws. -/
theorem At.xbrk {w : World} {g : Nat} {b : Br} (h : At w g 23 #[.int .i64 b.li, .int .i64 b.re, .int .i64 b.st, .int .i64 b.fa, .int .i64 b.si]) :
    w.cell? ⟨g, 0, none⟩ = some (.int .i64 b.li) ∧ w.cell? ⟨g, 1, none⟩ = some (.int .i64 b.re) ∧ w.cell? ⟨g, 2, none⟩ = some (.int .i64 b.st) ∧ w.cell? ⟨g, 3, none⟩ = some (.int .i64 b.fa) ∧ w.cell? ⟨g, 4, none⟩ = some (.int .i64 b.si) ∧ g < w.heap.size :=
  ⟨h.cell 0, h.cell 1, h.cell 2, h.cell 3, h.cell 4, h.lt⟩
end Go.Proofs.Ytkailakeiepkgaa

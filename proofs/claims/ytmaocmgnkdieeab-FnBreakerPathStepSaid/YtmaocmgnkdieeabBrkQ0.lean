/-
  A breaker is written into its block. No condition.
-/
import Derived.Test.YtmaocmgnkdieeabBrkD
namespace Go.Proofs.Ytmaocmgnkdieeab
open Go.RowKit Brk

/-- A breaker is written into its block. -/
theorem brk_put {w : World} {g : Nat} {X : Br} (Y : Br) (h : At w g 24 #[.int .i64 X.li, .int .i64 X.re, .int .i64 X.st, .int .i64 X.fa, .int .i64 X.si]) :
    At (((((w.setCell ⟨g, 0, none⟩ (.int .i64 Y.li)).setCell ⟨g, 1, none⟩ (.int .i64 Y.re)).setCell ⟨g, 2, none⟩ (.int .i64 Y.st)).setCell ⟨g, 3, none⟩ (.int .i64 Y.fa)).setCell ⟨g, 4, none⟩ (.int .i64 Y.si)) g 24 #[.int .i64 Y.li, .int .i64 Y.re, .int .i64 Y.st, .int .i64 Y.fa, .int .i64 Y.si] ∧
    w.grownBy (((((w.setCell ⟨g, 0, none⟩ (.int .i64 Y.li)).setCell ⟨g, 1, none⟩ (.int .i64 Y.re)).setCell ⟨g, 2, none⟩ (.int .i64 Y.st)).setCell ⟨g, 3, none⟩ (.int .i64 Y.fa)).setCell ⟨g, 4, none⟩ (.int .i64 Y.si)) (some g) := by
  refine ⟨by simpa using ((((h.set 0 (.int .i64 Y.li)).set 1 (.int .i64 Y.re)).set 2 (.int .i64 Y.st)).set 3 (.int .i64 Y.fa)).set 4 (.int .i64 Y.si), ?_⟩
  exact grown_trans (grown_trans (grown_trans (grown_trans (grown_set _ _ _ _) (grown_set _ _ _ _)) (grown_set _ _ _ _)) (grown_set _ _ _ _)) (grown_set _ _ _ _)
end Go.Proofs.Ytmaocmgnkdieeab

/-
  What the generator draws for ParseSettings: some text. Condition: the code is at most 2^20 bytes long.
-/
import Derived.Test.YtehdbllpiokbnabTxtE
import Derived.Test.YtehdbllpiokbnabTxtU
import Derived.Test.YtehdbllpiokbnabTxtSMath
import Derived.Test.YtehdbllpiokbnabStG

namespace Go.Proofs.Ytehdbllpiokbnab
open Go.RowKit Txt Stt

/-- A text was drawn; nothing that was there has changed. -/
def TxtAns (w : World) (e : Ending) (w' : World) : Prop := ∃ T, e = .returned (tx T) ∧ T.length ≤ 1000 ∧ Below w.heap.size w w'
theorem fmtS_len (l : List Stg) : (fmtS l).length ≤ 900 := by
  rcases h : setsB l with _ | _
  · rw [fmtS_no h]; simp
  · have := jn_len (setTs_len h) l.length
    have := sets_small h
    rw [fmtS_yes h]
    omega
end Go.Proofs.Ytehdbllpiokbnab

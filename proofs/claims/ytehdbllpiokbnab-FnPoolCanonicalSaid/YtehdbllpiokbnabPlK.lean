/-
  What the program's HeldBy answers, and the model's holder and closed. Condition: the lists lie in memory.
-/
import Derived.Test.YtehdbllpiokbnabPlF
import Derived.Test.YtehdbllpiokbnabPoolLawMath

namespace Go.Proofs.Ytehdbllpiokbnab
open Go.RowKit Pol

theorem by_take {l : List Ho} {o : Int} {k : Nat} (hk : k < l.length) : ((l.take (k + 1)).filter fun h => decide (h.o = o)).map Ho.c = ((l.take k).filter fun h => decide (h.o = o)).map Ho.c ++ (if l[k].o = o then [l[k].c] else []) := by
  rw [List.take_succ_eq_append_getElem hk, List.filter_append, List.map_append]
  by_cases h : l[k].o = o <;> simp [h]
end Go.Proofs.Ytehdbllpiokbnab

/-
  What OwnerAt answers, the program's and the model's. Condition: the list lies in memory.
-/
import Derived.Test.YtmaocmgnkdieeaaLsC
import Derived.Test.YtmaocmgnkdieeaaLsD
namespace Go.Proofs.Ytmaocmgnkdieeaa
open Go.RowKit Lse

theorem own_step {l : List L} {k : Nat} (hk : k < l.length) {q t : Int} (h : ∀ x ∈ l.take k, hasAt x q t = false) (hx : hasAt l[k] q t = false) : ∀ x ∈ l.take (k + 1), hasAt x q t = false := by
  intro x hm
  rw [List.take_succ_eq_append_getElem hk] at hm
  rcases List.mem_append.1 hm with m | m
  · exact h x m
  · rw [List.mem_singleton.1 m]; exact hx
theorem ok_of {l : List L} {k : Nat} (hk : k < l.length) (hv : validB l = true) : l[k].ok = true := (validB_iff.1 hv).2.1 _ (List.getElem_mem hk)

end Go.Proofs.Ytmaocmgnkdieeaa

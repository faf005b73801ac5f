/-
  What the program's IsGood, GoodPath and GoodShare answer. Condition: the list lies in memory.
-/
import Derived.Test.YtfophplmdljhbaaChkA
import Derived.Test.YtfophplmdljhbaaOwnI
namespace Go.Proofs.Ytfophplmdljhbaa
open Go.RowKit Chk

theorem good_no {l : List Bool} {f g : Int} (h : chkB l f g = false) : goodB l f g = false := by unfold goodB; rw [h]; rfl
theorem good_yes {l : List Bool} {f g : Int} (h : chkB l f g = true) : goodB l f g = gst l f g l.length := by unfold goodB; rw [h]; rfl
theorem gst_step {l : List Bool} {f g : Int} {k : Nat} (h : k < l.length) : gst l f g (k + 1) = if l[k] = true then (if g ≤ run (l.take (k + 1)) then true else gst l f g k) else (if f ≤ run (l.take (k + 1)) then false else gst l f g k) := by
  have e : l.getD k false = l[k] := by simp [List.getD_eq_getElem?_getD, h]
  conv => lhs; unfold gst
  rw [e]
theorem last_take {l : List Bool} {k : Nat} (h : l.length ≤ 12) : lastRun (l.take k) = run (l.take k) := by
  unfold lastRun
  rw [if_pos (by rw [List.length_take]; omega)]

end Go.Proofs.Ytfophplmdljhbaa

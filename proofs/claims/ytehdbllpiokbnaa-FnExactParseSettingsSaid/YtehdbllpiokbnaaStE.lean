/-
  Marked settings. No condition.
-/
import Derived.Test.YtehdbllpiokbnaaSsSettingG
namespace Go.Proofs.Ytehdbllpiokbnaa
open Go.RowKit Stt
theorem sees_marksT {w : World} {base n m c : Nat} {A : Option Addr} (h : OwnS 76 2 stcl w base (.slice A n c) (Stg.marks m)) : Sees w w.heap.size A (strip stcl (Stg.marks m)) := h.sees
end Go.Proofs.Ytehdbllpiokbnaa

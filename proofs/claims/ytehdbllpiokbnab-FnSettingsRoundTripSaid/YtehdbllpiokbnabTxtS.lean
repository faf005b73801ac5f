/-
  What the model's ParseSettings answers. Condition: the text is at most 2^22 bytes long.
-/
import Derived.Test.YtehdbllpiokbnabTxtR0
import Derived.Test.YtehdbllpiokbnabTxtSMath
import Derived.Test.YtehdbllpiokbnabStD

namespace Go.Proofs.Ytehdbllpiokbnab
open Go.RowKit Txt Stt
end Go.Proofs.Ytehdbllpiokbnab

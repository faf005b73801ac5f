/-
  What the program's leastClosed, copyPool and joinWait answer. Condition: the lists lie in memory.
-/
import Derived.Test.YtehdbllpiokbnabPlC

namespace Go.Proofs.Ytehdbllpiokbnab
open Go.RowKit Pol

end Go.Proofs.Ytehdbllpiokbnab

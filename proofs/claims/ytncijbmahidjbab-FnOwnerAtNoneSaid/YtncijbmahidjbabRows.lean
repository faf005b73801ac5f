/-
  No cell of these rows narrows 'for every input' (looked for: loops, veiled, ifaces, maps, wideKeys, modest, calm, conditions, laid).
  DERIVED. THE GIVEN ROWS OF THIS SEAT. 7 by the template 'for every input the law returns true; each argument reads behind the call as it read before'; 0 by the template 'total and deterministic' (their statements: YtncijbmahidjbabTotals.lean).
  GIVEN WITH THE SEED: the statements are not yours to turn. If you find one false, say at which input.
  Laid BY PROGRAM, IN A SANDBOX (cutbox-rows.mjs): the forced cells as the released guide's own fill.sh prints them over the translation b7ee929764a1c884… (all of the seat's roots in one cut). By AI agents, Wed Nov 11 2026. No macro, syntax, notation, axiom, sorry.
-/
import Derived.Test.YtncijbmahidjbabChecked
import GoSem.Claim
import GoSem.ClaimJoined
import GoSem.ClaimMapViews
import Derived.JoinedTies
import Derived.KernelRfl
namespace Go.Proofs.Ytncijbmahidjbab
/- THE CELL 'sum', in the pinned program and in every row, IS THE sha256 OF THE DUMP (.gsa) THAT YtncijbmahidjbabProg.lean LOADS. Nothing in Lean hashes anything: it is a label: what it is worth is what the hold of that sum in a sandbox is worth. -/
noncomputable def Try.pinned : Pinned := { name := "ytncijbmahidjbab", sum := "b7ee929764a1c8841763f3fd23127f4fbab50a03ccbc469df7d0ea45a67ae8af", checked := Try.checked }
namespace Rows
def none {H : Type} : Left H := { results := [], args := [] }

/-- 'laws.FnLeasedTime': WHATEVER THE INPUT: true; the input reads as it did. -/
def fnLeasedTimeSpec : ChangeSpec := { name := "fnLeasedTime", fn := fun _ => fun
  | [d] => { results := [.lit (.bool true)], args := [d] }
  | _ => none }
def fnLeasedTimeRow : OpenClaim := { program := "ytncijbmahidjbab", sum := "b7ee929764a1c8841763f3fd23127f4fbab50a03ccbc469df7d0ea45a67ae8af", func := "loop.example/connectionpool/laws.FnLeasedTime", spec := "fnLeasedTime", apart := false }
def FnLeasedTimeSaid : Prop := fnLeasedTimeRow.holds Try.pinned (OpenSpec.ofChange fnLeasedTimeSpec)

/-- ITS FALSE NEIGHBOUR: 'it returns false'. Refute it at one input. -/
def fnLeasedTimeWrong : ChangeSpec := { name := "fnLeasedTime", fn := fun _ => fun
  | [d] => { results := [.lit (.bool false)], args := [d] }
  | _ => none }
def FnLeasedTimeWrongFalsely : Prop := fnLeasedTimeRow.holds Try.pinned (OpenSpec.ofChange fnLeasedTimeWrong)

/-- 'laws.FnValidLeasesShort': WHATEVER THE INPUT: true; the input reads as it did. -/
def fnValidLeasesShortSpec : ChangeSpec := { name := "fnValidLeasesShort", fn := fun _ => fun
  | [d] => { results := [.lit (.bool true)], args := [d] }
  | _ => none }
def fnValidLeasesShortRow : OpenClaim := { program := "ytncijbmahidjbab", sum := "b7ee929764a1c8841763f3fd23127f4fbab50a03ccbc469df7d0ea45a67ae8af", func := "loop.example/connectionpool/laws.FnValidLeasesShort", spec := "fnValidLeasesShort", apart := false }
def FnValidLeasesShortSaid : Prop := fnValidLeasesShortRow.holds Try.pinned (OpenSpec.ofChange fnValidLeasesShortSpec)

/-- ITS FALSE NEIGHBOUR: 'it returns false'. Refute it at one input. -/
def fnValidLeasesShortWrong : ChangeSpec := { name := "fnValidLeasesShort", fn := fun _ => fun
  | [d] => { results := [.lit (.bool false)], args := [d] }
  | _ => none }
def FnValidLeasesShortWrongFalsely : Prop := fnValidLeasesShortRow.holds Try.pinned (OpenSpec.ofChange fnValidLeasesShortWrong)

/-- 'laws.FnOwnerAtNone': WHATEVER THE INPUT: true; the input reads as it did. -/
def fnOwnerAtNoneSpec : ChangeSpec := { name := "fnOwnerAtNone", fn := fun _ => fun
  | [d] => { results := [.lit (.bool true)], args := [d] }
  | _ => none }
def fnOwnerAtNoneRow : OpenClaim := { program := "ytncijbmahidjbab", sum := "b7ee929764a1c8841763f3fd23127f4fbab50a03ccbc469df7d0ea45a67ae8af", func := "loop.example/connectionpool/laws.FnOwnerAtNone", spec := "fnOwnerAtNone", apart := false }
def FnOwnerAtNoneSaid : Prop := fnOwnerAtNoneRow.holds Try.pinned (OpenSpec.ofChange fnOwnerAtNoneSpec)

/-- ITS FALSE NEIGHBOUR: 'it returns false'. Refute it at one input. -/
def fnOwnerAtNoneWrong : ChangeSpec := { name := "fnOwnerAtNone", fn := fun _ => fun
  | [d] => { results := [.lit (.bool false)], args := [d] }
  | _ => none }
def FnOwnerAtNoneWrongFalsely : Prop := fnOwnerAtNoneRow.holds Try.pinned (OpenSpec.ofChange fnOwnerAtNoneWrong)

/-- 'laws.FnAddLeaseOrder': WHATEVER THE INPUT: true; the input reads as it did. -/
def fnAddLeaseOrderSpec : ChangeSpec := { name := "fnAddLeaseOrder", fn := fun _ => fun
  | [d] => { results := [.lit (.bool true)], args := [d] }
  | _ => none }
def fnAddLeaseOrderRow : OpenClaim := { program := "ytncijbmahidjbab", sum := "b7ee929764a1c8841763f3fd23127f4fbab50a03ccbc469df7d0ea45a67ae8af", func := "loop.example/connectionpool/laws.FnAddLeaseOrder", spec := "fnAddLeaseOrder", apart := false }
def FnAddLeaseOrderSaid : Prop := fnAddLeaseOrderRow.holds Try.pinned (OpenSpec.ofChange fnAddLeaseOrderSpec)

/-- ITS FALSE NEIGHBOUR: 'it returns false'. Refute it at one input. -/
def fnAddLeaseOrderWrong : ChangeSpec := { name := "fnAddLeaseOrder", fn := fun _ => fun
  | [d] => { results := [.lit (.bool false)], args := [d] }
  | _ => none }
def FnAddLeaseOrderWrongFalsely : Prop := fnAddLeaseOrderRow.holds Try.pinned (OpenSpec.ofChange fnAddLeaseOrderWrong)

/-- 'laws.FnBusyAtPart': WHATEVER THE INPUT: true; the input reads as it did. -/
def fnBusyAtPartSpec : ChangeSpec := { name := "fnBusyAtPart", fn := fun _ => fun
  | [d] => { results := [.lit (.bool true)], args := [d] }
  | _ => none }
def fnBusyAtPartRow : OpenClaim := { program := "ytncijbmahidjbab", sum := "b7ee929764a1c8841763f3fd23127f4fbab50a03ccbc469df7d0ea45a67ae8af", func := "loop.example/connectionpool/laws.FnBusyAtPart", spec := "fnBusyAtPart", apart := false }
def FnBusyAtPartSaid : Prop := fnBusyAtPartRow.holds Try.pinned (OpenSpec.ofChange fnBusyAtPartSpec)

/-- ITS FALSE NEIGHBOUR: 'it returns false'. Refute it at one input. -/
def fnBusyAtPartWrong : ChangeSpec := { name := "fnBusyAtPart", fn := fun _ => fun
  | [d] => { results := [.lit (.bool false)], args := [d] }
  | _ => none }
def FnBusyAtPartWrongFalsely : Prop := fnBusyAtPartRow.holds Try.pinned (OpenSpec.ofChange fnBusyAtPartWrong)

/-- 'laws.FnLeasedTimeMost': WHATEVER THE INPUT: true; the input reads as it did. -/
def fnLeasedTimeMostSpec : ChangeSpec := { name := "fnLeasedTimeMost", fn := fun _ => fun
  | [d] => { results := [.lit (.bool true)], args := [d] }
  | _ => none }
def fnLeasedTimeMostRow : OpenClaim := { program := "ytncijbmahidjbab", sum := "b7ee929764a1c8841763f3fd23127f4fbab50a03ccbc469df7d0ea45a67ae8af", func := "loop.example/connectionpool/laws.FnLeasedTimeMost", spec := "fnLeasedTimeMost", apart := false }
def FnLeasedTimeMostSaid : Prop := fnLeasedTimeMostRow.holds Try.pinned (OpenSpec.ofChange fnLeasedTimeMostSpec)

/-- ITS FALSE NEIGHBOUR: 'it returns false'. Refute it at one input. -/
def fnLeasedTimeMostWrong : ChangeSpec := { name := "fnLeasedTimeMost", fn := fun _ => fun
  | [d] => { results := [.lit (.bool false)], args := [d] }
  | _ => none }
def FnLeasedTimeMostWrongFalsely : Prop := fnLeasedTimeMostRow.holds Try.pinned (OpenSpec.ofChange fnLeasedTimeMostWrong)

/-- 'laws.FnExactValidLeases': WHATEVER THE INPUT: true; the input reads as it did. -/
def fnExactValidLeasesSpec : ChangeSpec := { name := "fnExactValidLeases", fn := fun _ => fun
  | [d] => { results := [.lit (.bool true)], args := [d] }
  | _ => none }
def fnExactValidLeasesRow : OpenClaim := { program := "ytncijbmahidjbab", sum := "b7ee929764a1c8841763f3fd23127f4fbab50a03ccbc469df7d0ea45a67ae8af", func := "loop.example/connectionpool/laws.FnExactValidLeases", spec := "fnExactValidLeases", apart := false }
def FnExactValidLeasesSaid : Prop := fnExactValidLeasesRow.holds Try.pinned (OpenSpec.ofChange fnExactValidLeasesSpec)

/-- ITS FALSE NEIGHBOUR: 'it returns false'. Refute it at one input. -/
def fnExactValidLeasesWrong : ChangeSpec := { name := "fnExactValidLeases", fn := fun _ => fun
  | [d] => { results := [.lit (.bool false)], args := [d] }
  | _ => none }
def FnExactValidLeasesWrongFalsely : Prop := fnExactValidLeasesRow.holds Try.pinned (OpenSpec.ofChange fnExactValidLeasesWrong)

/- THE SECOND FORM. 'bulk': how many values and letters a reading holds, each counted each time it is reached (what is shared counts as often as it is met; a slice's spare places count too). A statement '..UptoSaid' is the law's where the arguments, and the package variables that the reading takes, are together of bulk at most 1048576: NARROWER than '..Said'. Prove '..Said' where nothing that the law and all that it calls make is longer than what came in: it says more and counts as full. Else prove '..UptoSaid'. A law counts once. -/
mutual
def uptoBulk {H : Type} : DataW H → Nat
  | .lit (.string bytes) => bytes.length + 1
  | .lit _ => 1
  | .nil => 1
  | .ptr d => uptoBulk d + 1
  | .slice elems spare => uptoBulkAll elems + uptoBulkAll spare + 1
  | .agg parts => uptoBulkAll parts + 1
  | .iface _ d => uptoBulk d + 1
  | .map entries => uptoBulkEntries entries + 1
  | .held _ => 1
def uptoBulkAll {H : Type} : List (DataW H) → Nat
  | [] => 0
  | d :: r => uptoBulk d + uptoBulkAll r
def uptoBulkEntries {H : Type} : List (Lit × DataW H) → Nat
  | [] => 0
  | x :: r => uptoBulkEntry x + uptoBulkEntries r
def uptoBulkEntry {H : Type} : Lit × DataW H → Nat
  | (.string bytes, d) => bytes.length + uptoBulk d + 1
  | (_, d) => uptoBulk d + 1
 end
def uptoSmall : (H : Type) → List (DataW H) → Bool := fun _ ds => decide (uptoBulkAll ds ≤ 1048576)
def OpenSpec.upto (s : _root_.Go.ChangeSpec) : _root_.Go.OpenSpec := { _root_.Go.OpenSpec.ofChange s with cond := some uptoSmall }

/-- 'laws.FnLeasedTime', WHERE WHAT IT READS IS OF BULK AT MOST 1048576: true; the input reads as it did. -/
def fnLeasedTimeUptoRow : OpenClaim := { program := "ytncijbmahidjbab", sum := "b7ee929764a1c8841763f3fd23127f4fbab50a03ccbc469df7d0ea45a67ae8af", func := "loop.example/connectionpool/laws.FnLeasedTime", spec := "fnLeasedTime", apart := false, narrowed := true }
def FnLeasedTimeUptoSaid : Prop := fnLeasedTimeUptoRow.holds Try.pinned (OpenSpec.upto fnLeasedTimeSpec)

/-- 'laws.FnValidLeasesShort', WHERE WHAT IT READS IS OF BULK AT MOST 1048576: true; the input reads as it did. -/
def fnValidLeasesShortUptoRow : OpenClaim := { program := "ytncijbmahidjbab", sum := "b7ee929764a1c8841763f3fd23127f4fbab50a03ccbc469df7d0ea45a67ae8af", func := "loop.example/connectionpool/laws.FnValidLeasesShort", spec := "fnValidLeasesShort", apart := false, narrowed := true }
def FnValidLeasesShortUptoSaid : Prop := fnValidLeasesShortUptoRow.holds Try.pinned (OpenSpec.upto fnValidLeasesShortSpec)

/-- 'laws.FnOwnerAtNone', WHERE WHAT IT READS IS OF BULK AT MOST 1048576: true; the input reads as it did. -/
def fnOwnerAtNoneUptoRow : OpenClaim := { program := "ytncijbmahidjbab", sum := "b7ee929764a1c8841763f3fd23127f4fbab50a03ccbc469df7d0ea45a67ae8af", func := "loop.example/connectionpool/laws.FnOwnerAtNone", spec := "fnOwnerAtNone", apart := false, narrowed := true }
def FnOwnerAtNoneUptoSaid : Prop := fnOwnerAtNoneUptoRow.holds Try.pinned (OpenSpec.upto fnOwnerAtNoneSpec)

/-- 'laws.FnAddLeaseOrder', WHERE WHAT IT READS IS OF BULK AT MOST 1048576: true; the input reads as it did. -/
def fnAddLeaseOrderUptoRow : OpenClaim := { program := "ytncijbmahidjbab", sum := "b7ee929764a1c8841763f3fd23127f4fbab50a03ccbc469df7d0ea45a67ae8af", func := "loop.example/connectionpool/laws.FnAddLeaseOrder", spec := "fnAddLeaseOrder", apart := false, narrowed := true }
def FnAddLeaseOrderUptoSaid : Prop := fnAddLeaseOrderUptoRow.holds Try.pinned (OpenSpec.upto fnAddLeaseOrderSpec)

/-- 'laws.FnBusyAtPart', WHERE WHAT IT READS IS OF BULK AT MOST 1048576: true; the input reads as it did. -/
def fnBusyAtPartUptoRow : OpenClaim := { program := "ytncijbmahidjbab", sum := "b7ee929764a1c8841763f3fd23127f4fbab50a03ccbc469df7d0ea45a67ae8af", func := "loop.example/connectionpool/laws.FnBusyAtPart", spec := "fnBusyAtPart", apart := false, narrowed := true }
def FnBusyAtPartUptoSaid : Prop := fnBusyAtPartUptoRow.holds Try.pinned (OpenSpec.upto fnBusyAtPartSpec)

/-- 'laws.FnLeasedTimeMost', WHERE WHAT IT READS IS OF BULK AT MOST 1048576: true; the input reads as it did. -/
def fnLeasedTimeMostUptoRow : OpenClaim := { program := "ytncijbmahidjbab", sum := "b7ee929764a1c8841763f3fd23127f4fbab50a03ccbc469df7d0ea45a67ae8af", func := "loop.example/connectionpool/laws.FnLeasedTimeMost", spec := "fnLeasedTimeMost", apart := false, narrowed := true }
def FnLeasedTimeMostUptoSaid : Prop := fnLeasedTimeMostUptoRow.holds Try.pinned (OpenSpec.upto fnLeasedTimeMostSpec)

/-- 'laws.FnExactValidLeases', WHERE WHAT IT READS IS OF BULK AT MOST 1048576: true; the input reads as it did. -/
def fnExactValidLeasesUptoRow : OpenClaim := { program := "ytncijbmahidjbab", sum := "b7ee929764a1c8841763f3fd23127f4fbab50a03ccbc469df7d0ea45a67ae8af", func := "loop.example/connectionpool/laws.FnExactValidLeases", spec := "fnExactValidLeases", apart := false, narrowed := true }
def FnExactValidLeasesUptoSaid : Prop := fnExactValidLeasesUptoRow.holds Try.pinned (OpenSpec.upto fnExactValidLeasesSpec)

end Rows
end Go.Proofs.Ytncijbmahidjbab

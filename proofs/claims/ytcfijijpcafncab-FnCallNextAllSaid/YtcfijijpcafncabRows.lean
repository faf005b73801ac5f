/-
  No cell of these rows narrows 'for every input' (looked for: loops, veiled, ifaces, maps, wideKeys, modest, calm, conditions, laid).
  DERIVED. THE GIVEN ROWS OF THIS SEAT. 7 by the template 'for every input the law returns true; each argument reads behind the call as it read before'; 0 by the template 'total and deterministic' (their statements: YtcfijijpcafncabTotals.lean).
  GIVEN WITH THE SEED: the statements are not yours to turn. If you find one false, say at which input.
  Laid BY PROGRAM, IN A SANDBOX (cutbox-rows.mjs): the forced cells as the released guide's own fill.sh prints them over the translation b493e4799c17674a… (all of the seat's roots in one cut). By AI agents, Wed Nov 11 2026. No macro, syntax, notation, axiom, sorry.
-/
import Derived.Test.YtcfijijpcafncabChecked
import GoSem.Claim
import GoSem.ClaimJoined
import GoSem.ClaimMapViews
import Derived.JoinedTies
import Derived.KernelRfl
namespace Go.Proofs.Ytcfijijpcafncab
/- THE CELL 'sum', in the pinned program and in every row, IS THE sha256 OF THE DUMP (.gsa) THAT YtcfijijpcafncabProg.lean LOADS. Nothing in Lean hashes anything: it is a label: what it is worth is what the hold of that sum in a sandbox is worth. -/
noncomputable def Try.pinned : Pinned := { name := "ytcfijijpcafncab", sum := "b493e4799c17674accffaf83746fd4a2caa09b722ea6e4bd1312158be6d96473", checked := Try.checked }
namespace Rows
def none {H : Type} : Left H := { results := [], args := [] }

/-- 'laws.FnCallNextAll': WHATEVER THE INPUT: true; the input reads as it did. -/
def fnCallNextAllSpec : ChangeSpec := { name := "fnCallNextAll", fn := fun _ => fun
  | [d] => { results := [.lit (.bool true)], args := [d] }
  | _ => none }
def fnCallNextAllRow : OpenClaim := { program := "ytcfijijpcafncab", sum := "b493e4799c17674accffaf83746fd4a2caa09b722ea6e4bd1312158be6d96473", func := "loop.example/connectionpool/laws.FnCallNextAll", spec := "fnCallNextAll", apart := false }
def FnCallNextAllSaid : Prop := fnCallNextAllRow.holds Try.pinned (OpenSpec.ofChange fnCallNextAllSpec)

/-- ITS FALSE NEIGHBOUR: 'it returns false'. Refute it at one input. -/
def fnCallNextAllWrong : ChangeSpec := { name := "fnCallNextAll", fn := fun _ => fun
  | [d] => { results := [.lit (.bool false)], args := [d] }
  | _ => none }
def FnCallNextAllWrongFalsely : Prop := fnCallNextAllRow.holds Try.pinned (OpenSpec.ofChange fnCallNextAllWrong)

/-- 'laws.FnPlaceInLine': WHATEVER THE INPUT: true; the input reads as it did. -/
def fnPlaceInLineSpec : ChangeSpec := { name := "fnPlaceInLine", fn := fun _ => fun
  | [d] => { results := [.lit (.bool true)], args := [d] }
  | _ => none }
def fnPlaceInLineRow : OpenClaim := { program := "ytcfijijpcafncab", sum := "b493e4799c17674accffaf83746fd4a2caa09b722ea6e4bd1312158be6d96473", func := "loop.example/connectionpool/laws.FnPlaceInLine", spec := "fnPlaceInLine", apart := false }
def FnPlaceInLineSaid : Prop := fnPlaceInLineRow.holds Try.pinned (OpenSpec.ofChange fnPlaceInLineSpec)

/-- ITS FALSE NEIGHBOUR: 'it returns false'. Refute it at one input. -/
def fnPlaceInLineWrong : ChangeSpec := { name := "fnPlaceInLine", fn := fun _ => fun
  | [d] => { results := [.lit (.bool false)], args := [d] }
  | _ => none }
def FnPlaceInLineWrongFalsely : Prop := fnPlaceInLineRow.holds Try.pinned (OpenSpec.ofChange fnPlaceInLineWrong)

/-- 'laws.FnPlaceInLineCall': WHATEVER THE INPUT: true; the input reads as it did. -/
def fnPlaceInLineCallSpec : ChangeSpec := { name := "fnPlaceInLineCall", fn := fun _ => fun
  | [d] => { results := [.lit (.bool true)], args := [d] }
  | _ => none }
def fnPlaceInLineCallRow : OpenClaim := { program := "ytcfijijpcafncab", sum := "b493e4799c17674accffaf83746fd4a2caa09b722ea6e4bd1312158be6d96473", func := "loop.example/connectionpool/laws.FnPlaceInLineCall", spec := "fnPlaceInLineCall", apart := false }
def FnPlaceInLineCallSaid : Prop := fnPlaceInLineCallRow.holds Try.pinned (OpenSpec.ofChange fnPlaceInLineCallSpec)

/-- ITS FALSE NEIGHBOUR: 'it returns false'. Refute it at one input. -/
def fnPlaceInLineCallWrong : ChangeSpec := { name := "fnPlaceInLineCall", fn := fun _ => fun
  | [d] => { results := [.lit (.bool false)], args := [d] }
  | _ => none }
def FnPlaceInLineCallWrongFalsely : Prop := fnPlaceInLineCallRow.holds Try.pinned (OpenSpec.ofChange fnPlaceInLineCallWrong)

/-- 'laws.FnTakeTicketFull': WHATEVER THE INPUT: true; the input reads as it did. -/
def fnTakeTicketFullSpec : ChangeSpec := { name := "fnTakeTicketFull", fn := fun _ => fun
  | [d] => { results := [.lit (.bool true)], args := [d] }
  | _ => none }
def fnTakeTicketFullRow : OpenClaim := { program := "ytcfijijpcafncab", sum := "b493e4799c17674accffaf83746fd4a2caa09b722ea6e4bd1312158be6d96473", func := "loop.example/connectionpool/laws.FnTakeTicketFull", spec := "fnTakeTicketFull", apart := false }
def FnTakeTicketFullSaid : Prop := fnTakeTicketFullRow.holds Try.pinned (OpenSpec.ofChange fnTakeTicketFullSpec)

/-- ITS FALSE NEIGHBOUR: 'it returns false'. Refute it at one input. -/
def fnTakeTicketFullWrong : ChangeSpec := { name := "fnTakeTicketFull", fn := fun _ => fun
  | [d] => { results := [.lit (.bool false)], args := [d] }
  | _ => none }
def FnTakeTicketFullWrongFalsely : Prop := fnTakeTicketFullRow.holds Try.pinned (OpenSpec.ofChange fnTakeTicketFullWrong)

/-- 'laws.FnWaitingTicketsCount': WHATEVER THE INPUT: true; the input reads as it did. -/
def fnWaitingTicketsCountSpec : ChangeSpec := { name := "fnWaitingTicketsCount", fn := fun _ => fun
  | [d] => { results := [.lit (.bool true)], args := [d] }
  | _ => none }
def fnWaitingTicketsCountRow : OpenClaim := { program := "ytcfijijpcafncab", sum := "b493e4799c17674accffaf83746fd4a2caa09b722ea6e4bd1312158be6d96473", func := "loop.example/connectionpool/laws.FnWaitingTicketsCount", spec := "fnWaitingTicketsCount", apart := false }
def FnWaitingTicketsCountSaid : Prop := fnWaitingTicketsCountRow.holds Try.pinned (OpenSpec.ofChange fnWaitingTicketsCountSpec)

/-- ITS FALSE NEIGHBOUR: 'it returns false'. Refute it at one input. -/
def fnWaitingTicketsCountWrong : ChangeSpec := { name := "fnWaitingTicketsCount", fn := fun _ => fun
  | [d] => { results := [.lit (.bool false)], args := [d] }
  | _ => none }
def FnWaitingTicketsCountWrongFalsely : Prop := fnWaitingTicketsCountRow.holds Try.pinned (OpenSpec.ofChange fnWaitingTicketsCountWrong)

/-- 'laws.FnCallNextLeave': WHATEVER THE INPUT: true; the input reads as it did. -/
def fnCallNextLeaveSpec : ChangeSpec := { name := "fnCallNextLeave", fn := fun _ => fun
  | [d] => { results := [.lit (.bool true)], args := [d] }
  | _ => none }
def fnCallNextLeaveRow : OpenClaim := { program := "ytcfijijpcafncab", sum := "b493e4799c17674accffaf83746fd4a2caa09b722ea6e4bd1312158be6d96473", func := "loop.example/connectionpool/laws.FnCallNextLeave", spec := "fnCallNextLeave", apart := false }
def FnCallNextLeaveSaid : Prop := fnCallNextLeaveRow.holds Try.pinned (OpenSpec.ofChange fnCallNextLeaveSpec)

/-- ITS FALSE NEIGHBOUR: 'it returns false'. Refute it at one input. -/
def fnCallNextLeaveWrong : ChangeSpec := { name := "fnCallNextLeave", fn := fun _ => fun
  | [d] => { results := [.lit (.bool false)], args := [d] }
  | _ => none }
def FnCallNextLeaveWrongFalsely : Prop := fnCallNextLeaveRow.holds Try.pinned (OpenSpec.ofChange fnCallNextLeaveWrong)

/-- 'laws.FnPlaceInLineLeave': WHATEVER THE INPUT: true; the input reads as it did. -/
def fnPlaceInLineLeaveSpec : ChangeSpec := { name := "fnPlaceInLineLeave", fn := fun _ => fun
  | [d] => { results := [.lit (.bool true)], args := [d] }
  | _ => none }
def fnPlaceInLineLeaveRow : OpenClaim := { program := "ytcfijijpcafncab", sum := "b493e4799c17674accffaf83746fd4a2caa09b722ea6e4bd1312158be6d96473", func := "loop.example/connectionpool/laws.FnPlaceInLineLeave", spec := "fnPlaceInLineLeave", apart := false }
def FnPlaceInLineLeaveSaid : Prop := fnPlaceInLineLeaveRow.holds Try.pinned (OpenSpec.ofChange fnPlaceInLineLeaveSpec)

/-- ITS FALSE NEIGHBOUR: 'it returns false'. Refute it at one input. -/
def fnPlaceInLineLeaveWrong : ChangeSpec := { name := "fnPlaceInLineLeave", fn := fun _ => fun
  | [d] => { results := [.lit (.bool false)], args := [d] }
  | _ => none }
def FnPlaceInLineLeaveWrongFalsely : Prop := fnPlaceInLineLeaveRow.holds Try.pinned (OpenSpec.ofChange fnPlaceInLineLeaveWrong)

/- THE SECOND FORM. 'bulk': how many values and letters a reading holds, each counted each time it is reached (what is shared counts as often as it is met; a slice's spare places count too). A statement '..UptoSaid' is the law's where the arguments, and the package variables that the reading takes, are together of bulk at most 1048576: NARROWER than '..Said'. Prove '..Said' where nothing that the law and all that it calls make is longer than what came in: it says more and counts as full. Else prove '..UptoSaid'. A law counts once. -/
mutual
def uptoBulk {H : Type} : DataW H → Nat
  | .lit (.string bytes) => bytes.length + 1
  | .lit _ => 1
  | .nil => 1
  | .ptr d => uptoBulk d + 1
  | .slice elems spare => uptoBulkAll elems + uptoBulkAll spare + 1
  | .agg parts => uptoBulkAll parts + 1
  | .iface _ d => uptoBulk d + 1
  | .map entries => uptoBulkEntries entries + 1
  | .held _ => 1
def uptoBulkAll {H : Type} : List (DataW H) → Nat
  | [] => 0
  | d :: r => uptoBulk d + uptoBulkAll r
def uptoBulkEntries {H : Type} : List (Lit × DataW H) → Nat
  | [] => 0
  | x :: r => uptoBulkEntry x + uptoBulkEntries r
def uptoBulkEntry {H : Type} : Lit × DataW H → Nat
  | (.string bytes, d) => bytes.length + uptoBulk d + 1
  | (_, d) => uptoBulk d + 1
 end
def uptoSmall : (H : Type) → List (DataW H) → Bool := fun _ ds => decide (uptoBulkAll ds ≤ 1048576)
def OpenSpec.upto (s : _root_.Go.ChangeSpec) : _root_.Go.OpenSpec := { _root_.Go.OpenSpec.ofChange s with cond := some uptoSmall }

/-- 'laws.FnCallNextAll', WHERE WHAT IT READS IS OF BULK AT MOST 1048576: true; the input reads as it did. -/
def fnCallNextAllUptoRow : OpenClaim := { program := "ytcfijijpcafncab", sum := "b493e4799c17674accffaf83746fd4a2caa09b722ea6e4bd1312158be6d96473", func := "loop.example/connectionpool/laws.FnCallNextAll", spec := "fnCallNextAll", apart := false, narrowed := true }
def FnCallNextAllUptoSaid : Prop := fnCallNextAllUptoRow.holds Try.pinned (OpenSpec.upto fnCallNextAllSpec)

/-- 'laws.FnPlaceInLine', WHERE WHAT IT READS IS OF BULK AT MOST 1048576: true; the input reads as it did. -/
def fnPlaceInLineUptoRow : OpenClaim := { program := "ytcfijijpcafncab", sum := "b493e4799c17674accffaf83746fd4a2caa09b722ea6e4bd1312158be6d96473", func := "loop.example/connectionpool/laws.FnPlaceInLine", spec := "fnPlaceInLine", apart := false, narrowed := true }
def FnPlaceInLineUptoSaid : Prop := fnPlaceInLineUptoRow.holds Try.pinned (OpenSpec.upto fnPlaceInLineSpec)

/-- 'laws.FnPlaceInLineCall', WHERE WHAT IT READS IS OF BULK AT MOST 1048576: true; the input reads as it did. -/
def fnPlaceInLineCallUptoRow : OpenClaim := { program := "ytcfijijpcafncab", sum := "b493e4799c17674accffaf83746fd4a2caa09b722ea6e4bd1312158be6d96473", func := "loop.example/connectionpool/laws.FnPlaceInLineCall", spec := "fnPlaceInLineCall", apart := false, narrowed := true }
def FnPlaceInLineCallUptoSaid : Prop := fnPlaceInLineCallUptoRow.holds Try.pinned (OpenSpec.upto fnPlaceInLineCallSpec)

/-- 'laws.FnTakeTicketFull', WHERE WHAT IT READS IS OF BULK AT MOST 1048576: true; the input reads as it did. -/
def fnTakeTicketFullUptoRow : OpenClaim := { program := "ytcfijijpcafncab", sum := "b493e4799c17674accffaf83746fd4a2caa09b722ea6e4bd1312158be6d96473", func := "loop.example/connectionpool/laws.FnTakeTicketFull", spec := "fnTakeTicketFull", apart := false, narrowed := true }
def FnTakeTicketFullUptoSaid : Prop := fnTakeTicketFullUptoRow.holds Try.pinned (OpenSpec.upto fnTakeTicketFullSpec)

/-- 'laws.FnWaitingTicketsCount', WHERE WHAT IT READS IS OF BULK AT MOST 1048576: true; the input reads as it did. -/
def fnWaitingTicketsCountUptoRow : OpenClaim := { program := "ytcfijijpcafncab", sum := "b493e4799c17674accffaf83746fd4a2caa09b722ea6e4bd1312158be6d96473", func := "loop.example/connectionpool/laws.FnWaitingTicketsCount", spec := "fnWaitingTicketsCount", apart := false, narrowed := true }
def FnWaitingTicketsCountUptoSaid : Prop := fnWaitingTicketsCountUptoRow.holds Try.pinned (OpenSpec.upto fnWaitingTicketsCountSpec)

/-- 'laws.FnCallNextLeave', WHERE WHAT IT READS IS OF BULK AT MOST 1048576: true; the input reads as it did. -/
def fnCallNextLeaveUptoRow : OpenClaim := { program := "ytcfijijpcafncab", sum := "b493e4799c17674accffaf83746fd4a2caa09b722ea6e4bd1312158be6d96473", func := "loop.example/connectionpool/laws.FnCallNextLeave", spec := "fnCallNextLeave", apart := false, narrowed := true }
def FnCallNextLeaveUptoSaid : Prop := fnCallNextLeaveUptoRow.holds Try.pinned (OpenSpec.upto fnCallNextLeaveSpec)

/-- 'laws.FnPlaceInLineLeave', WHERE WHAT IT READS IS OF BULK AT MOST 1048576: true; the input reads as it did. -/
def fnPlaceInLineLeaveUptoRow : OpenClaim := { program := "ytcfijijpcafncab", sum := "b493e4799c17674accffaf83746fd4a2caa09b722ea6e4bd1312158be6d96473", func := "loop.example/connectionpool/laws.FnPlaceInLineLeave", spec := "fnPlaceInLineLeave", apart := false, narrowed := true }
def FnPlaceInLineLeaveUptoSaid : Prop := fnPlaceInLineLeaveUptoRow.holds Try.pinned (OpenSpec.upto fnPlaceInLineLeaveSpec)

end Rows
end Go.Proofs.Ytcfijijpcafncab

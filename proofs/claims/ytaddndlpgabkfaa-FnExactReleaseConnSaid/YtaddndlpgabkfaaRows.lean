/-
  No cell of these rows narrows 'for every input' (looked for: loops, veiled, ifaces, maps, wideKeys, modest, calm, conditions, laid).
  DERIVED. THE GIVEN ROWS OF THIS SEAT. 5 by the template 'for every input the law returns true; each argument reads behind the call as it read before'; 0 by the template 'total and deterministic' (their statements: YtaddndlpgabkfaaTotals.lean).
  GIVEN WITH THE SEED: the statements are not yours to turn. If you find one false, say at which input.
  Laid BY PROGRAM, IN A SANDBOX (cutbox-rows.mjs): the forced cells as the released guide's own fill.sh prints them over the translation 4ed2db5c37b7d306… (all of the seat's roots in one cut). By AI agents, Wed Nov 11 2026. No macro, syntax, notation, axiom, sorry.
-/
import Derived.Test.YtaddndlpgabkfaaChecked
import GoSem.Claim
import GoSem.ClaimJoined
import GoSem.ClaimMapViews
import Derived.JoinedTies
import Derived.KernelRfl
namespace Go.Proofs.Ytaddndlpgabkfaa
/- THE CELL 'sum', in the pinned program and in every row, IS THE sha256 OF THE DUMP (.gsa) THAT YtaddndlpgabkfaaProg.lean LOADS. Nothing in Lean hashes anything: it is a label: what it is worth is what the hold of that sum in a sandbox is worth. -/
noncomputable def Try.pinned : Pinned := { name := "ytaddndlpgabkfaa", sum := "4ed2db5c37b7d306aa2ef61ae2c58eb7597972a271b81dcf30caf68646233786", checked := Try.checked }
namespace Rows
def none {H : Type} : Left H := { results := [], args := [] }

/-- 'laws.FnExactValidPool': WHATEVER THE INPUT: true; the input reads as it did. -/
def fnExactValidPoolSpec : ChangeSpec := { name := "fnExactValidPool", fn := fun _ => fun
  | [d] => { results := [.lit (.bool true)], args := [d] }
  | _ => none }
def fnExactValidPoolRow : OpenClaim := { program := "ytaddndlpgabkfaa", sum := "4ed2db5c37b7d306aa2ef61ae2c58eb7597972a271b81dcf30caf68646233786", func := "loop.example/connectionpool/laws.FnExactValidPool", spec := "fnExactValidPool", apart := false }
def FnExactValidPoolSaid : Prop := fnExactValidPoolRow.holds Try.pinned (OpenSpec.ofChange fnExactValidPoolSpec)

/-- ITS FALSE NEIGHBOUR: 'it returns false'. Refute it at one input. -/
def fnExactValidPoolWrong : ChangeSpec := { name := "fnExactValidPool", fn := fun _ => fun
  | [d] => { results := [.lit (.bool false)], args := [d] }
  | _ => none }
def FnExactValidPoolWrongFalsely : Prop := fnExactValidPoolRow.holds Try.pinned (OpenSpec.ofChange fnExactValidPoolWrong)

/-- 'laws.FnExactAcquireConn': WHATEVER THE INPUT: true; the input reads as it did. -/
def fnExactAcquireConnSpec : ChangeSpec := { name := "fnExactAcquireConn", fn := fun _ => fun
  | [d1, d2] => { results := [.lit (.bool true)], args := [d1, d2] }
  | _ => none }
def fnExactAcquireConnRow : OpenClaim := { program := "ytaddndlpgabkfaa", sum := "4ed2db5c37b7d306aa2ef61ae2c58eb7597972a271b81dcf30caf68646233786", func := "loop.example/connectionpool/laws.FnExactAcquireConn", spec := "fnExactAcquireConn", apart := false }
def FnExactAcquireConnSaid : Prop := fnExactAcquireConnRow.holds Try.pinned (OpenSpec.ofChange fnExactAcquireConnSpec)

/-- ITS FALSE NEIGHBOUR: 'it returns false'. Refute it at one input. -/
def fnExactAcquireConnWrong : ChangeSpec := { name := "fnExactAcquireConn", fn := fun _ => fun
  | [d1, d2] => { results := [.lit (.bool false)], args := [d1, d2] }
  | _ => none }
def FnExactAcquireConnWrongFalsely : Prop := fnExactAcquireConnRow.holds Try.pinned (OpenSpec.ofChange fnExactAcquireConnWrong)

/-- 'laws.FnExactReleaseConn': WHATEVER THE INPUT: true; the input reads as it did. -/
def fnExactReleaseConnSpec : ChangeSpec := { name := "fnExactReleaseConn", fn := fun _ => fun
  | [d1, d2] => { results := [.lit (.bool true)], args := [d1, d2] }
  | _ => none }
def fnExactReleaseConnRow : OpenClaim := { program := "ytaddndlpgabkfaa", sum := "4ed2db5c37b7d306aa2ef61ae2c58eb7597972a271b81dcf30caf68646233786", func := "loop.example/connectionpool/laws.FnExactReleaseConn", spec := "fnExactReleaseConn", apart := false }
def FnExactReleaseConnSaid : Prop := fnExactReleaseConnRow.holds Try.pinned (OpenSpec.ofChange fnExactReleaseConnSpec)

/-- ITS FALSE NEIGHBOUR: 'it returns false'. Refute it at one input. -/
def fnExactReleaseConnWrong : ChangeSpec := { name := "fnExactReleaseConn", fn := fun _ => fun
  | [d1, d2] => { results := [.lit (.bool false)], args := [d1, d2] }
  | _ => none }
def FnExactReleaseConnWrongFalsely : Prop := fnExactReleaseConnRow.holds Try.pinned (OpenSpec.ofChange fnExactReleaseConnWrong)

/-- 'laws.FnExactCloseIdle': WHATEVER THE INPUT: true; the input reads as it did. -/
def fnExactCloseIdleSpec : ChangeSpec := { name := "fnExactCloseIdle", fn := fun _ => fun
  | [d1, d2] => { results := [.lit (.bool true)], args := [d1, d2] }
  | _ => none }
def fnExactCloseIdleRow : OpenClaim := { program := "ytaddndlpgabkfaa", sum := "4ed2db5c37b7d306aa2ef61ae2c58eb7597972a271b81dcf30caf68646233786", func := "loop.example/connectionpool/laws.FnExactCloseIdle", spec := "fnExactCloseIdle", apart := false }
def FnExactCloseIdleSaid : Prop := fnExactCloseIdleRow.holds Try.pinned (OpenSpec.ofChange fnExactCloseIdleSpec)

/-- ITS FALSE NEIGHBOUR: 'it returns false'. Refute it at one input. -/
def fnExactCloseIdleWrong : ChangeSpec := { name := "fnExactCloseIdle", fn := fun _ => fun
  | [d1, d2] => { results := [.lit (.bool false)], args := [d1, d2] }
  | _ => none }
def FnExactCloseIdleWrongFalsely : Prop := fnExactCloseIdleRow.holds Try.pinned (OpenSpec.ofChange fnExactCloseIdleWrong)

/-- 'laws.FnExactHeldBy': WHATEVER THE INPUT: true; the input reads as it did. -/
def fnExactHeldBySpec : ChangeSpec := { name := "fnExactHeldBy", fn := fun _ => fun
  | [d1, d2] => { results := [.lit (.bool true)], args := [d1, d2] }
  | _ => none }
def fnExactHeldByRow : OpenClaim := { program := "ytaddndlpgabkfaa", sum := "4ed2db5c37b7d306aa2ef61ae2c58eb7597972a271b81dcf30caf68646233786", func := "loop.example/connectionpool/laws.FnExactHeldBy", spec := "fnExactHeldBy", apart := false }
def FnExactHeldBySaid : Prop := fnExactHeldByRow.holds Try.pinned (OpenSpec.ofChange fnExactHeldBySpec)

/-- ITS FALSE NEIGHBOUR: 'it returns false'. Refute it at one input. -/
def fnExactHeldByWrong : ChangeSpec := { name := "fnExactHeldBy", fn := fun _ => fun
  | [d1, d2] => { results := [.lit (.bool false)], args := [d1, d2] }
  | _ => none }
def FnExactHeldByWrongFalsely : Prop := fnExactHeldByRow.holds Try.pinned (OpenSpec.ofChange fnExactHeldByWrong)

/- THE SECOND FORM. 'bulk': how many values and letters a reading holds, each counted each time it is reached (what is shared counts as often as it is met; a slice's spare places count too). A statement '..UptoSaid' is the law's where the arguments, and the package variables that the reading takes, are together of bulk at most 1048576: NARROWER than '..Said'. Prove '..Said' where nothing that the law and all that it calls make is longer than what came in: it says more and counts as full. Else prove '..UptoSaid'. A law counts once. -/
mutual
def uptoBulk {H : Type} : DataW H → Nat
  | .lit (.string bytes) => bytes.length + 1
  | .lit _ => 1
  | .nil => 1
  | .ptr d => uptoBulk d + 1
  | .slice elems spare => uptoBulkAll elems + uptoBulkAll spare + 1
  | .agg parts => uptoBulkAll parts + 1
  | .iface _ d => uptoBulk d + 1
  | .map entries => uptoBulkEntries entries + 1
  | .held _ => 1
def uptoBulkAll {H : Type} : List (DataW H) → Nat
  | [] => 0
  | d :: r => uptoBulk d + uptoBulkAll r
def uptoBulkEntries {H : Type} : List (Lit × DataW H) → Nat
  | [] => 0
  | x :: r => uptoBulkEntry x + uptoBulkEntries r
def uptoBulkEntry {H : Type} : Lit × DataW H → Nat
  | (.string bytes, d) => bytes.length + uptoBulk d + 1
  | (_, d) => uptoBulk d + 1
 end
def uptoSmall : (H : Type) → List (DataW H) → Bool := fun _ ds => decide (uptoBulkAll ds ≤ 1048576)
def OpenSpec.upto (s : _root_.Go.ChangeSpec) : _root_.Go.OpenSpec := { _root_.Go.OpenSpec.ofChange s with cond := some uptoSmall }

/-- 'laws.FnExactValidPool', WHERE WHAT IT READS IS OF BULK AT MOST 1048576: true; the input reads as it did. -/
def fnExactValidPoolUptoRow : OpenClaim := { program := "ytaddndlpgabkfaa", sum := "4ed2db5c37b7d306aa2ef61ae2c58eb7597972a271b81dcf30caf68646233786", func := "loop.example/connectionpool/laws.FnExactValidPool", spec := "fnExactValidPool", apart := false, narrowed := true }
def FnExactValidPoolUptoSaid : Prop := fnExactValidPoolUptoRow.holds Try.pinned (OpenSpec.upto fnExactValidPoolSpec)

/-- 'laws.FnExactAcquireConn', WHERE WHAT IT READS IS OF BULK AT MOST 1048576: true; the input reads as it did. -/
def fnExactAcquireConnUptoRow : OpenClaim := { program := "ytaddndlpgabkfaa", sum := "4ed2db5c37b7d306aa2ef61ae2c58eb7597972a271b81dcf30caf68646233786", func := "loop.example/connectionpool/laws.FnExactAcquireConn", spec := "fnExactAcquireConn", apart := false, narrowed := true }
def FnExactAcquireConnUptoSaid : Prop := fnExactAcquireConnUptoRow.holds Try.pinned (OpenSpec.upto fnExactAcquireConnSpec)

/-- 'laws.FnExactReleaseConn', WHERE WHAT IT READS IS OF BULK AT MOST 1048576: true; the input reads as it did. -/
def fnExactReleaseConnUptoRow : OpenClaim := { program := "ytaddndlpgabkfaa", sum := "4ed2db5c37b7d306aa2ef61ae2c58eb7597972a271b81dcf30caf68646233786", func := "loop.example/connectionpool/laws.FnExactReleaseConn", spec := "fnExactReleaseConn", apart := false, narrowed := true }
def FnExactReleaseConnUptoSaid : Prop := fnExactReleaseConnUptoRow.holds Try.pinned (OpenSpec.upto fnExactReleaseConnSpec)

/-- 'laws.FnExactCloseIdle', WHERE WHAT IT READS IS OF BULK AT MOST 1048576: true; the input reads as it did. -/
def fnExactCloseIdleUptoRow : OpenClaim := { program := "ytaddndlpgabkfaa", sum := "4ed2db5c37b7d306aa2ef61ae2c58eb7597972a271b81dcf30caf68646233786", func := "loop.example/connectionpool/laws.FnExactCloseIdle", spec := "fnExactCloseIdle", apart := false, narrowed := true }
def FnExactCloseIdleUptoSaid : Prop := fnExactCloseIdleUptoRow.holds Try.pinned (OpenSpec.upto fnExactCloseIdleSpec)

/-- 'laws.FnExactHeldBy', WHERE WHAT IT READS IS OF BULK AT MOST 1048576: true; the input reads as it did. -/
def fnExactHeldByUptoRow : OpenClaim := { program := "ytaddndlpgabkfaa", sum := "4ed2db5c37b7d306aa2ef61ae2c58eb7597972a271b81dcf30caf68646233786", func := "loop.example/connectionpool/laws.FnExactHeldBy", spec := "fnExactHeldBy", apart := false, narrowed := true }
def FnExactHeldByUptoSaid : Prop := fnExactHeldByUptoRow.holds Try.pinned (OpenSpec.upto fnExactHeldBySpec)

end Rows
end Go.Proofs.Ytaddndlpgabkfaa

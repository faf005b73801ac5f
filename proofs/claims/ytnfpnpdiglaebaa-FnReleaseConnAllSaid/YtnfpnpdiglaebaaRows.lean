/-
  No cell of these rows narrows 'for every input' (looked for: loops, veiled, ifaces, maps, wideKeys, modest, calm, conditions, laid).
  DERIVED. THE GIVEN ROWS OF THIS SEAT. 7 by the template 'for every input the law returns true; each argument reads behind the call as it read before'; 0 by the template 'total and deterministic' (their statements: YtnfpnpdiglaebaaTotals.lean).
  GIVEN WITH THE SEED: the statements are not yours to turn. If you find one false, say at which input.
  Laid BY PROGRAM, IN A SANDBOX (cutbox-rows.mjs): the forced cells as the released guide's own fill.sh prints them over the translation 12402a12c673cf49… (all of the seat's roots in one cut). By AI agents, Wed Nov 11 2026. No macro, syntax, notation, axiom, sorry.
-/
import Derived.Test.YtnfpnpdiglaebaaChecked
import GoSem.Claim
import GoSem.ClaimJoined
import GoSem.ClaimMapViews
import Derived.JoinedTies
import Derived.KernelRfl
namespace Go.Proofs.Ytnfpnpdiglaebaa
/- THE CELL 'sum', in the pinned program and in every row, IS THE sha256 OF THE DUMP (.gsa) THAT YtnfpnpdiglaebaaProg.lean LOADS. Nothing in Lean hashes anything: it is a label: what it is worth is what the hold of that sum in a sandbox is worth. -/
noncomputable def Try.pinned : Pinned := { name := "ytnfpnpdiglaebaa", sum := "12402a12c673cf4965782eaba95683b872309c2cfb21ce6515df63b552909f20", checked := Try.checked }
namespace Rows
def none {H : Type} : Left H := { results := [], args := [] }

/-- 'laws.FnValidPool': WHATEVER THE INPUT: true; the input reads as it did. -/
def fnValidPoolSpec : ChangeSpec := { name := "fnValidPool", fn := fun _ => fun
  | [d] => { results := [.lit (.bool true)], args := [d] }
  | _ => none }
def fnValidPoolRow : OpenClaim := { program := "ytnfpnpdiglaebaa", sum := "12402a12c673cf4965782eaba95683b872309c2cfb21ce6515df63b552909f20", func := "loop.example/connectionpool/laws.FnValidPool", spec := "fnValidPool", apart := false }
def FnValidPoolSaid : Prop := fnValidPoolRow.holds Try.pinned (OpenSpec.ofChange fnValidPoolSpec)

/-- ITS FALSE NEIGHBOUR: 'it returns false'. Refute it at one input. -/
def fnValidPoolWrong : ChangeSpec := { name := "fnValidPool", fn := fun _ => fun
  | [d] => { results := [.lit (.bool false)], args := [d] }
  | _ => none }
def FnValidPoolWrongFalsely : Prop := fnValidPoolRow.holds Try.pinned (OpenSpec.ofChange fnValidPoolWrong)

/-- 'laws.FnAcquireConn': WHATEVER THE INPUT: true; the input reads as it did. -/
def fnAcquireConnSpec : ChangeSpec := { name := "fnAcquireConn", fn := fun _ => fun
  | [d] => { results := [.lit (.bool true)], args := [d] }
  | _ => none }
def fnAcquireConnRow : OpenClaim := { program := "ytnfpnpdiglaebaa", sum := "12402a12c673cf4965782eaba95683b872309c2cfb21ce6515df63b552909f20", func := "loop.example/connectionpool/laws.FnAcquireConn", spec := "fnAcquireConn", apart := false }
def FnAcquireConnSaid : Prop := fnAcquireConnRow.holds Try.pinned (OpenSpec.ofChange fnAcquireConnSpec)

/-- ITS FALSE NEIGHBOUR: 'it returns false'. Refute it at one input. -/
def fnAcquireConnWrong : ChangeSpec := { name := "fnAcquireConn", fn := fun _ => fun
  | [d] => { results := [.lit (.bool false)], args := [d] }
  | _ => none }
def FnAcquireConnWrongFalsely : Prop := fnAcquireConnRow.holds Try.pinned (OpenSpec.ofChange fnAcquireConnWrong)

/-- 'laws.FnAcquireConnWait': WHATEVER THE INPUT: true; the input reads as it did. -/
def fnAcquireConnWaitSpec : ChangeSpec := { name := "fnAcquireConnWait", fn := fun _ => fun
  | [d] => { results := [.lit (.bool true)], args := [d] }
  | _ => none }
def fnAcquireConnWaitRow : OpenClaim := { program := "ytnfpnpdiglaebaa", sum := "12402a12c673cf4965782eaba95683b872309c2cfb21ce6515df63b552909f20", func := "loop.example/connectionpool/laws.FnAcquireConnWait", spec := "fnAcquireConnWait", apart := false }
def FnAcquireConnWaitSaid : Prop := fnAcquireConnWaitRow.holds Try.pinned (OpenSpec.ofChange fnAcquireConnWaitSpec)

/-- ITS FALSE NEIGHBOUR: 'it returns false'. Refute it at one input. -/
def fnAcquireConnWaitWrong : ChangeSpec := { name := "fnAcquireConnWait", fn := fun _ => fun
  | [d] => { results := [.lit (.bool false)], args := [d] }
  | _ => none }
def FnAcquireConnWaitWrongFalsely : Prop := fnAcquireConnWaitRow.holds Try.pinned (OpenSpec.ofChange fnAcquireConnWaitWrong)

/-- 'laws.FnAcquireConnBack': WHATEVER THE INPUT: true; the input reads as it did. -/
def fnAcquireConnBackSpec : ChangeSpec := { name := "fnAcquireConnBack", fn := fun _ => fun
  | [d] => { results := [.lit (.bool true)], args := [d] }
  | _ => none }
def fnAcquireConnBackRow : OpenClaim := { program := "ytnfpnpdiglaebaa", sum := "12402a12c673cf4965782eaba95683b872309c2cfb21ce6515df63b552909f20", func := "loop.example/connectionpool/laws.FnAcquireConnBack", spec := "fnAcquireConnBack", apart := false }
def FnAcquireConnBackSaid : Prop := fnAcquireConnBackRow.holds Try.pinned (OpenSpec.ofChange fnAcquireConnBackSpec)

/-- ITS FALSE NEIGHBOUR: 'it returns false'. Refute it at one input. -/
def fnAcquireConnBackWrong : ChangeSpec := { name := "fnAcquireConnBack", fn := fun _ => fun
  | [d] => { results := [.lit (.bool false)], args := [d] }
  | _ => none }
def FnAcquireConnBackWrongFalsely : Prop := fnAcquireConnBackRow.holds Try.pinned (OpenSpec.ofChange fnAcquireConnBackWrong)

/-- 'laws.FnReleaseConnAll': WHATEVER THE INPUT: true; the input reads as it did. -/
def fnReleaseConnAllSpec : ChangeSpec := { name := "fnReleaseConnAll", fn := fun _ => fun
  | [d] => { results := [.lit (.bool true)], args := [d] }
  | _ => none }
def fnReleaseConnAllRow : OpenClaim := { program := "ytnfpnpdiglaebaa", sum := "12402a12c673cf4965782eaba95683b872309c2cfb21ce6515df63b552909f20", func := "loop.example/connectionpool/laws.FnReleaseConnAll", spec := "fnReleaseConnAll", apart := false }
def FnReleaseConnAllSaid : Prop := fnReleaseConnAllRow.holds Try.pinned (OpenSpec.ofChange fnReleaseConnAllSpec)

/-- ITS FALSE NEIGHBOUR: 'it returns false'. Refute it at one input. -/
def fnReleaseConnAllWrong : ChangeSpec := { name := "fnReleaseConnAll", fn := fun _ => fun
  | [d] => { results := [.lit (.bool false)], args := [d] }
  | _ => none }
def FnReleaseConnAllWrongFalsely : Prop := fnReleaseConnAllRow.holds Try.pinned (OpenSpec.ofChange fnReleaseConnAllWrong)

/-- 'laws.FnHeldBy': WHATEVER THE INPUT: true; the input reads as it did. -/
def fnHeldBySpec : ChangeSpec := { name := "fnHeldBy", fn := fun _ => fun
  | [d] => { results := [.lit (.bool true)], args := [d] }
  | _ => none }
def fnHeldByRow : OpenClaim := { program := "ytnfpnpdiglaebaa", sum := "12402a12c673cf4965782eaba95683b872309c2cfb21ce6515df63b552909f20", func := "loop.example/connectionpool/laws.FnHeldBy", spec := "fnHeldBy", apart := false }
def FnHeldBySaid : Prop := fnHeldByRow.holds Try.pinned (OpenSpec.ofChange fnHeldBySpec)

/-- ITS FALSE NEIGHBOUR: 'it returns false'. Refute it at one input. -/
def fnHeldByWrong : ChangeSpec := { name := "fnHeldBy", fn := fun _ => fun
  | [d] => { results := [.lit (.bool false)], args := [d] }
  | _ => none }
def FnHeldByWrongFalsely : Prop := fnHeldByRow.holds Try.pinned (OpenSpec.ofChange fnHeldByWrong)

/-- 'laws.FnCloseIdleAll': WHATEVER THE INPUT: true; the input reads as it did. -/
def fnCloseIdleAllSpec : ChangeSpec := { name := "fnCloseIdleAll", fn := fun _ => fun
  | [d] => { results := [.lit (.bool true)], args := [d] }
  | _ => none }
def fnCloseIdleAllRow : OpenClaim := { program := "ytnfpnpdiglaebaa", sum := "12402a12c673cf4965782eaba95683b872309c2cfb21ce6515df63b552909f20", func := "loop.example/connectionpool/laws.FnCloseIdleAll", spec := "fnCloseIdleAll", apart := false }
def FnCloseIdleAllSaid : Prop := fnCloseIdleAllRow.holds Try.pinned (OpenSpec.ofChange fnCloseIdleAllSpec)

/-- ITS FALSE NEIGHBOUR: 'it returns false'. Refute it at one input. -/
def fnCloseIdleAllWrong : ChangeSpec := { name := "fnCloseIdleAll", fn := fun _ => fun
  | [d] => { results := [.lit (.bool false)], args := [d] }
  | _ => none }
def FnCloseIdleAllWrongFalsely : Prop := fnCloseIdleAllRow.holds Try.pinned (OpenSpec.ofChange fnCloseIdleAllWrong)

/- THE SECOND FORM. 'bulk': how many values and letters a reading holds, each counted each time it is reached (what is shared counts as often as it is met; a slice's spare places count too). A statement '..UptoSaid' is the law's where the arguments, and the package variables that the reading takes, are together of bulk at most 1048576: NARROWER than '..Said'. Prove '..Said' where nothing that the law and all that it calls make is longer than what came in: it says more and counts as full. Else prove '..UptoSaid'. A law counts once. -/
mutual
def uptoBulk {H : Type} : DataW H → Nat
  | .lit (.string bytes) => bytes.length + 1
  | .lit _ => 1
  | .nil => 1
  | .ptr d => uptoBulk d + 1
  | .slice elems spare => uptoBulkAll elems + uptoBulkAll spare + 1
  | .agg parts => uptoBulkAll parts + 1
  | .iface _ d => uptoBulk d + 1
  | .map entries => uptoBulkEntries entries + 1
  | .held _ => 1
def uptoBulkAll {H : Type} : List (DataW H) → Nat
  | [] => 0
  | d :: r => uptoBulk d + uptoBulkAll r
def uptoBulkEntries {H : Type} : List (Lit × DataW H) → Nat
  | [] => 0
  | x :: r => uptoBulkEntry x + uptoBulkEntries r
def uptoBulkEntry {H : Type} : Lit × DataW H → Nat
  | (.string bytes, d) => bytes.length + uptoBulk d + 1
  | (_, d) => uptoBulk d + 1
 end
def uptoSmall : (H : Type) → List (DataW H) → Bool := fun _ ds => decide (uptoBulkAll ds ≤ 1048576)
def OpenSpec.upto (s : _root_.Go.ChangeSpec) : _root_.Go.OpenSpec := { _root_.Go.OpenSpec.ofChange s with cond := some uptoSmall }

/-- 'laws.FnValidPool', WHERE WHAT IT READS IS OF BULK AT MOST 1048576: true; the input reads as it did. -/
def fnValidPoolUptoRow : OpenClaim := { program := "ytnfpnpdiglaebaa", sum := "12402a12c673cf4965782eaba95683b872309c2cfb21ce6515df63b552909f20", func := "loop.example/connectionpool/laws.FnValidPool", spec := "fnValidPool", apart := false, narrowed := true }
def FnValidPoolUptoSaid : Prop := fnValidPoolUptoRow.holds Try.pinned (OpenSpec.upto fnValidPoolSpec)

/-- 'laws.FnAcquireConn', WHERE WHAT IT READS IS OF BULK AT MOST 1048576: true; the input reads as it did. -/
def fnAcquireConnUptoRow : OpenClaim := { program := "ytnfpnpdiglaebaa", sum := "12402a12c673cf4965782eaba95683b872309c2cfb21ce6515df63b552909f20", func := "loop.example/connectionpool/laws.FnAcquireConn", spec := "fnAcquireConn", apart := false, narrowed := true }
def FnAcquireConnUptoSaid : Prop := fnAcquireConnUptoRow.holds Try.pinned (OpenSpec.upto fnAcquireConnSpec)

/-- 'laws.FnAcquireConnWait', WHERE WHAT IT READS IS OF BULK AT MOST 1048576: true; the input reads as it did. -/
def fnAcquireConnWaitUptoRow : OpenClaim := { program := "ytnfpnpdiglaebaa", sum := "12402a12c673cf4965782eaba95683b872309c2cfb21ce6515df63b552909f20", func := "loop.example/connectionpool/laws.FnAcquireConnWait", spec := "fnAcquireConnWait", apart := false, narrowed := true }
def FnAcquireConnWaitUptoSaid : Prop := fnAcquireConnWaitUptoRow.holds Try.pinned (OpenSpec.upto fnAcquireConnWaitSpec)

/-- 'laws.FnAcquireConnBack', WHERE WHAT IT READS IS OF BULK AT MOST 1048576: true; the input reads as it did. -/
def fnAcquireConnBackUptoRow : OpenClaim := { program := "ytnfpnpdiglaebaa", sum := "12402a12c673cf4965782eaba95683b872309c2cfb21ce6515df63b552909f20", func := "loop.example/connectionpool/laws.FnAcquireConnBack", spec := "fnAcquireConnBack", apart := false, narrowed := true }
def FnAcquireConnBackUptoSaid : Prop := fnAcquireConnBackUptoRow.holds Try.pinned (OpenSpec.upto fnAcquireConnBackSpec)

/-- 'laws.FnReleaseConnAll', WHERE WHAT IT READS IS OF BULK AT MOST 1048576: true; the input reads as it did. -/
def fnReleaseConnAllUptoRow : OpenClaim := { program := "ytnfpnpdiglaebaa", sum := "12402a12c673cf4965782eaba95683b872309c2cfb21ce6515df63b552909f20", func := "loop.example/connectionpool/laws.FnReleaseConnAll", spec := "fnReleaseConnAll", apart := false, narrowed := true }
def FnReleaseConnAllUptoSaid : Prop := fnReleaseConnAllUptoRow.holds Try.pinned (OpenSpec.upto fnReleaseConnAllSpec)

/-- 'laws.FnHeldBy', WHERE WHAT IT READS IS OF BULK AT MOST 1048576: true; the input reads as it did. -/
def fnHeldByUptoRow : OpenClaim := { program := "ytnfpnpdiglaebaa", sum := "12402a12c673cf4965782eaba95683b872309c2cfb21ce6515df63b552909f20", func := "loop.example/connectionpool/laws.FnHeldBy", spec := "fnHeldBy", apart := false, narrowed := true }
def FnHeldByUptoSaid : Prop := fnHeldByUptoRow.holds Try.pinned (OpenSpec.upto fnHeldBySpec)

/-- 'laws.FnCloseIdleAll', WHERE WHAT IT READS IS OF BULK AT MOST 1048576: true; the input reads as it did. -/
def fnCloseIdleAllUptoRow : OpenClaim := { program := "ytnfpnpdiglaebaa", sum := "12402a12c673cf4965782eaba95683b872309c2cfb21ce6515df63b552909f20", func := "loop.example/connectionpool/laws.FnCloseIdleAll", spec := "fnCloseIdleAll", apart := false, narrowed := true }
def FnCloseIdleAllUptoSaid : Prop := fnCloseIdleAllUptoRow.holds Try.pinned (OpenSpec.upto fnCloseIdleAllSpec)

end Rows
end Go.Proofs.Ytnfpnpdiglaebaa

/-
  No cell of these rows narrows 'for every input' (looked for: loops, veiled, ifaces, maps, wideKeys, modest, calm, conditions, laid).
  DERIVED. THE GIVEN ROWS OF THIS SEAT. 7 by the template 'for every input the law returns true; each argument reads behind the call as it read before'; 0 by the template 'total and deterministic' (their statements: YtnfpnpdiglaebabTotals.lean).
  GIVEN WITH THE SEED: the statements are not yours to turn. If you find one false, say at which input.
  Laid BY PROGRAM, IN A SANDBOX (cutbox-rows.mjs): the forced cells as the released guide's own fill.sh prints them over the translation 1d85ab92ba56d043… (all of the seat's roots in one cut). By AI agents, Wed Nov 11 2026. No macro, syntax, notation, axiom, sorry.
-/
import Derived.Test.YtnfpnpdiglaebabChecked
import GoSem.Claim
import GoSem.ClaimJoined
import GoSem.ClaimMapViews
import Derived.JoinedTies
import Derived.KernelRfl
namespace Go.Proofs.Ytnfpnpdiglaebab
/- THE CELL 'sum', in the pinned program and in every row, IS THE sha256 OF THE DUMP (.gsa) THAT YtnfpnpdiglaebabProg.lean LOADS. Nothing in Lean hashes anything: it is a label: what it is worth is what the hold of that sum in a sandbox is worth. -/
noncomputable def Try.pinned : Pinned := { name := "ytnfpnpdiglaebab", sum := "1d85ab92ba56d0434e791d1f2452c2cc279858ac0b30bf8692dfc5863b785e95", checked := Try.checked }
namespace Rows
def none {H : Type} : Left H := { results := [], args := [] }

/-- 'laws.FnReleaseConn': WHATEVER THE INPUT: true; the input reads as it did. -/
def fnReleaseConnSpec : ChangeSpec := { name := "fnReleaseConn", fn := fun _ => fun
  | [d] => { results := [.lit (.bool true)], args := [d] }
  | _ => none }
def fnReleaseConnRow : OpenClaim := { program := "ytnfpnpdiglaebab", sum := "1d85ab92ba56d0434e791d1f2452c2cc279858ac0b30bf8692dfc5863b785e95", func := "loop.example/connectionpool/laws.FnReleaseConn", spec := "fnReleaseConn", apart := false }
def FnReleaseConnSaid : Prop := fnReleaseConnRow.holds Try.pinned (OpenSpec.ofChange fnReleaseConnSpec)

/-- ITS FALSE NEIGHBOUR: 'it returns false'. Refute it at one input. -/
def fnReleaseConnWrong : ChangeSpec := { name := "fnReleaseConn", fn := fun _ => fun
  | [d] => { results := [.lit (.bool false)], args := [d] }
  | _ => none }
def FnReleaseConnWrongFalsely : Prop := fnReleaseConnRow.holds Try.pinned (OpenSpec.ofChange fnReleaseConnWrong)

/-- 'laws.FnCloseIdle': WHATEVER THE INPUT: true; the input reads as it did. -/
def fnCloseIdleSpec : ChangeSpec := { name := "fnCloseIdle", fn := fun _ => fun
  | [d] => { results := [.lit (.bool true)], args := [d] }
  | _ => none }
def fnCloseIdleRow : OpenClaim := { program := "ytnfpnpdiglaebab", sum := "1d85ab92ba56d0434e791d1f2452c2cc279858ac0b30bf8692dfc5863b785e95", func := "loop.example/connectionpool/laws.FnCloseIdle", spec := "fnCloseIdle", apart := false }
def FnCloseIdleSaid : Prop := fnCloseIdleRow.holds Try.pinned (OpenSpec.ofChange fnCloseIdleSpec)

/-- ITS FALSE NEIGHBOUR: 'it returns false'. Refute it at one input. -/
def fnCloseIdleWrong : ChangeSpec := { name := "fnCloseIdle", fn := fun _ => fun
  | [d] => { results := [.lit (.bool false)], args := [d] }
  | _ => none }
def FnCloseIdleWrongFalsely : Prop := fnCloseIdleRow.holds Try.pinned (OpenSpec.ofChange fnCloseIdleWrong)

/-- 'laws.FnCloseIdleParts': WHATEVER THE INPUT: true; the input reads as it did. -/
def fnCloseIdlePartsSpec : ChangeSpec := { name := "fnCloseIdleParts", fn := fun _ => fun
  | [d] => { results := [.lit (.bool true)], args := [d] }
  | _ => none }
def fnCloseIdlePartsRow : OpenClaim := { program := "ytnfpnpdiglaebab", sum := "1d85ab92ba56d0434e791d1f2452c2cc279858ac0b30bf8692dfc5863b785e95", func := "loop.example/connectionpool/laws.FnCloseIdleParts", spec := "fnCloseIdleParts", apart := false }
def FnCloseIdlePartsSaid : Prop := fnCloseIdlePartsRow.holds Try.pinned (OpenSpec.ofChange fnCloseIdlePartsSpec)

/-- ITS FALSE NEIGHBOUR: 'it returns false'. Refute it at one input. -/
def fnCloseIdlePartsWrong : ChangeSpec := { name := "fnCloseIdleParts", fn := fun _ => fun
  | [d] => { results := [.lit (.bool false)], args := [d] }
  | _ => none }
def FnCloseIdlePartsWrongFalsely : Prop := fnCloseIdlePartsRow.holds Try.pinned (OpenSpec.ofChange fnCloseIdlePartsWrong)

/-- 'laws.FnValidPoolIdle': WHATEVER THE INPUT: true; the input reads as it did. -/
def fnValidPoolIdleSpec : ChangeSpec := { name := "fnValidPoolIdle", fn := fun _ => fun
  | [d] => { results := [.lit (.bool true)], args := [d] }
  | _ => none }
def fnValidPoolIdleRow : OpenClaim := { program := "ytnfpnpdiglaebab", sum := "1d85ab92ba56d0434e791d1f2452c2cc279858ac0b30bf8692dfc5863b785e95", func := "loop.example/connectionpool/laws.FnValidPoolIdle", spec := "fnValidPoolIdle", apart := false }
def FnValidPoolIdleSaid : Prop := fnValidPoolIdleRow.holds Try.pinned (OpenSpec.ofChange fnValidPoolIdleSpec)

/-- ITS FALSE NEIGHBOUR: 'it returns false'. Refute it at one input. -/
def fnValidPoolIdleWrong : ChangeSpec := { name := "fnValidPoolIdle", fn := fun _ => fun
  | [d] => { results := [.lit (.bool false)], args := [d] }
  | _ => none }
def FnValidPoolIdleWrongFalsely : Prop := fnValidPoolIdleRow.holds Try.pinned (OpenSpec.ofChange fnValidPoolIdleWrong)

/-- 'laws.FnAcquireConnOpen': WHATEVER THE INPUT: true; the input reads as it did. -/
def fnAcquireConnOpenSpec : ChangeSpec := { name := "fnAcquireConnOpen", fn := fun _ => fun
  | [d] => { results := [.lit (.bool true)], args := [d] }
  | _ => none }
def fnAcquireConnOpenRow : OpenClaim := { program := "ytnfpnpdiglaebab", sum := "1d85ab92ba56d0434e791d1f2452c2cc279858ac0b30bf8692dfc5863b785e95", func := "loop.example/connectionpool/laws.FnAcquireConnOpen", spec := "fnAcquireConnOpen", apart := false }
def FnAcquireConnOpenSaid : Prop := fnAcquireConnOpenRow.holds Try.pinned (OpenSpec.ofChange fnAcquireConnOpenSpec)

/-- ITS FALSE NEIGHBOUR: 'it returns false'. Refute it at one input. -/
def fnAcquireConnOpenWrong : ChangeSpec := { name := "fnAcquireConnOpen", fn := fun _ => fun
  | [d] => { results := [.lit (.bool false)], args := [d] }
  | _ => none }
def FnAcquireConnOpenWrongFalsely : Prop := fnAcquireConnOpenRow.holds Try.pinned (OpenSpec.ofChange fnAcquireConnOpenWrong)

/-- 'laws.FnReleaseConnWait': WHATEVER THE INPUT: true; the input reads as it did. -/
def fnReleaseConnWaitSpec : ChangeSpec := { name := "fnReleaseConnWait", fn := fun _ => fun
  | [d] => { results := [.lit (.bool true)], args := [d] }
  | _ => none }
def fnReleaseConnWaitRow : OpenClaim := { program := "ytnfpnpdiglaebab", sum := "1d85ab92ba56d0434e791d1f2452c2cc279858ac0b30bf8692dfc5863b785e95", func := "loop.example/connectionpool/laws.FnReleaseConnWait", spec := "fnReleaseConnWait", apart := false }
def FnReleaseConnWaitSaid : Prop := fnReleaseConnWaitRow.holds Try.pinned (OpenSpec.ofChange fnReleaseConnWaitSpec)

/-- ITS FALSE NEIGHBOUR: 'it returns false'. Refute it at one input. -/
def fnReleaseConnWaitWrong : ChangeSpec := { name := "fnReleaseConnWait", fn := fun _ => fun
  | [d] => { results := [.lit (.bool false)], args := [d] }
  | _ => none }
def FnReleaseConnWaitWrongFalsely : Prop := fnReleaseConnWaitRow.holds Try.pinned (OpenSpec.ofChange fnReleaseConnWaitWrong)

/-- 'laws.FnHeldByAcquire': WHATEVER THE INPUT: true; the input reads as it did. -/
def fnHeldByAcquireSpec : ChangeSpec := { name := "fnHeldByAcquire", fn := fun _ => fun
  | [d] => { results := [.lit (.bool true)], args := [d] }
  | _ => none }
def fnHeldByAcquireRow : OpenClaim := { program := "ytnfpnpdiglaebab", sum := "1d85ab92ba56d0434e791d1f2452c2cc279858ac0b30bf8692dfc5863b785e95", func := "loop.example/connectionpool/laws.FnHeldByAcquire", spec := "fnHeldByAcquire", apart := false }
def FnHeldByAcquireSaid : Prop := fnHeldByAcquireRow.holds Try.pinned (OpenSpec.ofChange fnHeldByAcquireSpec)

/-- ITS FALSE NEIGHBOUR: 'it returns false'. Refute it at one input. -/
def fnHeldByAcquireWrong : ChangeSpec := { name := "fnHeldByAcquire", fn := fun _ => fun
  | [d] => { results := [.lit (.bool false)], args := [d] }
  | _ => none }
def FnHeldByAcquireWrongFalsely : Prop := fnHeldByAcquireRow.holds Try.pinned (OpenSpec.ofChange fnHeldByAcquireWrong)

/- THE SECOND FORM. 'bulk': how many values and letters a reading holds, each counted each time it is reached (what is shared counts as often as it is met; a slice's spare places count too). A statement '..UptoSaid' is the law's where the arguments, and the package variables that the reading takes, are together of bulk at most 1048576: NARROWER than '..Said'. Prove '..Said' where nothing that the law and all that it calls make is longer than what came in: it says more and counts as full. Else prove '..UptoSaid'. A law counts once. -/
mutual
def uptoBulk {H : Type} : DataW H → Nat
  | .lit (.string bytes) => bytes.length + 1
  | .lit _ => 1
  | .nil => 1
  | .ptr d => uptoBulk d + 1
  | .slice elems spare => uptoBulkAll elems + uptoBulkAll spare + 1
  | .agg parts => uptoBulkAll parts + 1
  | .iface _ d => uptoBulk d + 1
  | .map entries => uptoBulkEntries entries + 1
  | .held _ => 1
def uptoBulkAll {H : Type} : List (DataW H) → Nat
  | [] => 0
  | d :: r => uptoBulk d + uptoBulkAll r
def uptoBulkEntries {H : Type} : List (Lit × DataW H) → Nat
  | [] => 0
  | x :: r => uptoBulkEntry x + uptoBulkEntries r
def uptoBulkEntry {H : Type} : Lit × DataW H → Nat
  | (.string bytes, d) => bytes.length + uptoBulk d + 1
  | (_, d) => uptoBulk d + 1
 end
def uptoSmall : (H : Type) → List (DataW H) → Bool := fun _ ds => decide (uptoBulkAll ds ≤ 1048576)
def OpenSpec.upto (s : _root_.Go.ChangeSpec) : _root_.Go.OpenSpec := { _root_.Go.OpenSpec.ofChange s with cond := some uptoSmall }

/-- 'laws.FnReleaseConn', WHERE WHAT IT READS IS OF BULK AT MOST 1048576: true; the input reads as it did. -/
def fnReleaseConnUptoRow : OpenClaim := { program := "ytnfpnpdiglaebab", sum := "1d85ab92ba56d0434e791d1f2452c2cc279858ac0b30bf8692dfc5863b785e95", func := "loop.example/connectionpool/laws.FnReleaseConn", spec := "fnReleaseConn", apart := false, narrowed := true }
def FnReleaseConnUptoSaid : Prop := fnReleaseConnUptoRow.holds Try.pinned (OpenSpec.upto fnReleaseConnSpec)

/-- 'laws.FnCloseIdle', WHERE WHAT IT READS IS OF BULK AT MOST 1048576: true; the input reads as it did. -/
def fnCloseIdleUptoRow : OpenClaim := { program := "ytnfpnpdiglaebab", sum := "1d85ab92ba56d0434e791d1f2452c2cc279858ac0b30bf8692dfc5863b785e95", func := "loop.example/connectionpool/laws.FnCloseIdle", spec := "fnCloseIdle", apart := false, narrowed := true }
def FnCloseIdleUptoSaid : Prop := fnCloseIdleUptoRow.holds Try.pinned (OpenSpec.upto fnCloseIdleSpec)

/-- 'laws.FnCloseIdleParts', WHERE WHAT IT READS IS OF BULK AT MOST 1048576: true; the input reads as it did. -/
def fnCloseIdlePartsUptoRow : OpenClaim := { program := "ytnfpnpdiglaebab", sum := "1d85ab92ba56d0434e791d1f2452c2cc279858ac0b30bf8692dfc5863b785e95", func := "loop.example/connectionpool/laws.FnCloseIdleParts", spec := "fnCloseIdleParts", apart := false, narrowed := true }
def FnCloseIdlePartsUptoSaid : Prop := fnCloseIdlePartsUptoRow.holds Try.pinned (OpenSpec.upto fnCloseIdlePartsSpec)

/-- 'laws.FnValidPoolIdle', WHERE WHAT IT READS IS OF BULK AT MOST 1048576: true; the input reads as it did. -/
def fnValidPoolIdleUptoRow : OpenClaim := { program := "ytnfpnpdiglaebab", sum := "1d85ab92ba56d0434e791d1f2452c2cc279858ac0b30bf8692dfc5863b785e95", func := "loop.example/connectionpool/laws.FnValidPoolIdle", spec := "fnValidPoolIdle", apart := false, narrowed := true }
def FnValidPoolIdleUptoSaid : Prop := fnValidPoolIdleUptoRow.holds Try.pinned (OpenSpec.upto fnValidPoolIdleSpec)

/-- 'laws.FnAcquireConnOpen', WHERE WHAT IT READS IS OF BULK AT MOST 1048576: true; the input reads as it did. -/
def fnAcquireConnOpenUptoRow : OpenClaim := { program := "ytnfpnpdiglaebab", sum := "1d85ab92ba56d0434e791d1f2452c2cc279858ac0b30bf8692dfc5863b785e95", func := "loop.example/connectionpool/laws.FnAcquireConnOpen", spec := "fnAcquireConnOpen", apart := false, narrowed := true }
def FnAcquireConnOpenUptoSaid : Prop := fnAcquireConnOpenUptoRow.holds Try.pinned (OpenSpec.upto fnAcquireConnOpenSpec)

/-- 'laws.FnReleaseConnWait', WHERE WHAT IT READS IS OF BULK AT MOST 1048576: true; the input reads as it did. -/
def fnReleaseConnWaitUptoRow : OpenClaim := { program := "ytnfpnpdiglaebab", sum := "1d85ab92ba56d0434e791d1f2452c2cc279858ac0b30bf8692dfc5863b785e95", func := "loop.example/connectionpool/laws.FnReleaseConnWait", spec := "fnReleaseConnWait", apart := false, narrowed := true }
def FnReleaseConnWaitUptoSaid : Prop := fnReleaseConnWaitUptoRow.holds Try.pinned (OpenSpec.upto fnReleaseConnWaitSpec)

/-- 'laws.FnHeldByAcquire', WHERE WHAT IT READS IS OF BULK AT MOST 1048576: true; the input reads as it did. -/
def fnHeldByAcquireUptoRow : OpenClaim := { program := "ytnfpnpdiglaebab", sum := "1d85ab92ba56d0434e791d1f2452c2cc279858ac0b30bf8692dfc5863b785e95", func := "loop.example/connectionpool/laws.FnHeldByAcquire", spec := "fnHeldByAcquire", apart := false, narrowed := true }
def FnHeldByAcquireUptoSaid : Prop := fnHeldByAcquireUptoRow.holds Try.pinned (OpenSpec.upto fnHeldByAcquireSpec)

end Rows
end Go.Proofs.Ytnfpnpdiglaebab

/-
  No cell of these rows narrows 'for every input' (looked for: loops, veiled, ifaces, maps, wideKeys, modest, calm, conditions, laid).
  DERIVED. THE GIVEN ROWS OF THIS SEAT. 9 by the template 'for every input the law returns true; each argument reads behind the call as it read before'; 0 by the template 'total and deterministic' (their statements: YthmpeahlddfpnaaTotals.lean).
  GIVEN WITH THE SEED: the statements are not yours to turn. If you find one false, say at which input.
  Laid BY PROGRAM, IN A SANDBOX (cutbox-rows.mjs): the forced cells as the released guide's own fill.sh prints them over the translation e4d1ae1e7de34aff… (all of the seat's roots in one cut). By AI agents, Wed Nov 11 2026. No macro, syntax, notation, axiom, sorry.
-/
import Derived.Test.YthmpeahlddfpnaaChecked
import GoSem.Claim
import GoSem.ClaimJoined
import GoSem.ClaimMapViews
import Derived.JoinedTies
import Derived.KernelRfl
namespace Go.Proofs.Ythmpeahlddfpnaa
/- THE CELL 'sum', in the pinned program and in every row, IS THE sha256 OF THE DUMP (.gsa) THAT YthmpeahlddfpnaaProg.lean LOADS. Nothing in Lean hashes anything: it is a label: what it is worth is what the hold of that sum in a sandbox is worth. -/
noncomputable def Try.pinned : Pinned := { name := "ythmpeahlddfpnaa", sum := "e4d1ae1e7de34aff962db1edd64c462c8b1195b44fd3c2e419466b752d954f15", checked := Try.checked }
namespace Rows
def none {H : Type} : Left H := { results := [], args := [] }

/-- 'laws.FnExactValidNest': WHATEVER THE INPUT: true; the input reads as it did. -/
def fnExactValidNestSpec : ChangeSpec := { name := "fnExactValidNest", fn := fun _ => fun
  | [d] => { results := [.lit (.bool true)], args := [d] }
  | _ => none }
def fnExactValidNestRow : OpenClaim := { program := "ythmpeahlddfpnaa", sum := "e4d1ae1e7de34aff962db1edd64c462c8b1195b44fd3c2e419466b752d954f15", func := "loop.example/connectionpool/laws.FnExactValidNest", spec := "fnExactValidNest", apart := false }
def FnExactValidNestSaid : Prop := fnExactValidNestRow.holds Try.pinned (OpenSpec.ofChange fnExactValidNestSpec)

/-- ITS FALSE NEIGHBOUR: 'it returns false'. Refute it at one input. -/
def fnExactValidNestWrong : ChangeSpec := { name := "fnExactValidNest", fn := fun _ => fun
  | [d] => { results := [.lit (.bool false)], args := [d] }
  | _ => none }
def FnExactValidNestWrongFalsely : Prop := fnExactValidNestRow.holds Try.pinned (OpenSpec.ofChange fnExactValidNestWrong)

/-- 'laws.FnExactStepNest': WHATEVER THE INPUT: true; the input reads as it did. -/
def fnExactStepNestSpec : ChangeSpec := { name := "fnExactStepNest", fn := fun _ => fun
  | [d1, d2] => { results := [.lit (.bool true)], args := [d1, d2] }
  | _ => none }
def fnExactStepNestRow : OpenClaim := { program := "ythmpeahlddfpnaa", sum := "e4d1ae1e7de34aff962db1edd64c462c8b1195b44fd3c2e419466b752d954f15", func := "loop.example/connectionpool/laws.FnExactStepNest", spec := "fnExactStepNest", apart := false }
def FnExactStepNestSaid : Prop := fnExactStepNestRow.holds Try.pinned (OpenSpec.ofChange fnExactStepNestSpec)

/-- ITS FALSE NEIGHBOUR: 'it returns false'. Refute it at one input. -/
def fnExactStepNestWrong : ChangeSpec := { name := "fnExactStepNest", fn := fun _ => fun
  | [d1, d2] => { results := [.lit (.bool false)], args := [d1, d2] }
  | _ => none }
def FnExactStepNestWrongFalsely : Prop := fnExactStepNestRow.holds Try.pinned (OpenSpec.ofChange fnExactStepNestWrong)

/-- 'laws.FnExactRunNest': WHATEVER THE INPUT: true; the input reads as it did. -/
def fnExactRunNestSpec : ChangeSpec := { name := "fnExactRunNest", fn := fun _ => fun
  | [d] => { results := [.lit (.bool true)], args := [d] }
  | _ => none }
def fnExactRunNestRow : OpenClaim := { program := "ythmpeahlddfpnaa", sum := "e4d1ae1e7de34aff962db1edd64c462c8b1195b44fd3c2e419466b752d954f15", func := "loop.example/connectionpool/laws.FnExactRunNest", spec := "fnExactRunNest", apart := false }
def FnExactRunNestSaid : Prop := fnExactRunNestRow.holds Try.pinned (OpenSpec.ofChange fnExactRunNestSpec)

/-- ITS FALSE NEIGHBOUR: 'it returns false'. Refute it at one input. -/
def fnExactRunNestWrong : ChangeSpec := { name := "fnExactRunNest", fn := fun _ => fun
  | [d] => { results := [.lit (.bool false)], args := [d] }
  | _ => none }
def FnExactRunNestWrongFalsely : Prop := fnExactRunNestRow.holds Try.pinned (OpenSpec.ofChange fnExactRunNestWrong)

/-- 'laws.FnExactKeptWork': WHATEVER THE INPUT: true; the input reads as it did. -/
def fnExactKeptWorkSpec : ChangeSpec := { name := "fnExactKeptWork", fn := fun _ => fun
  | [d] => { results := [.lit (.bool true)], args := [d] }
  | _ => none }
def fnExactKeptWorkRow : OpenClaim := { program := "ythmpeahlddfpnaa", sum := "e4d1ae1e7de34aff962db1edd64c462c8b1195b44fd3c2e419466b752d954f15", func := "loop.example/connectionpool/laws.FnExactKeptWork", spec := "fnExactKeptWork", apart := false }
def FnExactKeptWorkSaid : Prop := fnExactKeptWorkRow.holds Try.pinned (OpenSpec.ofChange fnExactKeptWorkSpec)

/-- ITS FALSE NEIGHBOUR: 'it returns false'. Refute it at one input. -/
def fnExactKeptWorkWrong : ChangeSpec := { name := "fnExactKeptWork", fn := fun _ => fun
  | [d] => { results := [.lit (.bool false)], args := [d] }
  | _ => none }
def FnExactKeptWorkWrongFalsely : Prop := fnExactKeptWorkRow.holds Try.pinned (OpenSpec.ofChange fnExactKeptWorkWrong)

/-- 'laws.FnExactCleanUp': WHATEVER THE INPUT: true; the input reads as it did. -/
def fnExactCleanUpSpec : ChangeSpec := { name := "fnExactCleanUp", fn := fun _ => fun
  | [d] => { results := [.lit (.bool true)], args := [d] }
  | _ => none }
def fnExactCleanUpRow : OpenClaim := { program := "ythmpeahlddfpnaa", sum := "e4d1ae1e7de34aff962db1edd64c462c8b1195b44fd3c2e419466b752d954f15", func := "loop.example/connectionpool/laws.FnExactCleanUp", spec := "fnExactCleanUp", apart := false }
def FnExactCleanUpSaid : Prop := fnExactCleanUpRow.holds Try.pinned (OpenSpec.ofChange fnExactCleanUpSpec)

/-- ITS FALSE NEIGHBOUR: 'it returns false'. Refute it at one input. -/
def fnExactCleanUpWrong : ChangeSpec := { name := "fnExactCleanUp", fn := fun _ => fun
  | [d] => { results := [.lit (.bool false)], args := [d] }
  | _ => none }
def FnExactCleanUpWrongFalsely : Prop := fnExactCleanUpRow.holds Try.pinned (OpenSpec.ofChange fnExactCleanUpWrong)

/-- 'laws.FnValidNest': WHATEVER THE INPUT: true; the input reads as it did. -/
def fnValidNestSpec : ChangeSpec := { name := "fnValidNest", fn := fun _ => fun
  | [d] => { results := [.lit (.bool true)], args := [d] }
  | _ => none }
def fnValidNestRow : OpenClaim := { program := "ythmpeahlddfpnaa", sum := "e4d1ae1e7de34aff962db1edd64c462c8b1195b44fd3c2e419466b752d954f15", func := "loop.example/connectionpool/laws.FnValidNest", spec := "fnValidNest", apart := false }
def FnValidNestSaid : Prop := fnValidNestRow.holds Try.pinned (OpenSpec.ofChange fnValidNestSpec)

/-- ITS FALSE NEIGHBOUR: 'it returns false'. Refute it at one input. -/
def fnValidNestWrong : ChangeSpec := { name := "fnValidNest", fn := fun _ => fun
  | [d] => { results := [.lit (.bool false)], args := [d] }
  | _ => none }
def FnValidNestWrongFalsely : Prop := fnValidNestRow.holds Try.pinned (OpenSpec.ofChange fnValidNestWrong)

/-- 'laws.FnStepNest': WHATEVER THE INPUT: true; the input reads as it did. -/
def fnStepNestSpec : ChangeSpec := { name := "fnStepNest", fn := fun _ => fun
  | [d] => { results := [.lit (.bool true)], args := [d] }
  | _ => none }
def fnStepNestRow : OpenClaim := { program := "ythmpeahlddfpnaa", sum := "e4d1ae1e7de34aff962db1edd64c462c8b1195b44fd3c2e419466b752d954f15", func := "loop.example/connectionpool/laws.FnStepNest", spec := "fnStepNest", apart := false }
def FnStepNestSaid : Prop := fnStepNestRow.holds Try.pinned (OpenSpec.ofChange fnStepNestSpec)

/-- ITS FALSE NEIGHBOUR: 'it returns false'. Refute it at one input. -/
def fnStepNestWrong : ChangeSpec := { name := "fnStepNest", fn := fun _ => fun
  | [d] => { results := [.lit (.bool false)], args := [d] }
  | _ => none }
def FnStepNestWrongFalsely : Prop := fnStepNestRow.holds Try.pinned (OpenSpec.ofChange fnStepNestWrong)

/-- 'laws.FnStepNestBack': WHATEVER THE INPUT: true; the input reads as it did. -/
def fnStepNestBackSpec : ChangeSpec := { name := "fnStepNestBack", fn := fun _ => fun
  | [d] => { results := [.lit (.bool true)], args := [d] }
  | _ => none }
def fnStepNestBackRow : OpenClaim := { program := "ythmpeahlddfpnaa", sum := "e4d1ae1e7de34aff962db1edd64c462c8b1195b44fd3c2e419466b752d954f15", func := "loop.example/connectionpool/laws.FnStepNestBack", spec := "fnStepNestBack", apart := false }
def FnStepNestBackSaid : Prop := fnStepNestBackRow.holds Try.pinned (OpenSpec.ofChange fnStepNestBackSpec)

/-- ITS FALSE NEIGHBOUR: 'it returns false'. Refute it at one input. -/
def fnStepNestBackWrong : ChangeSpec := { name := "fnStepNestBack", fn := fun _ => fun
  | [d] => { results := [.lit (.bool false)], args := [d] }
  | _ => none }
def FnStepNestBackWrongFalsely : Prop := fnStepNestBackRow.holds Try.pinned (OpenSpec.ofChange fnStepNestBackWrong)

/-- 'laws.FnStepNestKeep': WHATEVER THE INPUT: true; the input reads as it did. -/
def fnStepNestKeepSpec : ChangeSpec := { name := "fnStepNestKeep", fn := fun _ => fun
  | [d] => { results := [.lit (.bool true)], args := [d] }
  | _ => none }
def fnStepNestKeepRow : OpenClaim := { program := "ythmpeahlddfpnaa", sum := "e4d1ae1e7de34aff962db1edd64c462c8b1195b44fd3c2e419466b752d954f15", func := "loop.example/connectionpool/laws.FnStepNestKeep", spec := "fnStepNestKeep", apart := false }
def FnStepNestKeepSaid : Prop := fnStepNestKeepRow.holds Try.pinned (OpenSpec.ofChange fnStepNestKeepSpec)

/-- ITS FALSE NEIGHBOUR: 'it returns false'. Refute it at one input. -/
def fnStepNestKeepWrong : ChangeSpec := { name := "fnStepNestKeep", fn := fun _ => fun
  | [d] => { results := [.lit (.bool false)], args := [d] }
  | _ => none }
def FnStepNestKeepWrongFalsely : Prop := fnStepNestKeepRow.holds Try.pinned (OpenSpec.ofChange fnStepNestKeepWrong)

/- THE SECOND FORM. 'bulk': how many values and letters a reading holds, each counted each time it is reached (what is shared counts as often as it is met; a slice's spare places count too). A statement '..UptoSaid' is the law's where the arguments, and the package variables that the reading takes, are together of bulk at most 1048576: NARROWER than '..Said'. Prove '..Said' where nothing that the law and all that it calls make is longer than what came in: it says more and counts as full. Else prove '..UptoSaid'. A law counts once. -/
mutual
def uptoBulk {H : Type} : DataW H → Nat
  | .lit (.string bytes) => bytes.length + 1
  | .lit _ => 1
  | .nil => 1
  | .ptr d => uptoBulk d + 1
  | .slice elems spare => uptoBulkAll elems + uptoBulkAll spare + 1
  | .agg parts => uptoBulkAll parts + 1
  | .iface _ d => uptoBulk d + 1
  | .map entries => uptoBulkEntries entries + 1
  | .held _ => 1
def uptoBulkAll {H : Type} : List (DataW H) → Nat
  | [] => 0
  | d :: r => uptoBulk d + uptoBulkAll r
def uptoBulkEntries {H : Type} : List (Lit × DataW H) → Nat
  | [] => 0
  | x :: r => uptoBulkEntry x + uptoBulkEntries r
def uptoBulkEntry {H : Type} : Lit × DataW H → Nat
  | (.string bytes, d) => bytes.length + uptoBulk d + 1
  | (_, d) => uptoBulk d + 1
 end
def uptoSmall : (H : Type) → List (DataW H) → Bool := fun _ ds => decide (uptoBulkAll ds ≤ 1048576)
def OpenSpec.upto (s : _root_.Go.ChangeSpec) : _root_.Go.OpenSpec := { _root_.Go.OpenSpec.ofChange s with cond := some uptoSmall }

/-- 'laws.FnExactValidNest', WHERE WHAT IT READS IS OF BULK AT MOST 1048576: true; the input reads as it did. -/
def fnExactValidNestUptoRow : OpenClaim := { program := "ythmpeahlddfpnaa", sum := "e4d1ae1e7de34aff962db1edd64c462c8b1195b44fd3c2e419466b752d954f15", func := "loop.example/connectionpool/laws.FnExactValidNest", spec := "fnExactValidNest", apart := false, narrowed := true }
def FnExactValidNestUptoSaid : Prop := fnExactValidNestUptoRow.holds Try.pinned (OpenSpec.upto fnExactValidNestSpec)

/-- 'laws.FnExactStepNest', WHERE WHAT IT READS IS OF BULK AT MOST 1048576: true; the input reads as it did. -/
def fnExactStepNestUptoRow : OpenClaim := { program := "ythmpeahlddfpnaa", sum := "e4d1ae1e7de34aff962db1edd64c462c8b1195b44fd3c2e419466b752d954f15", func := "loop.example/connectionpool/laws.FnExactStepNest", spec := "fnExactStepNest", apart := false, narrowed := true }
def FnExactStepNestUptoSaid : Prop := fnExactStepNestUptoRow.holds Try.pinned (OpenSpec.upto fnExactStepNestSpec)

/-- 'laws.FnExactRunNest', WHERE WHAT IT READS IS OF BULK AT MOST 1048576: true; the input reads as it did. -/
def fnExactRunNestUptoRow : OpenClaim := { program := "ythmpeahlddfpnaa", sum := "e4d1ae1e7de34aff962db1edd64c462c8b1195b44fd3c2e419466b752d954f15", func := "loop.example/connectionpool/laws.FnExactRunNest", spec := "fnExactRunNest", apart := false, narrowed := true }
def FnExactRunNestUptoSaid : Prop := fnExactRunNestUptoRow.holds Try.pinned (OpenSpec.upto fnExactRunNestSpec)

/-- 'laws.FnExactKeptWork', WHERE WHAT IT READS IS OF BULK AT MOST 1048576: true; the input reads as it did. -/
def fnExactKeptWorkUptoRow : OpenClaim := { program := "ythmpeahlddfpnaa", sum := "e4d1ae1e7de34aff962db1edd64c462c8b1195b44fd3c2e419466b752d954f15", func := "loop.example/connectionpool/laws.FnExactKeptWork", spec := "fnExactKeptWork", apart := false, narrowed := true }
def FnExactKeptWorkUptoSaid : Prop := fnExactKeptWorkUptoRow.holds Try.pinned (OpenSpec.upto fnExactKeptWorkSpec)

/-- 'laws.FnExactCleanUp', WHERE WHAT IT READS IS OF BULK AT MOST 1048576: true; the input reads as it did. -/
def fnExactCleanUpUptoRow : OpenClaim := { program := "ythmpeahlddfpnaa", sum := "e4d1ae1e7de34aff962db1edd64c462c8b1195b44fd3c2e419466b752d954f15", func := "loop.example/connectionpool/laws.FnExactCleanUp", spec := "fnExactCleanUp", apart := false, narrowed := true }
def FnExactCleanUpUptoSaid : Prop := fnExactCleanUpUptoRow.holds Try.pinned (OpenSpec.upto fnExactCleanUpSpec)

/-- 'laws.FnValidNest', WHERE WHAT IT READS IS OF BULK AT MOST 1048576: true; the input reads as it did. -/
def fnValidNestUptoRow : OpenClaim := { program := "ythmpeahlddfpnaa", sum := "e4d1ae1e7de34aff962db1edd64c462c8b1195b44fd3c2e419466b752d954f15", func := "loop.example/connectionpool/laws.FnValidNest", spec := "fnValidNest", apart := false, narrowed := true }
def FnValidNestUptoSaid : Prop := fnValidNestUptoRow.holds Try.pinned (OpenSpec.upto fnValidNestSpec)

/-- 'laws.FnStepNest', WHERE WHAT IT READS IS OF BULK AT MOST 1048576: true; the input reads as it did. -/
def fnStepNestUptoRow : OpenClaim := { program := "ythmpeahlddfpnaa", sum := "e4d1ae1e7de34aff962db1edd64c462c8b1195b44fd3c2e419466b752d954f15", func := "loop.example/connectionpool/laws.FnStepNest", spec := "fnStepNest", apart := false, narrowed := true }
def FnStepNestUptoSaid : Prop := fnStepNestUptoRow.holds Try.pinned (OpenSpec.upto fnStepNestSpec)

/-- 'laws.FnStepNestBack', WHERE WHAT IT READS IS OF BULK AT MOST 1048576: true; the input reads as it did. -/
def fnStepNestBackUptoRow : OpenClaim := { program := "ythmpeahlddfpnaa", sum := "e4d1ae1e7de34aff962db1edd64c462c8b1195b44fd3c2e419466b752d954f15", func := "loop.example/connectionpool/laws.FnStepNestBack", spec := "fnStepNestBack", apart := false, narrowed := true }
def FnStepNestBackUptoSaid : Prop := fnStepNestBackUptoRow.holds Try.pinned (OpenSpec.upto fnStepNestBackSpec)

/-- 'laws.FnStepNestKeep', WHERE WHAT IT READS IS OF BULK AT MOST 1048576: true; the input reads as it did. -/
def fnStepNestKeepUptoRow : OpenClaim := { program := "ythmpeahlddfpnaa", sum := "e4d1ae1e7de34aff962db1edd64c462c8b1195b44fd3c2e419466b752d954f15", func := "loop.example/connectionpool/laws.FnStepNestKeep", spec := "fnStepNestKeep", apart := false, narrowed := true }
def FnStepNestKeepUptoSaid : Prop := fnStepNestKeepUptoRow.holds Try.pinned (OpenSpec.upto fnStepNestKeepSpec)

end Rows
end Go.Proofs.Ythmpeahlddfpnaa

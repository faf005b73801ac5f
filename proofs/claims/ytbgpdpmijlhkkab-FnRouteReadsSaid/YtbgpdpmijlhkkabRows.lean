/-
  No cell of these rows narrows 'for every input' (looked for: loops, veiled, ifaces, maps, wideKeys, modest, calm, conditions, laid).
  DERIVED. THE GIVEN ROWS OF THIS SEAT. 7 by the template 'for every input the law returns true; each argument reads behind the call as it read before'; 0 by the template 'total and deterministic' (their statements: YtbgpdpmijlhkkabTotals.lean).
  GIVEN WITH THE SEED: the statements are not yours to turn. If you find one false, say at which input.
  Laid BY PROGRAM, IN A SANDBOX (cutbox-rows.mjs): the forced cells as the released guide's own fill.sh prints them over the translation c6058ca7c0b828a7… (all of the seat's roots in one cut). By AI agents, Wed Nov 11 2026. No macro, syntax, notation, axiom, sorry.
-/
import Derived.Test.YtbgpdpmijlhkkabChecked
import GoSem.Claim
import GoSem.ClaimJoined
import GoSem.ClaimMapViews
import Derived.JoinedTies
import Derived.KernelRfl
namespace Go.Proofs.Ytbgpdpmijlhkkab
/- THE CELL 'sum', in the pinned program and in every row, IS THE sha256 OF THE DUMP (.gsa) THAT YtbgpdpmijlhkkabProg.lean LOADS. Nothing in Lean hashes anything: it is a label: what it is worth is what the hold of that sum in a sandbox is worth. -/
noncomputable def Try.pinned : Pinned := { name := "ytbgpdpmijlhkkab", sum := "c6058ca7c0b828a74698f8bf5c1373554f13af8ab2efefebc7e4954f586d7319", checked := Try.checked }
namespace Rows
def none {H : Type} : Left H := { results := [], args := [] }

/-- 'laws.FnRouteReadLag': WHATEVER THE INPUT: true; the input reads as it did. -/
def fnRouteReadLagSpec : ChangeSpec := { name := "fnRouteReadLag", fn := fun _ => fun
  | [d] => { results := [.lit (.bool true)], args := [d] }
  | _ => none }
def fnRouteReadLagRow : OpenClaim := { program := "ytbgpdpmijlhkkab", sum := "c6058ca7c0b828a74698f8bf5c1373554f13af8ab2efefebc7e4954f586d7319", func := "loop.example/connectionpool/laws.FnRouteReadLag", spec := "fnRouteReadLag", apart := false }
def FnRouteReadLagSaid : Prop := fnRouteReadLagRow.holds Try.pinned (OpenSpec.ofChange fnRouteReadLagSpec)

/-- ITS FALSE NEIGHBOUR: 'it returns false'. Refute it at one input. -/
def fnRouteReadLagWrong : ChangeSpec := { name := "fnRouteReadLag", fn := fun _ => fun
  | [d] => { results := [.lit (.bool false)], args := [d] }
  | _ => none }
def FnRouteReadLagWrongFalsely : Prop := fnRouteReadLagRow.holds Try.pinned (OpenSpec.ofChange fnRouteReadLagWrong)

/-- 'laws.FnRouteReadDown': WHATEVER THE INPUT: true; the input reads as it did. -/
def fnRouteReadDownSpec : ChangeSpec := { name := "fnRouteReadDown", fn := fun _ => fun
  | [d] => { results := [.lit (.bool true)], args := [d] }
  | _ => none }
def fnRouteReadDownRow : OpenClaim := { program := "ytbgpdpmijlhkkab", sum := "c6058ca7c0b828a74698f8bf5c1373554f13af8ab2efefebc7e4954f586d7319", func := "loop.example/connectionpool/laws.FnRouteReadDown", spec := "fnRouteReadDown", apart := false }
def FnRouteReadDownSaid : Prop := fnRouteReadDownRow.holds Try.pinned (OpenSpec.ofChange fnRouteReadDownSpec)

/-- ITS FALSE NEIGHBOUR: 'it returns false'. Refute it at one input. -/
def fnRouteReadDownWrong : ChangeSpec := { name := "fnRouteReadDown", fn := fun _ => fun
  | [d] => { results := [.lit (.bool false)], args := [d] }
  | _ => none }
def FnRouteReadDownWrongFalsely : Prop := fnRouteReadDownRow.holds Try.pinned (OpenSpec.ofChange fnRouteReadDownWrong)

/-- 'laws.FnAddLoad': WHATEVER THE INPUT: true; the input reads as it did. -/
def fnAddLoadSpec : ChangeSpec := { name := "fnAddLoad", fn := fun _ => fun
  | [d] => { results := [.lit (.bool true)], args := [d] }
  | _ => none }
def fnAddLoadRow : OpenClaim := { program := "ytbgpdpmijlhkkab", sum := "c6058ca7c0b828a74698f8bf5c1373554f13af8ab2efefebc7e4954f586d7319", func := "loop.example/connectionpool/laws.FnAddLoad", spec := "fnAddLoad", apart := false }
def FnAddLoadSaid : Prop := fnAddLoadRow.holds Try.pinned (OpenSpec.ofChange fnAddLoadSpec)

/-- ITS FALSE NEIGHBOUR: 'it returns false'. Refute it at one input. -/
def fnAddLoadWrong : ChangeSpec := { name := "fnAddLoad", fn := fun _ => fun
  | [d] => { results := [.lit (.bool false)], args := [d] }
  | _ => none }
def FnAddLoadWrongFalsely : Prop := fnAddLoadRow.holds Try.pinned (OpenSpec.ofChange fnAddLoadWrong)

/-- 'laws.FnAddLoadBack': WHATEVER THE INPUT: true; the input reads as it did. -/
def fnAddLoadBackSpec : ChangeSpec := { name := "fnAddLoadBack", fn := fun _ => fun
  | [d] => { results := [.lit (.bool true)], args := [d] }
  | _ => none }
def fnAddLoadBackRow : OpenClaim := { program := "ytbgpdpmijlhkkab", sum := "c6058ca7c0b828a74698f8bf5c1373554f13af8ab2efefebc7e4954f586d7319", func := "loop.example/connectionpool/laws.FnAddLoadBack", spec := "fnAddLoadBack", apart := false }
def FnAddLoadBackSaid : Prop := fnAddLoadBackRow.holds Try.pinned (OpenSpec.ofChange fnAddLoadBackSpec)

/-- ITS FALSE NEIGHBOUR: 'it returns false'. Refute it at one input. -/
def fnAddLoadBackWrong : ChangeSpec := { name := "fnAddLoadBack", fn := fun _ => fun
  | [d] => { results := [.lit (.bool false)], args := [d] }
  | _ => none }
def FnAddLoadBackWrongFalsely : Prop := fnAddLoadBackRow.holds Try.pinned (OpenSpec.ofChange fnAddLoadBackWrong)

/-- 'laws.FnRouteReads': WHATEVER THE INPUT: true; the input reads as it did. -/
def fnRouteReadsSpec : ChangeSpec := { name := "fnRouteReads", fn := fun _ => fun
  | [d] => { results := [.lit (.bool true)], args := [d] }
  | _ => none }
def fnRouteReadsRow : OpenClaim := { program := "ytbgpdpmijlhkkab", sum := "c6058ca7c0b828a74698f8bf5c1373554f13af8ab2efefebc7e4954f586d7319", func := "loop.example/connectionpool/laws.FnRouteReads", spec := "fnRouteReads", apart := false }
def FnRouteReadsSaid : Prop := fnRouteReadsRow.holds Try.pinned (OpenSpec.ofChange fnRouteReadsSpec)

/-- ITS FALSE NEIGHBOUR: 'it returns false'. Refute it at one input. -/
def fnRouteReadsWrong : ChangeSpec := { name := "fnRouteReads", fn := fun _ => fun
  | [d] => { results := [.lit (.bool false)], args := [d] }
  | _ => none }
def FnRouteReadsWrongFalsely : Prop := fnRouteReadsRow.holds Try.pinned (OpenSpec.ofChange fnRouteReadsWrong)

/-- 'laws.FnRouteReadsShort': WHATEVER THE INPUT: true; the input reads as it did. -/
def fnRouteReadsShortSpec : ChangeSpec := { name := "fnRouteReadsShort", fn := fun _ => fun
  | [d] => { results := [.lit (.bool true)], args := [d] }
  | _ => none }
def fnRouteReadsShortRow : OpenClaim := { program := "ytbgpdpmijlhkkab", sum := "c6058ca7c0b828a74698f8bf5c1373554f13af8ab2efefebc7e4954f586d7319", func := "loop.example/connectionpool/laws.FnRouteReadsShort", spec := "fnRouteReadsShort", apart := false }
def FnRouteReadsShortSaid : Prop := fnRouteReadsShortRow.holds Try.pinned (OpenSpec.ofChange fnRouteReadsShortSpec)

/-- ITS FALSE NEIGHBOUR: 'it returns false'. Refute it at one input. -/
def fnRouteReadsShortWrong : ChangeSpec := { name := "fnRouteReadsShort", fn := fun _ => fun
  | [d] => { results := [.lit (.bool false)], args := [d] }
  | _ => none }
def FnRouteReadsShortWrongFalsely : Prop := fnRouteReadsShortRow.holds Try.pinned (OpenSpec.ofChange fnRouteReadsShortWrong)

/-- 'laws.FnRouteReadsSpread': WHATEVER THE INPUT: true; the input reads as it did. -/
def fnRouteReadsSpreadSpec : ChangeSpec := { name := "fnRouteReadsSpread", fn := fun _ => fun
  | [d] => { results := [.lit (.bool true)], args := [d] }
  | _ => none }
def fnRouteReadsSpreadRow : OpenClaim := { program := "ytbgpdpmijlhkkab", sum := "c6058ca7c0b828a74698f8bf5c1373554f13af8ab2efefebc7e4954f586d7319", func := "loop.example/connectionpool/laws.FnRouteReadsSpread", spec := "fnRouteReadsSpread", apart := false }
def FnRouteReadsSpreadSaid : Prop := fnRouteReadsSpreadRow.holds Try.pinned (OpenSpec.ofChange fnRouteReadsSpreadSpec)

/-- ITS FALSE NEIGHBOUR: 'it returns false'. Refute it at one input. -/
def fnRouteReadsSpreadWrong : ChangeSpec := { name := "fnRouteReadsSpread", fn := fun _ => fun
  | [d] => { results := [.lit (.bool false)], args := [d] }
  | _ => none }
def FnRouteReadsSpreadWrongFalsely : Prop := fnRouteReadsSpreadRow.holds Try.pinned (OpenSpec.ofChange fnRouteReadsSpreadWrong)

/- THE SECOND FORM. 'bulk': how many values and letters a reading holds, each counted each time it is reached (what is shared counts as often as it is met; a slice's spare places count too). A statement '..UptoSaid' is the law's where the arguments, and the package variables that the reading takes, are together of bulk at most 1048576: NARROWER than '..Said'. Prove '..Said' where nothing that the law and all that it calls make is longer than what came in: it says more and counts as full. Else prove '..UptoSaid'. A law counts once. -/
mutual
def uptoBulk {H : Type} : DataW H → Nat
  | .lit (.string bytes) => bytes.length + 1
  | .lit _ => 1
  | .nil => 1
  | .ptr d => uptoBulk d + 1
  | .slice elems spare => uptoBulkAll elems + uptoBulkAll spare + 1
  | .agg parts => uptoBulkAll parts + 1
  | .iface _ d => uptoBulk d + 1
  | .map entries => uptoBulkEntries entries + 1
  | .held _ => 1
def uptoBulkAll {H : Type} : List (DataW H) → Nat
  | [] => 0
  | d :: r => uptoBulk d + uptoBulkAll r
def uptoBulkEntries {H : Type} : List (Lit × DataW H) → Nat
  | [] => 0
  | x :: r => uptoBulkEntry x + uptoBulkEntries r
def uptoBulkEntry {H : Type} : Lit × DataW H → Nat
  | (.string bytes, d) => bytes.length + uptoBulk d + 1
  | (_, d) => uptoBulk d + 1
 end
def uptoSmall : (H : Type) → List (DataW H) → Bool := fun _ ds => decide (uptoBulkAll ds ≤ 1048576)
def OpenSpec.upto (s : _root_.Go.ChangeSpec) : _root_.Go.OpenSpec := { _root_.Go.OpenSpec.ofChange s with cond := some uptoSmall }

/-- 'laws.FnRouteReadLag', WHERE WHAT IT READS IS OF BULK AT MOST 1048576: true; the input reads as it did. -/
def fnRouteReadLagUptoRow : OpenClaim := { program := "ytbgpdpmijlhkkab", sum := "c6058ca7c0b828a74698f8bf5c1373554f13af8ab2efefebc7e4954f586d7319", func := "loop.example/connectionpool/laws.FnRouteReadLag", spec := "fnRouteReadLag", apart := false, narrowed := true }
def FnRouteReadLagUptoSaid : Prop := fnRouteReadLagUptoRow.holds Try.pinned (OpenSpec.upto fnRouteReadLagSpec)

/-- 'laws.FnRouteReadDown', WHERE WHAT IT READS IS OF BULK AT MOST 1048576: true; the input reads as it did. -/
def fnRouteReadDownUptoRow : OpenClaim := { program := "ytbgpdpmijlhkkab", sum := "c6058ca7c0b828a74698f8bf5c1373554f13af8ab2efefebc7e4954f586d7319", func := "loop.example/connectionpool/laws.FnRouteReadDown", spec := "fnRouteReadDown", apart := false, narrowed := true }
def FnRouteReadDownUptoSaid : Prop := fnRouteReadDownUptoRow.holds Try.pinned (OpenSpec.upto fnRouteReadDownSpec)

/-- 'laws.FnAddLoad', WHERE WHAT IT READS IS OF BULK AT MOST 1048576: true; the input reads as it did. -/
def fnAddLoadUptoRow : OpenClaim := { program := "ytbgpdpmijlhkkab", sum := "c6058ca7c0b828a74698f8bf5c1373554f13af8ab2efefebc7e4954f586d7319", func := "loop.example/connectionpool/laws.FnAddLoad", spec := "fnAddLoad", apart := false, narrowed := true }
def FnAddLoadUptoSaid : Prop := fnAddLoadUptoRow.holds Try.pinned (OpenSpec.upto fnAddLoadSpec)

/-- 'laws.FnAddLoadBack', WHERE WHAT IT READS IS OF BULK AT MOST 1048576: true; the input reads as it did. -/
def fnAddLoadBackUptoRow : OpenClaim := { program := "ytbgpdpmijlhkkab", sum := "c6058ca7c0b828a74698f8bf5c1373554f13af8ab2efefebc7e4954f586d7319", func := "loop.example/connectionpool/laws.FnAddLoadBack", spec := "fnAddLoadBack", apart := false, narrowed := true }
def FnAddLoadBackUptoSaid : Prop := fnAddLoadBackUptoRow.holds Try.pinned (OpenSpec.upto fnAddLoadBackSpec)

/-- 'laws.FnRouteReads', WHERE WHAT IT READS IS OF BULK AT MOST 1048576: true; the input reads as it did. -/
def fnRouteReadsUptoRow : OpenClaim := { program := "ytbgpdpmijlhkkab", sum := "c6058ca7c0b828a74698f8bf5c1373554f13af8ab2efefebc7e4954f586d7319", func := "loop.example/connectionpool/laws.FnRouteReads", spec := "fnRouteReads", apart := false, narrowed := true }
def FnRouteReadsUptoSaid : Prop := fnRouteReadsUptoRow.holds Try.pinned (OpenSpec.upto fnRouteReadsSpec)

/-- 'laws.FnRouteReadsShort', WHERE WHAT IT READS IS OF BULK AT MOST 1048576: true; the input reads as it did. -/
def fnRouteReadsShortUptoRow : OpenClaim := { program := "ytbgpdpmijlhkkab", sum := "c6058ca7c0b828a74698f8bf5c1373554f13af8ab2efefebc7e4954f586d7319", func := "loop.example/connectionpool/laws.FnRouteReadsShort", spec := "fnRouteReadsShort", apart := false, narrowed := true }
def FnRouteReadsShortUptoSaid : Prop := fnRouteReadsShortUptoRow.holds Try.pinned (OpenSpec.upto fnRouteReadsShortSpec)

/-- 'laws.FnRouteReadsSpread', WHERE WHAT IT READS IS OF BULK AT MOST 1048576: true; the input reads as it did. -/
def fnRouteReadsSpreadUptoRow : OpenClaim := { program := "ytbgpdpmijlhkkab", sum := "c6058ca7c0b828a74698f8bf5c1373554f13af8ab2efefebc7e4954f586d7319", func := "loop.example/connectionpool/laws.FnRouteReadsSpread", spec := "fnRouteReadsSpread", apart := false, narrowed := true }
def FnRouteReadsSpreadUptoSaid : Prop := fnRouteReadsSpreadUptoRow.holds Try.pinned (OpenSpec.upto fnRouteReadsSpreadSpec)

end Rows
end Go.Proofs.Ytbgpdpmijlhkkab

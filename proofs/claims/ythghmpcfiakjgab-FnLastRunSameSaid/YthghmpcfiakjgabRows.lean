/-
  No cell of these rows narrows 'for every input' (looked for: loops, veiled, ifaces, maps, wideKeys, modest, calm, conditions, laid).
  DERIVED. THE GIVEN ROWS OF THIS SEAT. 5 by the template 'for every input the law returns true; each argument reads behind the call as it read before'; 0 by the template 'total and deterministic' (their statements: YthghmpcfiakjgabTotals.lean).
  GIVEN WITH THE SEED: the statements are not yours to turn. If you find one false, say at which input.
  Laid BY PROGRAM, IN A SANDBOX (cutbox-rows.mjs): the forced cells as the released guide's own fill.sh prints them over the translation 2ec95bbc2f62b932… (all of the seat's roots in one cut). By AI agents, Wed Nov 11 2026. No macro, syntax, notation, axiom, sorry.
-/
import Derived.Test.YthghmpcfiakjgabChecked
import GoSem.Claim
import GoSem.ClaimJoined
import GoSem.ClaimMapViews
import Derived.JoinedTies
import Derived.KernelRfl
namespace Go.Proofs.Ythghmpcfiakjgab
/- THE CELL 'sum', in the pinned program and in every row, IS THE sha256 OF THE DUMP (.gsa) THAT YthghmpcfiakjgabProg.lean LOADS. Nothing in Lean hashes anything: it is a label: what it is worth is what the hold of that sum in a sandbox is worth. -/
noncomputable def Try.pinned : Pinned := { name := "ythghmpcfiakjgab", sum := "2ec95bbc2f62b93270b2abc59d312bf2e3cc940dda370d9ba9ff36be473ba815", checked := Try.checked }
namespace Rows
def none {H : Type} : Left H := { results := [], args := [] }

/-- 'laws.FnLastRunSame': WHATEVER THE INPUT: true; the input reads as it did. -/
def fnLastRunSameSpec : ChangeSpec := { name := "fnLastRunSame", fn := fun _ => fun
  | [d] => { results := [.lit (.bool true)], args := [d] }
  | _ => none }
def fnLastRunSameRow : OpenClaim := { program := "ythghmpcfiakjgab", sum := "2ec95bbc2f62b93270b2abc59d312bf2e3cc940dda370d9ba9ff36be473ba815", func := "loop.example/connectionpool/laws.FnLastRunSame", spec := "fnLastRunSame", apart := false }
def FnLastRunSameSaid : Prop := fnLastRunSameRow.holds Try.pinned (OpenSpec.ofChange fnLastRunSameSpec)

/-- ITS FALSE NEIGHBOUR: 'it returns false'. Refute it at one input. -/
def fnLastRunSameWrong : ChangeSpec := { name := "fnLastRunSame", fn := fun _ => fun
  | [d] => { results := [.lit (.bool false)], args := [d] }
  | _ => none }
def FnLastRunSameWrongFalsely : Prop := fnLastRunSameRow.holds Try.pinned (OpenSpec.ofChange fnLastRunSameWrong)

/-- 'laws.FnLastRunParts': WHATEVER THE INPUT: true; the input reads as it did. -/
def fnLastRunPartsSpec : ChangeSpec := { name := "fnLastRunParts", fn := fun _ => fun
  | [d] => { results := [.lit (.bool true)], args := [d] }
  | _ => none }
def fnLastRunPartsRow : OpenClaim := { program := "ythghmpcfiakjgab", sum := "2ec95bbc2f62b93270b2abc59d312bf2e3cc940dda370d9ba9ff36be473ba815", func := "loop.example/connectionpool/laws.FnLastRunParts", spec := "fnLastRunParts", apart := false }
def FnLastRunPartsSaid : Prop := fnLastRunPartsRow.holds Try.pinned (OpenSpec.ofChange fnLastRunPartsSpec)

/-- ITS FALSE NEIGHBOUR: 'it returns false'. Refute it at one input. -/
def fnLastRunPartsWrong : ChangeSpec := { name := "fnLastRunParts", fn := fun _ => fun
  | [d] => { results := [.lit (.bool false)], args := [d] }
  | _ => none }
def FnLastRunPartsWrongFalsely : Prop := fnLastRunPartsRow.holds Try.pinned (OpenSpec.ofChange fnLastRunPartsWrong)

/-- 'laws.FnIsGood': WHATEVER THE INPUT: true; the input reads as it did. -/
def fnIsGoodSpec : ChangeSpec := { name := "fnIsGood", fn := fun _ => fun
  | [d] => { results := [.lit (.bool true)], args := [d] }
  | _ => none }
def fnIsGoodRow : OpenClaim := { program := "ythghmpcfiakjgab", sum := "2ec95bbc2f62b93270b2abc59d312bf2e3cc940dda370d9ba9ff36be473ba815", func := "loop.example/connectionpool/laws.FnIsGood", spec := "fnIsGood", apart := false }
def FnIsGoodSaid : Prop := fnIsGoodRow.holds Try.pinned (OpenSpec.ofChange fnIsGoodSpec)

/-- ITS FALSE NEIGHBOUR: 'it returns false'. Refute it at one input. -/
def fnIsGoodWrong : ChangeSpec := { name := "fnIsGood", fn := fun _ => fun
  | [d] => { results := [.lit (.bool false)], args := [d] }
  | _ => none }
def FnIsGoodWrongFalsely : Prop := fnIsGoodRow.holds Try.pinned (OpenSpec.ofChange fnIsGoodWrong)

/-- 'laws.FnIsGoodStep': WHATEVER THE INPUT: true; the input reads as it did. -/
def fnIsGoodStepSpec : ChangeSpec := { name := "fnIsGoodStep", fn := fun _ => fun
  | [d] => { results := [.lit (.bool true)], args := [d] }
  | _ => none }
def fnIsGoodStepRow : OpenClaim := { program := "ythghmpcfiakjgab", sum := "2ec95bbc2f62b93270b2abc59d312bf2e3cc940dda370d9ba9ff36be473ba815", func := "loop.example/connectionpool/laws.FnIsGoodStep", spec := "fnIsGoodStep", apart := false }
def FnIsGoodStepSaid : Prop := fnIsGoodStepRow.holds Try.pinned (OpenSpec.ofChange fnIsGoodStepSpec)

/-- ITS FALSE NEIGHBOUR: 'it returns false'. Refute it at one input. -/
def fnIsGoodStepWrong : ChangeSpec := { name := "fnIsGoodStep", fn := fun _ => fun
  | [d] => { results := [.lit (.bool false)], args := [d] }
  | _ => none }
def FnIsGoodStepWrongFalsely : Prop := fnIsGoodStepRow.holds Try.pinned (OpenSpec.ofChange fnIsGoodStepWrong)

/-- 'laws.FnIsGoodNone': WHATEVER THE INPUT: true; the input reads as it did. -/
def fnIsGoodNoneSpec : ChangeSpec := { name := "fnIsGoodNone", fn := fun _ => fun
  | [d] => { results := [.lit (.bool true)], args := [d] }
  | _ => none }
def fnIsGoodNoneRow : OpenClaim := { program := "ythghmpcfiakjgab", sum := "2ec95bbc2f62b93270b2abc59d312bf2e3cc940dda370d9ba9ff36be473ba815", func := "loop.example/connectionpool/laws.FnIsGoodNone", spec := "fnIsGoodNone", apart := false }
def FnIsGoodNoneSaid : Prop := fnIsGoodNoneRow.holds Try.pinned (OpenSpec.ofChange fnIsGoodNoneSpec)

/-- ITS FALSE NEIGHBOUR: 'it returns false'. Refute it at one input. -/
def fnIsGoodNoneWrong : ChangeSpec := { name := "fnIsGoodNone", fn := fun _ => fun
  | [d] => { results := [.lit (.bool false)], args := [d] }
  | _ => none }
def FnIsGoodNoneWrongFalsely : Prop := fnIsGoodNoneRow.holds Try.pinned (OpenSpec.ofChange fnIsGoodNoneWrong)

/- THE SECOND FORM. 'bulk': how many values and letters a reading holds, each counted each time it is reached (what is shared counts as often as it is met; a slice's spare places count too). A statement '..UptoSaid' is the law's where the arguments, and the package variables that the reading takes, are together of bulk at most 1048576: NARROWER than '..Said'. Prove '..Said' where nothing that the law and all that it calls make is longer than what came in: it says more and counts as full. Else prove '..UptoSaid'. A law counts once. -/
mutual
def uptoBulk {H : Type} : DataW H → Nat
  | .lit (.string bytes) => bytes.length + 1
  | .lit _ => 1
  | .nil => 1
  | .ptr d => uptoBulk d + 1
  | .slice elems spare => uptoBulkAll elems + uptoBulkAll spare + 1
  | .agg parts => uptoBulkAll parts + 1
  | .iface _ d => uptoBulk d + 1
  | .map entries => uptoBulkEntries entries + 1
  | .held _ => 1
def uptoBulkAll {H : Type} : List (DataW H) → Nat
  | [] => 0
  | d :: r => uptoBulk d + uptoBulkAll r
def uptoBulkEntries {H : Type} : List (Lit × DataW H) → Nat
  | [] => 0
  | x :: r => uptoBulkEntry x + uptoBulkEntries r
def uptoBulkEntry {H : Type} : Lit × DataW H → Nat
  | (.string bytes, d) => bytes.length + uptoBulk d + 1
  | (_, d) => uptoBulk d + 1
 end
def uptoSmall : (H : Type) → List (DataW H) → Bool := fun _ ds => decide (uptoBulkAll ds ≤ 1048576)
def OpenSpec.upto (s : _root_.Go.ChangeSpec) : _root_.Go.OpenSpec := { _root_.Go.OpenSpec.ofChange s with cond := some uptoSmall }

/-- 'laws.FnLastRunSame', WHERE WHAT IT READS IS OF BULK AT MOST 1048576: true; the input reads as it did. -/
def fnLastRunSameUptoRow : OpenClaim := { program := "ythghmpcfiakjgab", sum := "2ec95bbc2f62b93270b2abc59d312bf2e3cc940dda370d9ba9ff36be473ba815", func := "loop.example/connectionpool/laws.FnLastRunSame", spec := "fnLastRunSame", apart := false, narrowed := true }
def FnLastRunSameUptoSaid : Prop := fnLastRunSameUptoRow.holds Try.pinned (OpenSpec.upto fnLastRunSameSpec)

/-- 'laws.FnLastRunParts', WHERE WHAT IT READS IS OF BULK AT MOST 1048576: true; the input reads as it did. -/
def fnLastRunPartsUptoRow : OpenClaim := { program := "ythghmpcfiakjgab", sum := "2ec95bbc2f62b93270b2abc59d312bf2e3cc940dda370d9ba9ff36be473ba815", func := "loop.example/connectionpool/laws.FnLastRunParts", spec := "fnLastRunParts", apart := false, narrowed := true }
def FnLastRunPartsUptoSaid : Prop := fnLastRunPartsUptoRow.holds Try.pinned (OpenSpec.upto fnLastRunPartsSpec)

/-- 'laws.FnIsGood', WHERE WHAT IT READS IS OF BULK AT MOST 1048576: true; the input reads as it did. -/
def fnIsGoodUptoRow : OpenClaim := { program := "ythghmpcfiakjgab", sum := "2ec95bbc2f62b93270b2abc59d312bf2e3cc940dda370d9ba9ff36be473ba815", func := "loop.example/connectionpool/laws.FnIsGood", spec := "fnIsGood", apart := false, narrowed := true }
def FnIsGoodUptoSaid : Prop := fnIsGoodUptoRow.holds Try.pinned (OpenSpec.upto fnIsGoodSpec)

/-- 'laws.FnIsGoodStep', WHERE WHAT IT READS IS OF BULK AT MOST 1048576: true; the input reads as it did. -/
def fnIsGoodStepUptoRow : OpenClaim := { program := "ythghmpcfiakjgab", sum := "2ec95bbc2f62b93270b2abc59d312bf2e3cc940dda370d9ba9ff36be473ba815", func := "loop.example/connectionpool/laws.FnIsGoodStep", spec := "fnIsGoodStep", apart := false, narrowed := true }
def FnIsGoodStepUptoSaid : Prop := fnIsGoodStepUptoRow.holds Try.pinned (OpenSpec.upto fnIsGoodStepSpec)

/-- 'laws.FnIsGoodNone', WHERE WHAT IT READS IS OF BULK AT MOST 1048576: true; the input reads as it did. -/
def fnIsGoodNoneUptoRow : OpenClaim := { program := "ythghmpcfiakjgab", sum := "2ec95bbc2f62b93270b2abc59d312bf2e3cc940dda370d9ba9ff36be473ba815", func := "loop.example/connectionpool/laws.FnIsGoodNone", spec := "fnIsGoodNone", apart := false, narrowed := true }
def FnIsGoodNoneUptoSaid : Prop := fnIsGoodNoneUptoRow.holds Try.pinned (OpenSpec.upto fnIsGoodNoneSpec)

end Rows
end Go.Proofs.Ythghmpcfiakjgab

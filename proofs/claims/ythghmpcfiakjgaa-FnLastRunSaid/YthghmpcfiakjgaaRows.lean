/-
  No cell of these rows narrows 'for every input' (looked for: loops, veiled, ifaces, maps, wideKeys, modest, calm, conditions, laid).
  DERIVED. THE GIVEN ROWS OF THIS SEAT. 5 by the template 'for every input the law returns true; each argument reads behind the call as it read before'; 0 by the template 'total and deterministic' (their statements: YthghmpcfiakjgaaTotals.lean).
  GIVEN WITH THE SEED: the statements are not yours to turn. If you find one false, say at which input.
  Laid BY PROGRAM, IN A SANDBOX (cutbox-rows.mjs): the forced cells as the released guide's own fill.sh prints them over the translation e420d82cf321967d… (all of the seat's roots in one cut). By AI agents, Wed Nov 11 2026. No macro, syntax, notation, axiom, sorry.
-/
import Derived.Test.YthghmpcfiakjgaaChecked
import GoSem.Claim
import GoSem.ClaimJoined
import GoSem.ClaimMapViews
import Derived.JoinedTies
import Derived.KernelRfl
namespace Go.Proofs.Ythghmpcfiakjgaa
/- THE CELL 'sum', in the pinned program and in every row, IS THE sha256 OF THE DUMP (.gsa) THAT YthghmpcfiakjgaaProg.lean LOADS. Nothing in Lean hashes anything: it is a label: what it is worth is what the hold of that sum in a sandbox is worth. -/
noncomputable def Try.pinned : Pinned := { name := "ythghmpcfiakjgaa", sum := "e420d82cf321967ddd713d2ab9be318f1359455b8c4583f345825f8028c4387e", checked := Try.checked }
namespace Rows
def none {H : Type} : Left H := { results := [], args := [] }

/-- 'laws.FnExactLastRun': WHATEVER THE INPUT: true; the input reads as it did. -/
def fnExactLastRunSpec : ChangeSpec := { name := "fnExactLastRun", fn := fun _ => fun
  | [d] => { results := [.lit (.bool true)], args := [d] }
  | _ => none }
def fnExactLastRunRow : OpenClaim := { program := "ythghmpcfiakjgaa", sum := "e420d82cf321967ddd713d2ab9be318f1359455b8c4583f345825f8028c4387e", func := "loop.example/connectionpool/laws.FnExactLastRun", spec := "fnExactLastRun", apart := false }
def FnExactLastRunSaid : Prop := fnExactLastRunRow.holds Try.pinned (OpenSpec.ofChange fnExactLastRunSpec)

/-- ITS FALSE NEIGHBOUR: 'it returns false'. Refute it at one input. -/
def fnExactLastRunWrong : ChangeSpec := { name := "fnExactLastRun", fn := fun _ => fun
  | [d] => { results := [.lit (.bool false)], args := [d] }
  | _ => none }
def FnExactLastRunWrongFalsely : Prop := fnExactLastRunRow.holds Try.pinned (OpenSpec.ofChange fnExactLastRunWrong)

/-- 'laws.FnExactIsGood': WHATEVER THE INPUT: true; the input reads as it did. -/
def fnExactIsGoodSpec : ChangeSpec := { name := "fnExactIsGood", fn := fun _ => fun
  | [d1, d2, d3] => { results := [.lit (.bool true)], args := [d1, d2, d3] }
  | _ => none }
def fnExactIsGoodRow : OpenClaim := { program := "ythghmpcfiakjgaa", sum := "e420d82cf321967ddd713d2ab9be318f1359455b8c4583f345825f8028c4387e", func := "loop.example/connectionpool/laws.FnExactIsGood", spec := "fnExactIsGood", apart := false }
def FnExactIsGoodSaid : Prop := fnExactIsGoodRow.holds Try.pinned (OpenSpec.ofChange fnExactIsGoodSpec)

/-- ITS FALSE NEIGHBOUR: 'it returns false'. Refute it at one input. -/
def fnExactIsGoodWrong : ChangeSpec := { name := "fnExactIsGood", fn := fun _ => fun
  | [d1, d2, d3] => { results := [.lit (.bool false)], args := [d1, d2, d3] }
  | _ => none }
def FnExactIsGoodWrongFalsely : Prop := fnExactIsGoodRow.holds Try.pinned (OpenSpec.ofChange fnExactIsGoodWrong)

/-- 'laws.FnExactGoodPath': WHATEVER THE INPUT: true; the input reads as it did. -/
def fnExactGoodPathSpec : ChangeSpec := { name := "fnExactGoodPath", fn := fun _ => fun
  | [d1, d2, d3] => { results := [.lit (.bool true)], args := [d1, d2, d3] }
  | _ => none }
def fnExactGoodPathRow : OpenClaim := { program := "ythghmpcfiakjgaa", sum := "e420d82cf321967ddd713d2ab9be318f1359455b8c4583f345825f8028c4387e", func := "loop.example/connectionpool/laws.FnExactGoodPath", spec := "fnExactGoodPath", apart := false }
def FnExactGoodPathSaid : Prop := fnExactGoodPathRow.holds Try.pinned (OpenSpec.ofChange fnExactGoodPathSpec)

/-- ITS FALSE NEIGHBOUR: 'it returns false'. Refute it at one input. -/
def fnExactGoodPathWrong : ChangeSpec := { name := "fnExactGoodPath", fn := fun _ => fun
  | [d1, d2, d3] => { results := [.lit (.bool false)], args := [d1, d2, d3] }
  | _ => none }
def FnExactGoodPathWrongFalsely : Prop := fnExactGoodPathRow.holds Try.pinned (OpenSpec.ofChange fnExactGoodPathWrong)

/-- 'laws.FnExactGoodShare': WHATEVER THE INPUT: true; the input reads as it did. -/
def fnExactGoodShareSpec : ChangeSpec := { name := "fnExactGoodShare", fn := fun _ => fun
  | [d] => { results := [.lit (.bool true)], args := [d] }
  | _ => none }
def fnExactGoodShareRow : OpenClaim := { program := "ythghmpcfiakjgaa", sum := "e420d82cf321967ddd713d2ab9be318f1359455b8c4583f345825f8028c4387e", func := "loop.example/connectionpool/laws.FnExactGoodShare", spec := "fnExactGoodShare", apart := false }
def FnExactGoodShareSaid : Prop := fnExactGoodShareRow.holds Try.pinned (OpenSpec.ofChange fnExactGoodShareSpec)

/-- ITS FALSE NEIGHBOUR: 'it returns false'. Refute it at one input. -/
def fnExactGoodShareWrong : ChangeSpec := { name := "fnExactGoodShare", fn := fun _ => fun
  | [d] => { results := [.lit (.bool false)], args := [d] }
  | _ => none }
def FnExactGoodShareWrongFalsely : Prop := fnExactGoodShareRow.holds Try.pinned (OpenSpec.ofChange fnExactGoodShareWrong)

/-- 'laws.FnLastRun': WHATEVER THE INPUT: true; the input reads as it did. -/
def fnLastRunSpec : ChangeSpec := { name := "fnLastRun", fn := fun _ => fun
  | [d] => { results := [.lit (.bool true)], args := [d] }
  | _ => none }
def fnLastRunRow : OpenClaim := { program := "ythghmpcfiakjgaa", sum := "e420d82cf321967ddd713d2ab9be318f1359455b8c4583f345825f8028c4387e", func := "loop.example/connectionpool/laws.FnLastRun", spec := "fnLastRun", apart := false }
def FnLastRunSaid : Prop := fnLastRunRow.holds Try.pinned (OpenSpec.ofChange fnLastRunSpec)

/-- ITS FALSE NEIGHBOUR: 'it returns false'. Refute it at one input. -/
def fnLastRunWrong : ChangeSpec := { name := "fnLastRun", fn := fun _ => fun
  | [d] => { results := [.lit (.bool false)], args := [d] }
  | _ => none }
def FnLastRunWrongFalsely : Prop := fnLastRunRow.holds Try.pinned (OpenSpec.ofChange fnLastRunWrong)

/- THE SECOND FORM. 'bulk': how many values and letters a reading holds, each counted each time it is reached (what is shared counts as often as it is met; a slice's spare places count too). A statement '..UptoSaid' is the law's where the arguments, and the package variables that the reading takes, are together of bulk at most 1048576: NARROWER than '..Said'. Prove '..Said' where nothing that the law and all that it calls make is longer than what came in: it says more and counts as full. Else prove '..UptoSaid'. A law counts once. -/
mutual
def uptoBulk {H : Type} : DataW H → Nat
  | .lit (.string bytes) => bytes.length + 1
  | .lit _ => 1
  | .nil => 1
  | .ptr d => uptoBulk d + 1
  | .slice elems spare => uptoBulkAll elems + uptoBulkAll spare + 1
  | .agg parts => uptoBulkAll parts + 1
  | .iface _ d => uptoBulk d + 1
  | .map entries => uptoBulkEntries entries + 1
  | .held _ => 1
def uptoBulkAll {H : Type} : List (DataW H) → Nat
  | [] => 0
  | d :: r => uptoBulk d + uptoBulkAll r
def uptoBulkEntries {H : Type} : List (Lit × DataW H) → Nat
  | [] => 0
  | x :: r => uptoBulkEntry x + uptoBulkEntries r
def uptoBulkEntry {H : Type} : Lit × DataW H → Nat
  | (.string bytes, d) => bytes.length + uptoBulk d + 1
  | (_, d) => uptoBulk d + 1
 end
def uptoSmall : (H : Type) → List (DataW H) → Bool := fun _ ds => decide (uptoBulkAll ds ≤ 1048576)
def OpenSpec.upto (s : _root_.Go.ChangeSpec) : _root_.Go.OpenSpec := { _root_.Go.OpenSpec.ofChange s with cond := some uptoSmall }

/-- 'laws.FnExactLastRun', WHERE WHAT IT READS IS OF BULK AT MOST 1048576: true; the input reads as it did. -/
def fnExactLastRunUptoRow : OpenClaim := { program := "ythghmpcfiakjgaa", sum := "e420d82cf321967ddd713d2ab9be318f1359455b8c4583f345825f8028c4387e", func := "loop.example/connectionpool/laws.FnExactLastRun", spec := "fnExactLastRun", apart := false, narrowed := true }
def FnExactLastRunUptoSaid : Prop := fnExactLastRunUptoRow.holds Try.pinned (OpenSpec.upto fnExactLastRunSpec)

/-- 'laws.FnExactIsGood', WHERE WHAT IT READS IS OF BULK AT MOST 1048576: true; the input reads as it did. -/
def fnExactIsGoodUptoRow : OpenClaim := { program := "ythghmpcfiakjgaa", sum := "e420d82cf321967ddd713d2ab9be318f1359455b8c4583f345825f8028c4387e", func := "loop.example/connectionpool/laws.FnExactIsGood", spec := "fnExactIsGood", apart := false, narrowed := true }
def FnExactIsGoodUptoSaid : Prop := fnExactIsGoodUptoRow.holds Try.pinned (OpenSpec.upto fnExactIsGoodSpec)

/-- 'laws.FnExactGoodPath', WHERE WHAT IT READS IS OF BULK AT MOST 1048576: true; the input reads as it did. -/
def fnExactGoodPathUptoRow : OpenClaim := { program := "ythghmpcfiakjgaa", sum := "e420d82cf321967ddd713d2ab9be318f1359455b8c4583f345825f8028c4387e", func := "loop.example/connectionpool/laws.FnExactGoodPath", spec := "fnExactGoodPath", apart := false, narrowed := true }
def FnExactGoodPathUptoSaid : Prop := fnExactGoodPathUptoRow.holds Try.pinned (OpenSpec.upto fnExactGoodPathSpec)

/-- 'laws.FnExactGoodShare', WHERE WHAT IT READS IS OF BULK AT MOST 1048576: true; the input reads as it did. -/
def fnExactGoodShareUptoRow : OpenClaim := { program := "ythghmpcfiakjgaa", sum := "e420d82cf321967ddd713d2ab9be318f1359455b8c4583f345825f8028c4387e", func := "loop.example/connectionpool/laws.FnExactGoodShare", spec := "fnExactGoodShare", apart := false, narrowed := true }
def FnExactGoodShareUptoSaid : Prop := fnExactGoodShareUptoRow.holds Try.pinned (OpenSpec.upto fnExactGoodShareSpec)

/-- 'laws.FnLastRun', WHERE WHAT IT READS IS OF BULK AT MOST 1048576: true; the input reads as it did. -/
def fnLastRunUptoRow : OpenClaim := { program := "ythghmpcfiakjgaa", sum := "e420d82cf321967ddd713d2ab9be318f1359455b8c4583f345825f8028c4387e", func := "loop.example/connectionpool/laws.FnLastRun", spec := "fnLastRun", apart := false, narrowed := true }
def FnLastRunUptoSaid : Prop := fnLastRunUptoRow.holds Try.pinned (OpenSpec.upto fnLastRunSpec)

end Rows
end Go.Proofs.Ythghmpcfiakjgaa

/-
  No cell of these rows narrows 'for every input' (looked for: loops, veiled, ifaces, maps, wideKeys, modest, calm, conditions, laid).
  DERIVED. THE GIVEN ROWS OF THIS SEAT. 5 by the template 'for every input the law returns true; each argument reads behind the call as it read before'; 0 by the template 'total and deterministic' (their statements: YthghmpcfiakjgacTotals.lean).
  GIVEN WITH THE SEED: the statements are not yours to turn. If you find one false, say at which input.
  Laid BY PROGRAM, IN A SANDBOX (cutbox-rows.mjs): the forced cells as the released guide's own fill.sh prints them over the translation 4b9f4e9c35e4d84f… (all of the seat's roots in one cut). By AI agents, Wed Nov 11 2026. No macro, syntax, notation, axiom, sorry.
-/
import Derived.Test.YthghmpcfiakjgacChecked
import GoSem.Claim
import GoSem.ClaimJoined
import GoSem.ClaimMapViews
import Derived.JoinedTies
import Derived.KernelRfl
namespace Go.Proofs.Ythghmpcfiakjgac
/- THE CELL 'sum', in the pinned program and in every row, IS THE sha256 OF THE DUMP (.gsa) THAT YthghmpcfiakjgacProg.lean LOADS. Nothing in Lean hashes anything: it is a label: what it is worth is what the hold of that sum in a sandbox is worth. -/
noncomputable def Try.pinned : Pinned := { name := "ythghmpcfiakjgac", sum := "4b9f4e9c35e4d84f80ece785758b6e36697924176a84a68186f19fe2236817cd", checked := Try.checked }
namespace Rows
def none {H : Type} : Left H := { results := [], args := [] }

/-- 'laws.FnGoodPath': WHATEVER THE INPUT: true; the input reads as it did. -/
def fnGoodPathSpec : ChangeSpec := { name := "fnGoodPath", fn := fun _ => fun
  | [d] => { results := [.lit (.bool true)], args := [d] }
  | _ => none }
def fnGoodPathRow : OpenClaim := { program := "ythghmpcfiakjgac", sum := "4b9f4e9c35e4d84f80ece785758b6e36697924176a84a68186f19fe2236817cd", func := "loop.example/connectionpool/laws.FnGoodPath", spec := "fnGoodPath", apart := false }
def FnGoodPathSaid : Prop := fnGoodPathRow.holds Try.pinned (OpenSpec.ofChange fnGoodPathSpec)

/-- ITS FALSE NEIGHBOUR: 'it returns false'. Refute it at one input. -/
def fnGoodPathWrong : ChangeSpec := { name := "fnGoodPath", fn := fun _ => fun
  | [d] => { results := [.lit (.bool false)], args := [d] }
  | _ => none }
def FnGoodPathWrongFalsely : Prop := fnGoodPathRow.holds Try.pinned (OpenSpec.ofChange fnGoodPathWrong)

/-- 'laws.FnGoodPathOne': WHATEVER THE INPUT: true; the input reads as it did. -/
def fnGoodPathOneSpec : ChangeSpec := { name := "fnGoodPathOne", fn := fun _ => fun
  | [d] => { results := [.lit (.bool true)], args := [d] }
  | _ => none }
def fnGoodPathOneRow : OpenClaim := { program := "ythghmpcfiakjgac", sum := "4b9f4e9c35e4d84f80ece785758b6e36697924176a84a68186f19fe2236817cd", func := "loop.example/connectionpool/laws.FnGoodPathOne", spec := "fnGoodPathOne", apart := false }
def FnGoodPathOneSaid : Prop := fnGoodPathOneRow.holds Try.pinned (OpenSpec.ofChange fnGoodPathOneSpec)

/-- ITS FALSE NEIGHBOUR: 'it returns false'. Refute it at one input. -/
def fnGoodPathOneWrong : ChangeSpec := { name := "fnGoodPathOne", fn := fun _ => fun
  | [d] => { results := [.lit (.bool false)], args := [d] }
  | _ => none }
def FnGoodPathOneWrongFalsely : Prop := fnGoodPathOneRow.holds Try.pinned (OpenSpec.ofChange fnGoodPathOneWrong)

/-- 'laws.FnGoodPathShort': WHATEVER THE INPUT: true; the input reads as it did. -/
def fnGoodPathShortSpec : ChangeSpec := { name := "fnGoodPathShort", fn := fun _ => fun
  | [d] => { results := [.lit (.bool true)], args := [d] }
  | _ => none }
def fnGoodPathShortRow : OpenClaim := { program := "ythghmpcfiakjgac", sum := "4b9f4e9c35e4d84f80ece785758b6e36697924176a84a68186f19fe2236817cd", func := "loop.example/connectionpool/laws.FnGoodPathShort", spec := "fnGoodPathShort", apart := false }
def FnGoodPathShortSaid : Prop := fnGoodPathShortRow.holds Try.pinned (OpenSpec.ofChange fnGoodPathShortSpec)

/-- ITS FALSE NEIGHBOUR: 'it returns false'. Refute it at one input. -/
def fnGoodPathShortWrong : ChangeSpec := { name := "fnGoodPathShort", fn := fun _ => fun
  | [d] => { results := [.lit (.bool false)], args := [d] }
  | _ => none }
def FnGoodPathShortWrongFalsely : Prop := fnGoodPathShortRow.holds Try.pinned (OpenSpec.ofChange fnGoodPathShortWrong)

/-- 'laws.FnGoodShare': WHATEVER THE INPUT: true; the input reads as it did. -/
def fnGoodShareSpec : ChangeSpec := { name := "fnGoodShare", fn := fun _ => fun
  | [d] => { results := [.lit (.bool true)], args := [d] }
  | _ => none }
def fnGoodShareRow : OpenClaim := { program := "ythghmpcfiakjgac", sum := "4b9f4e9c35e4d84f80ece785758b6e36697924176a84a68186f19fe2236817cd", func := "loop.example/connectionpool/laws.FnGoodShare", spec := "fnGoodShare", apart := false }
def FnGoodShareSaid : Prop := fnGoodShareRow.holds Try.pinned (OpenSpec.ofChange fnGoodShareSpec)

/-- ITS FALSE NEIGHBOUR: 'it returns false'. Refute it at one input. -/
def fnGoodShareWrong : ChangeSpec := { name := "fnGoodShare", fn := fun _ => fun
  | [d] => { results := [.lit (.bool false)], args := [d] }
  | _ => none }
def FnGoodShareWrongFalsely : Prop := fnGoodShareRow.holds Try.pinned (OpenSpec.ofChange fnGoodShareWrong)

/-- 'laws.FnGoodShareMore': WHATEVER THE INPUT: true; the input reads as it did. -/
def fnGoodShareMoreSpec : ChangeSpec := { name := "fnGoodShareMore", fn := fun _ => fun
  | [d] => { results := [.lit (.bool true)], args := [d] }
  | _ => none }
def fnGoodShareMoreRow : OpenClaim := { program := "ythghmpcfiakjgac", sum := "4b9f4e9c35e4d84f80ece785758b6e36697924176a84a68186f19fe2236817cd", func := "loop.example/connectionpool/laws.FnGoodShareMore", spec := "fnGoodShareMore", apart := false }
def FnGoodShareMoreSaid : Prop := fnGoodShareMoreRow.holds Try.pinned (OpenSpec.ofChange fnGoodShareMoreSpec)

/-- ITS FALSE NEIGHBOUR: 'it returns false'. Refute it at one input. -/
def fnGoodShareMoreWrong : ChangeSpec := { name := "fnGoodShareMore", fn := fun _ => fun
  | [d] => { results := [.lit (.bool false)], args := [d] }
  | _ => none }
def FnGoodShareMoreWrongFalsely : Prop := fnGoodShareMoreRow.holds Try.pinned (OpenSpec.ofChange fnGoodShareMoreWrong)

/- THE SECOND FORM. 'bulk': how many values and letters a reading holds, each counted each time it is reached (what is shared counts as often as it is met; a slice's spare places count too). A statement '..UptoSaid' is the law's where the arguments, and the package variables that the reading takes, are together of bulk at most 1048576: NARROWER than '..Said'. Prove '..Said' where nothing that the law and all that it calls make is longer than what came in: it says more and counts as full. Else prove '..UptoSaid'. A law counts once. -/
mutual
def uptoBulk {H : Type} : DataW H → Nat
  | .lit (.string bytes) => bytes.length + 1
  | .lit _ => 1
  | .nil => 1
  | .ptr d => uptoBulk d + 1
  | .slice elems spare => uptoBulkAll elems + uptoBulkAll spare + 1
  | .agg parts => uptoBulkAll parts + 1
  | .iface _ d => uptoBulk d + 1
  | .map entries => uptoBulkEntries entries + 1
  | .held _ => 1
def uptoBulkAll {H : Type} : List (DataW H) → Nat
  | [] => 0
  | d :: r => uptoBulk d + uptoBulkAll r
def uptoBulkEntries {H : Type} : List (Lit × DataW H) → Nat
  | [] => 0
  | x :: r => uptoBulkEntry x + uptoBulkEntries r
def uptoBulkEntry {H : Type} : Lit × DataW H → Nat
  | (.string bytes, d) => bytes.length + uptoBulk d + 1
  | (_, d) => uptoBulk d + 1
 end
def uptoSmall : (H : Type) → List (DataW H) → Bool := fun _ ds => decide (uptoBulkAll ds ≤ 1048576)
def OpenSpec.upto (s : _root_.Go.ChangeSpec) : _root_.Go.OpenSpec := { _root_.Go.OpenSpec.ofChange s with cond := some uptoSmall }

/-- 'laws.FnGoodPath', WHERE WHAT IT READS IS OF BULK AT MOST 1048576: true; the input reads as it did. -/
def fnGoodPathUptoRow : OpenClaim := { program := "ythghmpcfiakjgac", sum := "4b9f4e9c35e4d84f80ece785758b6e36697924176a84a68186f19fe2236817cd", func := "loop.example/connectionpool/laws.FnGoodPath", spec := "fnGoodPath", apart := false, narrowed := true }
def FnGoodPathUptoSaid : Prop := fnGoodPathUptoRow.holds Try.pinned (OpenSpec.upto fnGoodPathSpec)

/-- 'laws.FnGoodPathOne', WHERE WHAT IT READS IS OF BULK AT MOST 1048576: true; the input reads as it did. -/
def fnGoodPathOneUptoRow : OpenClaim := { program := "ythghmpcfiakjgac", sum := "4b9f4e9c35e4d84f80ece785758b6e36697924176a84a68186f19fe2236817cd", func := "loop.example/connectionpool/laws.FnGoodPathOne", spec := "fnGoodPathOne", apart := false, narrowed := true }
def FnGoodPathOneUptoSaid : Prop := fnGoodPathOneUptoRow.holds Try.pinned (OpenSpec.upto fnGoodPathOneSpec)

/-- 'laws.FnGoodPathShort', WHERE WHAT IT READS IS OF BULK AT MOST 1048576: true; the input reads as it did. -/
def fnGoodPathShortUptoRow : OpenClaim := { program := "ythghmpcfiakjgac", sum := "4b9f4e9c35e4d84f80ece785758b6e36697924176a84a68186f19fe2236817cd", func := "loop.example/connectionpool/laws.FnGoodPathShort", spec := "fnGoodPathShort", apart := false, narrowed := true }
def FnGoodPathShortUptoSaid : Prop := fnGoodPathShortUptoRow.holds Try.pinned (OpenSpec.upto fnGoodPathShortSpec)

/-- 'laws.FnGoodShare', WHERE WHAT IT READS IS OF BULK AT MOST 1048576: true; the input reads as it did. -/
def fnGoodShareUptoRow : OpenClaim := { program := "ythghmpcfiakjgac", sum := "4b9f4e9c35e4d84f80ece785758b6e36697924176a84a68186f19fe2236817cd", func := "loop.example/connectionpool/laws.FnGoodShare", spec := "fnGoodShare", apart := false, narrowed := true }
def FnGoodShareUptoSaid : Prop := fnGoodShareUptoRow.holds Try.pinned (OpenSpec.upto fnGoodShareSpec)

/-- 'laws.FnGoodShareMore', WHERE WHAT IT READS IS OF BULK AT MOST 1048576: true; the input reads as it did. -/
def fnGoodShareMoreUptoRow : OpenClaim := { program := "ythghmpcfiakjgac", sum := "4b9f4e9c35e4d84f80ece785758b6e36697924176a84a68186f19fe2236817cd", func := "loop.example/connectionpool/laws.FnGoodShareMore", spec := "fnGoodShareMore", apart := false, narrowed := true }
def FnGoodShareMoreUptoSaid : Prop := fnGoodShareMoreUptoRow.holds Try.pinned (OpenSpec.upto fnGoodShareMoreSpec)

end Rows
end Go.Proofs.Ythghmpcfiakjgac

/-
  No cell of these rows narrows 'for every input' (looked for: loops, veiled, ifaces, maps, wideKeys, modest, calm, conditions, laid).
  DERIVED. THE GIVEN ROWS OF THIS SEAT. 5 by the template 'for every input the law returns true; each argument reads behind the call as it read before'; 0 by the template 'total and deterministic' (their statements: YtolcnokmdohbaacTotals.lean).
  GIVEN WITH THE SEED: the statements are not yours to turn. If you find one false, say at which input.
  Laid BY PROGRAM, IN A SANDBOX (cutbox-rows.mjs): the forced cells as the released guide's own fill.sh prints them over the translation be0a3237785cfbd6… (all of the seat's roots in one cut). By AI agents, Wed Nov 11 2026. No macro, syntax, notation, axiom, sorry.
-/
import Derived.Test.YtolcnokmdohbaacChecked
import GoSem.Claim
import GoSem.ClaimJoined
import GoSem.ClaimMapViews
import Derived.JoinedTies
import Derived.KernelRfl
namespace Go.Proofs.Ytolcnokmdohbaac
/- THE CELL 'sum', in the pinned program and in every row, IS THE sha256 OF THE DUMP (.gsa) THAT YtolcnokmdohbaacProg.lean LOADS. Nothing in Lean hashes anything: it is a label: what it is worth is what the hold of that sum in a sandbox is worth. -/
noncomputable def Try.pinned : Pinned := { name := "ytolcnokmdohbaac", sum := "be0a3237785cfbd6ff7ad6e8174ba8f18d7d096ad09d63e6e48cd8a41c2eebe7", checked := Try.checked }
namespace Rows
def none {H : Type} : Left H := { results := [], args := [] }

/-- 'laws.FnLongestWait': WHATEVER THE INPUT: true; the input reads as it did. -/
def fnLongestWaitSpec : ChangeSpec := { name := "fnLongestWait", fn := fun _ => fun
  | [d] => { results := [.lit (.bool true)], args := [d] }
  | _ => none }
def fnLongestWaitRow : OpenClaim := { program := "ytolcnokmdohbaac", sum := "be0a3237785cfbd6ff7ad6e8174ba8f18d7d096ad09d63e6e48cd8a41c2eebe7", func := "loop.example/connectionpool/laws.FnLongestWait", spec := "fnLongestWait", apart := false }
def FnLongestWaitSaid : Prop := fnLongestWaitRow.holds Try.pinned (OpenSpec.ofChange fnLongestWaitSpec)

/-- ITS FALSE NEIGHBOUR: 'it returns false'. Refute it at one input. -/
def fnLongestWaitWrong : ChangeSpec := { name := "fnLongestWait", fn := fun _ => fun
  | [d] => { results := [.lit (.bool false)], args := [d] }
  | _ => none }
def FnLongestWaitWrongFalsely : Prop := fnLongestWaitRow.holds Try.pinned (OpenSpec.ofChange fnLongestWaitWrong)

/-- 'laws.FnLongestWaitShort': WHATEVER THE INPUT: true; the input reads as it did. -/
def fnLongestWaitShortSpec : ChangeSpec := { name := "fnLongestWaitShort", fn := fun _ => fun
  | [d] => { results := [.lit (.bool true)], args := [d] }
  | _ => none }
def fnLongestWaitShortRow : OpenClaim := { program := "ytolcnokmdohbaac", sum := "be0a3237785cfbd6ff7ad6e8174ba8f18d7d096ad09d63e6e48cd8a41c2eebe7", func := "loop.example/connectionpool/laws.FnLongestWaitShort", spec := "fnLongestWaitShort", apart := false }
def FnLongestWaitShortSaid : Prop := fnLongestWaitShortRow.holds Try.pinned (OpenSpec.ofChange fnLongestWaitShortSpec)

/-- ITS FALSE NEIGHBOUR: 'it returns false'. Refute it at one input. -/
def fnLongestWaitShortWrong : ChangeSpec := { name := "fnLongestWaitShort", fn := fun _ => fun
  | [d] => { results := [.lit (.bool false)], args := [d] }
  | _ => none }
def FnLongestWaitShortWrongFalsely : Prop := fnLongestWaitShortRow.holds Try.pinned (OpenSpec.ofChange fnLongestWaitShortWrong)

/-- 'laws.FnConnsFor': WHATEVER THE INPUT: true; the input reads as it did. -/
def fnConnsForSpec : ChangeSpec := { name := "fnConnsFor", fn := fun _ => fun
  | [d] => { results := [.lit (.bool true)], args := [d] }
  | _ => none }
def fnConnsForRow : OpenClaim := { program := "ytolcnokmdohbaac", sum := "be0a3237785cfbd6ff7ad6e8174ba8f18d7d096ad09d63e6e48cd8a41c2eebe7", func := "loop.example/connectionpool/laws.FnConnsFor", spec := "fnConnsFor", apart := false }
def FnConnsForSaid : Prop := fnConnsForRow.holds Try.pinned (OpenSpec.ofChange fnConnsForSpec)

/-- ITS FALSE NEIGHBOUR: 'it returns false'. Refute it at one input. -/
def fnConnsForWrong : ChangeSpec := { name := "fnConnsFor", fn := fun _ => fun
  | [d] => { results := [.lit (.bool false)], args := [d] }
  | _ => none }
def FnConnsForWrongFalsely : Prop := fnConnsForRow.holds Try.pinned (OpenSpec.ofChange fnConnsForWrong)

/-- 'laws.FnConnsForFew': WHATEVER THE INPUT: true; the input reads as it did. -/
def fnConnsForFewSpec : ChangeSpec := { name := "fnConnsForFew", fn := fun _ => fun
  | [d] => { results := [.lit (.bool true)], args := [d] }
  | _ => none }
def fnConnsForFewRow : OpenClaim := { program := "ytolcnokmdohbaac", sum := "be0a3237785cfbd6ff7ad6e8174ba8f18d7d096ad09d63e6e48cd8a41c2eebe7", func := "loop.example/connectionpool/laws.FnConnsForFew", spec := "fnConnsForFew", apart := false }
def FnConnsForFewSaid : Prop := fnConnsForFewRow.holds Try.pinned (OpenSpec.ofChange fnConnsForFewSpec)

/-- ITS FALSE NEIGHBOUR: 'it returns false'. Refute it at one input. -/
def fnConnsForFewWrong : ChangeSpec := { name := "fnConnsForFew", fn := fun _ => fun
  | [d] => { results := [.lit (.bool false)], args := [d] }
  | _ => none }
def FnConnsForFewWrongFalsely : Prop := fnConnsForFewRow.holds Try.pinned (OpenSpec.ofChange fnConnsForFewWrong)

/-- 'laws.FnConnsForShort': WHATEVER THE INPUT: true; the input reads as it did. -/
def fnConnsForShortSpec : ChangeSpec := { name := "fnConnsForShort", fn := fun _ => fun
  | [d] => { results := [.lit (.bool true)], args := [d] }
  | _ => none }
def fnConnsForShortRow : OpenClaim := { program := "ytolcnokmdohbaac", sum := "be0a3237785cfbd6ff7ad6e8174ba8f18d7d096ad09d63e6e48cd8a41c2eebe7", func := "loop.example/connectionpool/laws.FnConnsForShort", spec := "fnConnsForShort", apart := false }
def FnConnsForShortSaid : Prop := fnConnsForShortRow.holds Try.pinned (OpenSpec.ofChange fnConnsForShortSpec)

/-- ITS FALSE NEIGHBOUR: 'it returns false'. Refute it at one input. -/
def fnConnsForShortWrong : ChangeSpec := { name := "fnConnsForShort", fn := fun _ => fun
  | [d] => { results := [.lit (.bool false)], args := [d] }
  | _ => none }
def FnConnsForShortWrongFalsely : Prop := fnConnsForShortRow.holds Try.pinned (OpenSpec.ofChange fnConnsForShortWrong)

/- THE SECOND FORM. 'bulk': how many values and letters a reading holds, each counted each time it is reached (what is shared counts as often as it is met; a slice's spare places count too). A statement '..UptoSaid' is the law's where the arguments, and the package variables that the reading takes, are together of bulk at most 1048576: NARROWER than '..Said'. Prove '..Said' where nothing that the law and all that it calls make is longer than what came in: it says more and counts as full. Else prove '..UptoSaid'. A law counts once. -/
mutual
def uptoBulk {H : Type} : DataW H → Nat
  | .lit (.string bytes) => bytes.length + 1
  | .lit _ => 1
  | .nil => 1
  | .ptr d => uptoBulk d + 1
  | .slice elems spare => uptoBulkAll elems + uptoBulkAll spare + 1
  | .agg parts => uptoBulkAll parts + 1
  | .iface _ d => uptoBulk d + 1
  | .map entries => uptoBulkEntries entries + 1
  | .held _ => 1
def uptoBulkAll {H : Type} : List (DataW H) → Nat
  | [] => 0
  | d :: r => uptoBulk d + uptoBulkAll r
def uptoBulkEntries {H : Type} : List (Lit × DataW H) → Nat
  | [] => 0
  | x :: r => uptoBulkEntry x + uptoBulkEntries r
def uptoBulkEntry {H : Type} : Lit × DataW H → Nat
  | (.string bytes, d) => bytes.length + uptoBulk d + 1
  | (_, d) => uptoBulk d + 1
 end
def uptoSmall : (H : Type) → List (DataW H) → Bool := fun _ ds => decide (uptoBulkAll ds ≤ 1048576)
def OpenSpec.upto (s : _root_.Go.ChangeSpec) : _root_.Go.OpenSpec := { _root_.Go.OpenSpec.ofChange s with cond := some uptoSmall }

/-- 'laws.FnLongestWait', WHERE WHAT IT READS IS OF BULK AT MOST 1048576: true; the input reads as it did. -/
def fnLongestWaitUptoRow : OpenClaim := { program := "ytolcnokmdohbaac", sum := "be0a3237785cfbd6ff7ad6e8174ba8f18d7d096ad09d63e6e48cd8a41c2eebe7", func := "loop.example/connectionpool/laws.FnLongestWait", spec := "fnLongestWait", apart := false, narrowed := true }
def FnLongestWaitUptoSaid : Prop := fnLongestWaitUptoRow.holds Try.pinned (OpenSpec.upto fnLongestWaitSpec)

/-- 'laws.FnLongestWaitShort', WHERE WHAT IT READS IS OF BULK AT MOST 1048576: true; the input reads as it did. -/
def fnLongestWaitShortUptoRow : OpenClaim := { program := "ytolcnokmdohbaac", sum := "be0a3237785cfbd6ff7ad6e8174ba8f18d7d096ad09d63e6e48cd8a41c2eebe7", func := "loop.example/connectionpool/laws.FnLongestWaitShort", spec := "fnLongestWaitShort", apart := false, narrowed := true }
def FnLongestWaitShortUptoSaid : Prop := fnLongestWaitShortUptoRow.holds Try.pinned (OpenSpec.upto fnLongestWaitShortSpec)

/-- 'laws.FnConnsFor', WHERE WHAT IT READS IS OF BULK AT MOST 1048576: true; the input reads as it did. -/
def fnConnsForUptoRow : OpenClaim := { program := "ytolcnokmdohbaac", sum := "be0a3237785cfbd6ff7ad6e8174ba8f18d7d096ad09d63e6e48cd8a41c2eebe7", func := "loop.example/connectionpool/laws.FnConnsFor", spec := "fnConnsFor", apart := false, narrowed := true }
def FnConnsForUptoSaid : Prop := fnConnsForUptoRow.holds Try.pinned (OpenSpec.upto fnConnsForSpec)

/-- 'laws.FnConnsForFew', WHERE WHAT IT READS IS OF BULK AT MOST 1048576: true; the input reads as it did. -/
def fnConnsForFewUptoRow : OpenClaim := { program := "ytolcnokmdohbaac", sum := "be0a3237785cfbd6ff7ad6e8174ba8f18d7d096ad09d63e6e48cd8a41c2eebe7", func := "loop.example/connectionpool/laws.FnConnsForFew", spec := "fnConnsForFew", apart := false, narrowed := true }
def FnConnsForFewUptoSaid : Prop := fnConnsForFewUptoRow.holds Try.pinned (OpenSpec.upto fnConnsForFewSpec)

/-- 'laws.FnConnsForShort', WHERE WHAT IT READS IS OF BULK AT MOST 1048576: true; the input reads as it did. -/
def fnConnsForShortUptoRow : OpenClaim := { program := "ytolcnokmdohbaac", sum := "be0a3237785cfbd6ff7ad6e8174ba8f18d7d096ad09d63e6e48cd8a41c2eebe7", func := "loop.example/connectionpool/laws.FnConnsForShort", spec := "fnConnsForShort", apart := false, narrowed := true }
def FnConnsForShortUptoSaid : Prop := fnConnsForShortUptoRow.holds Try.pinned (OpenSpec.upto fnConnsForShortSpec)

end Rows
end Go.Proofs.Ytolcnokmdohbaac

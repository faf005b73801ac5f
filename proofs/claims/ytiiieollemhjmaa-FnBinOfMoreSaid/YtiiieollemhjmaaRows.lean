/-
  No cell of these rows narrows 'for every input' (looked for: loops, veiled, ifaces, maps, wideKeys, modest, calm, conditions, laid).
  DERIVED. THE GIVEN ROWS OF THIS SEAT. 8 by the template 'for every input the law returns true; each argument reads behind the call as it read before'; 0 by the template 'total and deterministic' (their statements: YtiiieollemhjmaaTotals.lean).
  GIVEN WITH THE SEED: the statements are not yours to turn. If you find one false, say at which input.
  Laid BY PROGRAM, IN A SANDBOX (cutbox-rows.mjs): the forced cells as the released guide's own fill.sh prints them over the translation 3c1492aee5bd3b22… (all of the seat's roots in one cut). By AI agents, Wed Nov 11 2026. No macro, syntax, notation, axiom, sorry.
-/
import Derived.Test.YtiiieollemhjmaaChecked
import GoSem.Claim
import GoSem.ClaimJoined
import GoSem.ClaimMapViews
import Derived.JoinedTies
import Derived.KernelRfl
namespace Go.Proofs.Ytiiieollemhjmaa
/- THE CELL 'sum', in the pinned program and in every row, IS THE sha256 OF THE DUMP (.gsa) THAT YtiiieollemhjmaaProg.lean LOADS. Nothing in Lean hashes anything: it is a label: what it is worth is what the hold of that sum in a sandbox is worth. -/
noncomputable def Try.pinned : Pinned := { name := "ytiiieollemhjmaa", sum := "3c1492aee5bd3b22e9c39f2810e4f9db6a10337f5514a9256d217d6656e9e1e8", checked := Try.checked }
namespace Rows
def none {H : Type} : Left H := { results := [], args := [] }

/-- 'laws.FnExactBinOf': WHATEVER THE INPUT: true; the input reads as it did. -/
def fnExactBinOfSpec : ChangeSpec := { name := "fnExactBinOf", fn := fun _ => fun
  | [d] => { results := [.lit (.bool true)], args := [d] }
  | _ => none }
def fnExactBinOfRow : OpenClaim := { program := "ytiiieollemhjmaa", sum := "3c1492aee5bd3b22e9c39f2810e4f9db6a10337f5514a9256d217d6656e9e1e8", func := "loop.example/connectionpool/laws.FnExactBinOf", spec := "fnExactBinOf", apart := false }
def FnExactBinOfSaid : Prop := fnExactBinOfRow.holds Try.pinned (OpenSpec.ofChange fnExactBinOfSpec)

/-- ITS FALSE NEIGHBOUR: 'it returns false'. Refute it at one input. -/
def fnExactBinOfWrong : ChangeSpec := { name := "fnExactBinOf", fn := fun _ => fun
  | [d] => { results := [.lit (.bool false)], args := [d] }
  | _ => none }
def FnExactBinOfWrongFalsely : Prop := fnExactBinOfRow.holds Try.pinned (OpenSpec.ofChange fnExactBinOfWrong)

/-- 'laws.FnExactBinTop': WHATEVER THE INPUT: true; the input reads as it did. -/
def fnExactBinTopSpec : ChangeSpec := { name := "fnExactBinTop", fn := fun _ => fun
  | [d] => { results := [.lit (.bool true)], args := [d] }
  | _ => none }
def fnExactBinTopRow : OpenClaim := { program := "ytiiieollemhjmaa", sum := "3c1492aee5bd3b22e9c39f2810e4f9db6a10337f5514a9256d217d6656e9e1e8", func := "loop.example/connectionpool/laws.FnExactBinTop", spec := "fnExactBinTop", apart := false }
def FnExactBinTopSaid : Prop := fnExactBinTopRow.holds Try.pinned (OpenSpec.ofChange fnExactBinTopSpec)

/-- ITS FALSE NEIGHBOUR: 'it returns false'. Refute it at one input. -/
def fnExactBinTopWrong : ChangeSpec := { name := "fnExactBinTop", fn := fun _ => fun
  | [d] => { results := [.lit (.bool false)], args := [d] }
  | _ => none }
def FnExactBinTopWrongFalsely : Prop := fnExactBinTopRow.holds Try.pinned (OpenSpec.ofChange fnExactBinTopWrong)

/-- 'laws.FnExactValidCounts': WHATEVER THE INPUT: true; the input reads as it did. -/
def fnExactValidCountsSpec : ChangeSpec := { name := "fnExactValidCounts", fn := fun _ => fun
  | [d] => { results := [.lit (.bool true)], args := [d] }
  | _ => none }
def fnExactValidCountsRow : OpenClaim := { program := "ytiiieollemhjmaa", sum := "3c1492aee5bd3b22e9c39f2810e4f9db6a10337f5514a9256d217d6656e9e1e8", func := "loop.example/connectionpool/laws.FnExactValidCounts", spec := "fnExactValidCounts", apart := false }
def FnExactValidCountsSaid : Prop := fnExactValidCountsRow.holds Try.pinned (OpenSpec.ofChange fnExactValidCountsSpec)

/-- ITS FALSE NEIGHBOUR: 'it returns false'. Refute it at one input. -/
def fnExactValidCountsWrong : ChangeSpec := { name := "fnExactValidCounts", fn := fun _ => fun
  | [d] => { results := [.lit (.bool false)], args := [d] }
  | _ => none }
def FnExactValidCountsWrongFalsely : Prop := fnExactValidCountsRow.holds Try.pinned (OpenSpec.ofChange fnExactValidCountsWrong)

/-- 'laws.FnExactCountWaits': WHATEVER THE INPUT: true; the input reads as it did. -/
def fnExactCountWaitsSpec : ChangeSpec := { name := "fnExactCountWaits", fn := fun _ => fun
  | [d] => { results := [.lit (.bool true)], args := [d] }
  | _ => none }
def fnExactCountWaitsRow : OpenClaim := { program := "ytiiieollemhjmaa", sum := "3c1492aee5bd3b22e9c39f2810e4f9db6a10337f5514a9256d217d6656e9e1e8", func := "loop.example/connectionpool/laws.FnExactCountWaits", spec := "fnExactCountWaits", apart := false }
def FnExactCountWaitsSaid : Prop := fnExactCountWaitsRow.holds Try.pinned (OpenSpec.ofChange fnExactCountWaitsSpec)

/-- ITS FALSE NEIGHBOUR: 'it returns false'. Refute it at one input. -/
def fnExactCountWaitsWrong : ChangeSpec := { name := "fnExactCountWaits", fn := fun _ => fun
  | [d] => { results := [.lit (.bool false)], args := [d] }
  | _ => none }
def FnExactCountWaitsWrongFalsely : Prop := fnExactCountWaitsRow.holds Try.pinned (OpenSpec.ofChange fnExactCountWaitsWrong)

/-- 'laws.FnExactAddCounts': WHATEVER THE INPUT: true; the input reads as it did. -/
def fnExactAddCountsSpec : ChangeSpec := { name := "fnExactAddCounts", fn := fun _ => fun
  | [d1, d2] => { results := [.lit (.bool true)], args := [d1, d2] }
  | _ => none }
def fnExactAddCountsRow : OpenClaim := { program := "ytiiieollemhjmaa", sum := "3c1492aee5bd3b22e9c39f2810e4f9db6a10337f5514a9256d217d6656e9e1e8", func := "loop.example/connectionpool/laws.FnExactAddCounts", spec := "fnExactAddCounts", apart := false }
def FnExactAddCountsSaid : Prop := fnExactAddCountsRow.holds Try.pinned (OpenSpec.ofChange fnExactAddCountsSpec)

/-- ITS FALSE NEIGHBOUR: 'it returns false'. Refute it at one input. -/
def fnExactAddCountsWrong : ChangeSpec := { name := "fnExactAddCounts", fn := fun _ => fun
  | [d1, d2] => { results := [.lit (.bool false)], args := [d1, d2] }
  | _ => none }
def FnExactAddCountsWrongFalsely : Prop := fnExactAddCountsRow.holds Try.pinned (OpenSpec.ofChange fnExactAddCountsWrong)

/-- 'laws.FnExactWaitUnder': WHATEVER THE INPUT: true; the input reads as it did. -/
def fnExactWaitUnderSpec : ChangeSpec := { name := "fnExactWaitUnder", fn := fun _ => fun
  | [d1, d2] => { results := [.lit (.bool true)], args := [d1, d2] }
  | _ => none }
def fnExactWaitUnderRow : OpenClaim := { program := "ytiiieollemhjmaa", sum := "3c1492aee5bd3b22e9c39f2810e4f9db6a10337f5514a9256d217d6656e9e1e8", func := "loop.example/connectionpool/laws.FnExactWaitUnder", spec := "fnExactWaitUnder", apart := false }
def FnExactWaitUnderSaid : Prop := fnExactWaitUnderRow.holds Try.pinned (OpenSpec.ofChange fnExactWaitUnderSpec)

/-- ITS FALSE NEIGHBOUR: 'it returns false'. Refute it at one input. -/
def fnExactWaitUnderWrong : ChangeSpec := { name := "fnExactWaitUnder", fn := fun _ => fun
  | [d1, d2] => { results := [.lit (.bool false)], args := [d1, d2] }
  | _ => none }
def FnExactWaitUnderWrongFalsely : Prop := fnExactWaitUnderRow.holds Try.pinned (OpenSpec.ofChange fnExactWaitUnderWrong)

/-- 'laws.FnBinOf': WHATEVER THE INPUT: true; the input reads as it did. -/
def fnBinOfSpec : ChangeSpec := { name := "fnBinOf", fn := fun _ => fun
  | [d] => { results := [.lit (.bool true)], args := [d] }
  | _ => none }
def fnBinOfRow : OpenClaim := { program := "ytiiieollemhjmaa", sum := "3c1492aee5bd3b22e9c39f2810e4f9db6a10337f5514a9256d217d6656e9e1e8", func := "loop.example/connectionpool/laws.FnBinOf", spec := "fnBinOf", apart := false }
def FnBinOfSaid : Prop := fnBinOfRow.holds Try.pinned (OpenSpec.ofChange fnBinOfSpec)

/-- ITS FALSE NEIGHBOUR: 'it returns false'. Refute it at one input. -/
def fnBinOfWrong : ChangeSpec := { name := "fnBinOf", fn := fun _ => fun
  | [d] => { results := [.lit (.bool false)], args := [d] }
  | _ => none }
def FnBinOfWrongFalsely : Prop := fnBinOfRow.holds Try.pinned (OpenSpec.ofChange fnBinOfWrong)

/-- 'laws.FnBinOfMore': WHATEVER THE INPUT: true; the input reads as it did. -/
def fnBinOfMoreSpec : ChangeSpec := { name := "fnBinOfMore", fn := fun _ => fun
  | [d] => { results := [.lit (.bool true)], args := [d] }
  | _ => none }
def fnBinOfMoreRow : OpenClaim := { program := "ytiiieollemhjmaa", sum := "3c1492aee5bd3b22e9c39f2810e4f9db6a10337f5514a9256d217d6656e9e1e8", func := "loop.example/connectionpool/laws.FnBinOfMore", spec := "fnBinOfMore", apart := false }
def FnBinOfMoreSaid : Prop := fnBinOfMoreRow.holds Try.pinned (OpenSpec.ofChange fnBinOfMoreSpec)

/-- ITS FALSE NEIGHBOUR: 'it returns false'. Refute it at one input. -/
def fnBinOfMoreWrong : ChangeSpec := { name := "fnBinOfMore", fn := fun _ => fun
  | [d] => { results := [.lit (.bool false)], args := [d] }
  | _ => none }
def FnBinOfMoreWrongFalsely : Prop := fnBinOfMoreRow.holds Try.pinned (OpenSpec.ofChange fnBinOfMoreWrong)

/- THE SECOND FORM. 'bulk': how many values and letters a reading holds, each counted each time it is reached (what is shared counts as often as it is met; a slice's spare places count too). A statement '..UptoSaid' is the law's where the arguments, and the package variables that the reading takes, are together of bulk at most 1048576: NARROWER than '..Said'. Prove '..Said' where nothing that the law and all that it calls make is longer than what came in: it says more and counts as full. Else prove '..UptoSaid'. A law counts once. -/
mutual
def uptoBulk {H : Type} : DataW H → Nat
  | .lit (.string bytes) => bytes.length + 1
  | .lit _ => 1
  | .nil => 1
  | .ptr d => uptoBulk d + 1
  | .slice elems spare => uptoBulkAll elems + uptoBulkAll spare + 1
  | .agg parts => uptoBulkAll parts + 1
  | .iface _ d => uptoBulk d + 1
  | .map entries => uptoBulkEntries entries + 1
  | .held _ => 1
def uptoBulkAll {H : Type} : List (DataW H) → Nat
  | [] => 0
  | d :: r => uptoBulk d + uptoBulkAll r
def uptoBulkEntries {H : Type} : List (Lit × DataW H) → Nat
  | [] => 0
  | x :: r => uptoBulkEntry x + uptoBulkEntries r
def uptoBulkEntry {H : Type} : Lit × DataW H → Nat
  | (.string bytes, d) => bytes.length + uptoBulk d + 1
  | (_, d) => uptoBulk d + 1
 end
def uptoSmall : (H : Type) → List (DataW H) → Bool := fun _ ds => decide (uptoBulkAll ds ≤ 1048576)
def OpenSpec.upto (s : _root_.Go.ChangeSpec) : _root_.Go.OpenSpec := { _root_.Go.OpenSpec.ofChange s with cond := some uptoSmall }

/-- 'laws.FnExactBinOf', WHERE WHAT IT READS IS OF BULK AT MOST 1048576: true; the input reads as it did. -/
def fnExactBinOfUptoRow : OpenClaim := { program := "ytiiieollemhjmaa", sum := "3c1492aee5bd3b22e9c39f2810e4f9db6a10337f5514a9256d217d6656e9e1e8", func := "loop.example/connectionpool/laws.FnExactBinOf", spec := "fnExactBinOf", apart := false, narrowed := true }
def FnExactBinOfUptoSaid : Prop := fnExactBinOfUptoRow.holds Try.pinned (OpenSpec.upto fnExactBinOfSpec)

/-- 'laws.FnExactBinTop', WHERE WHAT IT READS IS OF BULK AT MOST 1048576: true; the input reads as it did. -/
def fnExactBinTopUptoRow : OpenClaim := { program := "ytiiieollemhjmaa", sum := "3c1492aee5bd3b22e9c39f2810e4f9db6a10337f5514a9256d217d6656e9e1e8", func := "loop.example/connectionpool/laws.FnExactBinTop", spec := "fnExactBinTop", apart := false, narrowed := true }
def FnExactBinTopUptoSaid : Prop := fnExactBinTopUptoRow.holds Try.pinned (OpenSpec.upto fnExactBinTopSpec)

/-- 'laws.FnExactValidCounts', WHERE WHAT IT READS IS OF BULK AT MOST 1048576: true; the input reads as it did. -/
def fnExactValidCountsUptoRow : OpenClaim := { program := "ytiiieollemhjmaa", sum := "3c1492aee5bd3b22e9c39f2810e4f9db6a10337f5514a9256d217d6656e9e1e8", func := "loop.example/connectionpool/laws.FnExactValidCounts", spec := "fnExactValidCounts", apart := false, narrowed := true }
def FnExactValidCountsUptoSaid : Prop := fnExactValidCountsUptoRow.holds Try.pinned (OpenSpec.upto fnExactValidCountsSpec)

/-- 'laws.FnExactCountWaits', WHERE WHAT IT READS IS OF BULK AT MOST 1048576: true; the input reads as it did. -/
def fnExactCountWaitsUptoRow : OpenClaim := { program := "ytiiieollemhjmaa", sum := "3c1492aee5bd3b22e9c39f2810e4f9db6a10337f5514a9256d217d6656e9e1e8", func := "loop.example/connectionpool/laws.FnExactCountWaits", spec := "fnExactCountWaits", apart := false, narrowed := true }
def FnExactCountWaitsUptoSaid : Prop := fnExactCountWaitsUptoRow.holds Try.pinned (OpenSpec.upto fnExactCountWaitsSpec)

/-- 'laws.FnExactAddCounts', WHERE WHAT IT READS IS OF BULK AT MOST 1048576: true; the input reads as it did. -/
def fnExactAddCountsUptoRow : OpenClaim := { program := "ytiiieollemhjmaa", sum := "3c1492aee5bd3b22e9c39f2810e4f9db6a10337f5514a9256d217d6656e9e1e8", func := "loop.example/connectionpool/laws.FnExactAddCounts", spec := "fnExactAddCounts", apart := false, narrowed := true }
def FnExactAddCountsUptoSaid : Prop := fnExactAddCountsUptoRow.holds Try.pinned (OpenSpec.upto fnExactAddCountsSpec)

/-- 'laws.FnExactWaitUnder', WHERE WHAT IT READS IS OF BULK AT MOST 1048576: true; the input reads as it did. -/
def fnExactWaitUnderUptoRow : OpenClaim := { program := "ytiiieollemhjmaa", sum := "3c1492aee5bd3b22e9c39f2810e4f9db6a10337f5514a9256d217d6656e9e1e8", func := "loop.example/connectionpool/laws.FnExactWaitUnder", spec := "fnExactWaitUnder", apart := false, narrowed := true }
def FnExactWaitUnderUptoSaid : Prop := fnExactWaitUnderUptoRow.holds Try.pinned (OpenSpec.upto fnExactWaitUnderSpec)

/-- 'laws.FnBinOf', WHERE WHAT IT READS IS OF BULK AT MOST 1048576: true; the input reads as it did. -/
def fnBinOfUptoRow : OpenClaim := { program := "ytiiieollemhjmaa", sum := "3c1492aee5bd3b22e9c39f2810e4f9db6a10337f5514a9256d217d6656e9e1e8", func := "loop.example/connectionpool/laws.FnBinOf", spec := "fnBinOf", apart := false, narrowed := true }
def FnBinOfUptoSaid : Prop := fnBinOfUptoRow.holds Try.pinned (OpenSpec.upto fnBinOfSpec)

/-- 'laws.FnBinOfMore', WHERE WHAT IT READS IS OF BULK AT MOST 1048576: true; the input reads as it did. -/
def fnBinOfMoreUptoRow : OpenClaim := { program := "ytiiieollemhjmaa", sum := "3c1492aee5bd3b22e9c39f2810e4f9db6a10337f5514a9256d217d6656e9e1e8", func := "loop.example/connectionpool/laws.FnBinOfMore", spec := "fnBinOfMore", apart := false, narrowed := true }
def FnBinOfMoreUptoSaid : Prop := fnBinOfMoreUptoRow.holds Try.pinned (OpenSpec.upto fnBinOfMoreSpec)

end Rows
end Go.Proofs.Ytiiieollemhjmaa

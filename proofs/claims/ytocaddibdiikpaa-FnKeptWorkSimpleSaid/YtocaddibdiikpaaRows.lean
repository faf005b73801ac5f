/-
  No cell of these rows narrows 'for every input' (looked for: loops, veiled, ifaces, maps, wideKeys, modest, calm, conditions, laid).
  DERIVED. THE GIVEN ROWS OF THIS SEAT. 9 by the template 'for every input the law returns true; each argument reads behind the call as it read before'; 0 by the template 'total and deterministic' (their statements: YtocaddibdiikpaaTotals.lean).
  GIVEN WITH THE SEED: the statements are not yours to turn. If you find one false, say at which input.
  Laid BY PROGRAM, IN A SANDBOX (cutbox-rows.mjs): the forced cells as the released guide's own fill.sh prints them over the translation 93e8e5717615485e… (all of the seat's roots in one cut). By AI agents, Wed Nov 11 2026. No macro, syntax, notation, axiom, sorry.
-/
import Derived.Test.YtocaddibdiikpaaChecked
import GoSem.Claim
import GoSem.ClaimJoined
import GoSem.ClaimMapViews
import Derived.JoinedTies
import Derived.KernelRfl
namespace Go.Proofs.Ytocaddibdiikpaa
/- THE CELL 'sum', in the pinned program and in every row, IS THE sha256 OF THE DUMP (.gsa) THAT YtocaddibdiikpaaProg.lean LOADS. Nothing in Lean hashes anything: it is a label: what it is worth is what the hold of that sum in a sandbox is worth. -/
noncomputable def Try.pinned : Pinned := { name := "ytocaddibdiikpaa", sum := "93e8e5717615485ee1d079a40db7063139ad18d676e6fd1fe205b21ceb9d67a9", checked := Try.checked }
namespace Rows
def none {H : Type} : Left H := { results := [], args := [] }

/-- 'laws.FnStepNestBroken': WHATEVER THE INPUT: true; the input reads as it did. -/
def fnStepNestBrokenSpec : ChangeSpec := { name := "fnStepNestBroken", fn := fun _ => fun
  | [d] => { results := [.lit (.bool true)], args := [d] }
  | _ => none }
def fnStepNestBrokenRow : OpenClaim := { program := "ytocaddibdiikpaa", sum := "93e8e5717615485ee1d079a40db7063139ad18d676e6fd1fe205b21ceb9d67a9", func := "loop.example/connectionpool/laws.FnStepNestBroken", spec := "fnStepNestBroken", apart := false }
def FnStepNestBrokenSaid : Prop := fnStepNestBrokenRow.holds Try.pinned (OpenSpec.ofChange fnStepNestBrokenSpec)

/-- ITS FALSE NEIGHBOUR: 'it returns false'. Refute it at one input. -/
def fnStepNestBrokenWrong : ChangeSpec := { name := "fnStepNestBroken", fn := fun _ => fun
  | [d] => { results := [.lit (.bool false)], args := [d] }
  | _ => none }
def FnStepNestBrokenWrongFalsely : Prop := fnStepNestBrokenRow.holds Try.pinned (OpenSpec.ofChange fnStepNestBrokenWrong)

/-- 'laws.FnRunNest': WHATEVER THE INPUT: true; the input reads as it did. -/
def fnRunNestSpec : ChangeSpec := { name := "fnRunNest", fn := fun _ => fun
  | [d] => { results := [.lit (.bool true)], args := [d] }
  | _ => none }
def fnRunNestRow : OpenClaim := { program := "ytocaddibdiikpaa", sum := "93e8e5717615485ee1d079a40db7063139ad18d676e6fd1fe205b21ceb9d67a9", func := "loop.example/connectionpool/laws.FnRunNest", spec := "fnRunNest", apart := false }
def FnRunNestSaid : Prop := fnRunNestRow.holds Try.pinned (OpenSpec.ofChange fnRunNestSpec)

/-- ITS FALSE NEIGHBOUR: 'it returns false'. Refute it at one input. -/
def fnRunNestWrong : ChangeSpec := { name := "fnRunNest", fn := fun _ => fun
  | [d] => { results := [.lit (.bool false)], args := [d] }
  | _ => none }
def FnRunNestWrongFalsely : Prop := fnRunNestRow.holds Try.pinned (OpenSpec.ofChange fnRunNestWrong)

/-- 'laws.FnRunNestBound': WHATEVER THE INPUT: true; the input reads as it did. -/
def fnRunNestBoundSpec : ChangeSpec := { name := "fnRunNestBound", fn := fun _ => fun
  | [d] => { results := [.lit (.bool true)], args := [d] }
  | _ => none }
def fnRunNestBoundRow : OpenClaim := { program := "ytocaddibdiikpaa", sum := "93e8e5717615485ee1d079a40db7063139ad18d676e6fd1fe205b21ceb9d67a9", func := "loop.example/connectionpool/laws.FnRunNestBound", spec := "fnRunNestBound", apart := false }
def FnRunNestBoundSaid : Prop := fnRunNestBoundRow.holds Try.pinned (OpenSpec.ofChange fnRunNestBoundSpec)

/-- ITS FALSE NEIGHBOUR: 'it returns false'. Refute it at one input. -/
def fnRunNestBoundWrong : ChangeSpec := { name := "fnRunNestBound", fn := fun _ => fun
  | [d] => { results := [.lit (.bool false)], args := [d] }
  | _ => none }
def FnRunNestBoundWrongFalsely : Prop := fnRunNestBoundRow.holds Try.pinned (OpenSpec.ofChange fnRunNestBoundWrong)

/-- 'laws.FnKeptWork': WHATEVER THE INPUT: true; the input reads as it did. -/
def fnKeptWorkSpec : ChangeSpec := { name := "fnKeptWork", fn := fun _ => fun
  | [d] => { results := [.lit (.bool true)], args := [d] }
  | _ => none }
def fnKeptWorkRow : OpenClaim := { program := "ytocaddibdiikpaa", sum := "93e8e5717615485ee1d079a40db7063139ad18d676e6fd1fe205b21ceb9d67a9", func := "loop.example/connectionpool/laws.FnKeptWork", spec := "fnKeptWork", apart := false }
def FnKeptWorkSaid : Prop := fnKeptWorkRow.holds Try.pinned (OpenSpec.ofChange fnKeptWorkSpec)

/-- ITS FALSE NEIGHBOUR: 'it returns false'. Refute it at one input. -/
def fnKeptWorkWrong : ChangeSpec := { name := "fnKeptWork", fn := fun _ => fun
  | [d] => { results := [.lit (.bool false)], args := [d] }
  | _ => none }
def FnKeptWorkWrongFalsely : Prop := fnKeptWorkRow.holds Try.pinned (OpenSpec.ofChange fnKeptWorkWrong)

/-- 'laws.FnKeptWorkMore': WHATEVER THE INPUT: true; the input reads as it did. -/
def fnKeptWorkMoreSpec : ChangeSpec := { name := "fnKeptWorkMore", fn := fun _ => fun
  | [d] => { results := [.lit (.bool true)], args := [d] }
  | _ => none }
def fnKeptWorkMoreRow : OpenClaim := { program := "ytocaddibdiikpaa", sum := "93e8e5717615485ee1d079a40db7063139ad18d676e6fd1fe205b21ceb9d67a9", func := "loop.example/connectionpool/laws.FnKeptWorkMore", spec := "fnKeptWorkMore", apart := false }
def FnKeptWorkMoreSaid : Prop := fnKeptWorkMoreRow.holds Try.pinned (OpenSpec.ofChange fnKeptWorkMoreSpec)

/-- ITS FALSE NEIGHBOUR: 'it returns false'. Refute it at one input. -/
def fnKeptWorkMoreWrong : ChangeSpec := { name := "fnKeptWorkMore", fn := fun _ => fun
  | [d] => { results := [.lit (.bool false)], args := [d] }
  | _ => none }
def FnKeptWorkMoreWrongFalsely : Prop := fnKeptWorkMoreRow.holds Try.pinned (OpenSpec.ofChange fnKeptWorkMoreWrong)

/-- 'laws.FnRunNestWork': WHATEVER THE INPUT: true; the input reads as it did. -/
def fnRunNestWorkSpec : ChangeSpec := { name := "fnRunNestWork", fn := fun _ => fun
  | [d] => { results := [.lit (.bool true)], args := [d] }
  | _ => none }
def fnRunNestWorkRow : OpenClaim := { program := "ytocaddibdiikpaa", sum := "93e8e5717615485ee1d079a40db7063139ad18d676e6fd1fe205b21ceb9d67a9", func := "loop.example/connectionpool/laws.FnRunNestWork", spec := "fnRunNestWork", apart := false }
def FnRunNestWorkSaid : Prop := fnRunNestWorkRow.holds Try.pinned (OpenSpec.ofChange fnRunNestWorkSpec)

/-- ITS FALSE NEIGHBOUR: 'it returns false'. Refute it at one input. -/
def fnRunNestWorkWrong : ChangeSpec := { name := "fnRunNestWork", fn := fun _ => fun
  | [d] => { results := [.lit (.bool false)], args := [d] }
  | _ => none }
def FnRunNestWorkWrongFalsely : Prop := fnRunNestWorkRow.holds Try.pinned (OpenSpec.ofChange fnRunNestWorkWrong)

/-- 'laws.FnKeptWorkSimple': WHATEVER THE INPUT: true; the input reads as it did. -/
def fnKeptWorkSimpleSpec : ChangeSpec := { name := "fnKeptWorkSimple", fn := fun _ => fun
  | [d] => { results := [.lit (.bool true)], args := [d] }
  | _ => none }
def fnKeptWorkSimpleRow : OpenClaim := { program := "ytocaddibdiikpaa", sum := "93e8e5717615485ee1d079a40db7063139ad18d676e6fd1fe205b21ceb9d67a9", func := "loop.example/connectionpool/laws.FnKeptWorkSimple", spec := "fnKeptWorkSimple", apart := false }
def FnKeptWorkSimpleSaid : Prop := fnKeptWorkSimpleRow.holds Try.pinned (OpenSpec.ofChange fnKeptWorkSimpleSpec)

/-- ITS FALSE NEIGHBOUR: 'it returns false'. Refute it at one input. -/
def fnKeptWorkSimpleWrong : ChangeSpec := { name := "fnKeptWorkSimple", fn := fun _ => fun
  | [d] => { results := [.lit (.bool false)], args := [d] }
  | _ => none }
def FnKeptWorkSimpleWrongFalsely : Prop := fnKeptWorkSimpleRow.holds Try.pinned (OpenSpec.ofChange fnKeptWorkSimpleWrong)

/-- 'laws.FnCleanUp': WHATEVER THE INPUT: true; the input reads as it did. -/
def fnCleanUpSpec : ChangeSpec := { name := "fnCleanUp", fn := fun _ => fun
  | [d] => { results := [.lit (.bool true)], args := [d] }
  | _ => none }
def fnCleanUpRow : OpenClaim := { program := "ytocaddibdiikpaa", sum := "93e8e5717615485ee1d079a40db7063139ad18d676e6fd1fe205b21ceb9d67a9", func := "loop.example/connectionpool/laws.FnCleanUp", spec := "fnCleanUp", apart := false }
def FnCleanUpSaid : Prop := fnCleanUpRow.holds Try.pinned (OpenSpec.ofChange fnCleanUpSpec)

/-- ITS FALSE NEIGHBOUR: 'it returns false'. Refute it at one input. -/
def fnCleanUpWrong : ChangeSpec := { name := "fnCleanUp", fn := fun _ => fun
  | [d] => { results := [.lit (.bool false)], args := [d] }
  | _ => none }
def FnCleanUpWrongFalsely : Prop := fnCleanUpRow.holds Try.pinned (OpenSpec.ofChange fnCleanUpWrong)

/-- 'laws.FnCleanUpKinds': WHATEVER THE INPUT: true; the input reads as it did. -/
def fnCleanUpKindsSpec : ChangeSpec := { name := "fnCleanUpKinds", fn := fun _ => fun
  | [d] => { results := [.lit (.bool true)], args := [d] }
  | _ => none }
def fnCleanUpKindsRow : OpenClaim := { program := "ytocaddibdiikpaa", sum := "93e8e5717615485ee1d079a40db7063139ad18d676e6fd1fe205b21ceb9d67a9", func := "loop.example/connectionpool/laws.FnCleanUpKinds", spec := "fnCleanUpKinds", apart := false }
def FnCleanUpKindsSaid : Prop := fnCleanUpKindsRow.holds Try.pinned (OpenSpec.ofChange fnCleanUpKindsSpec)

/-- ITS FALSE NEIGHBOUR: 'it returns false'. Refute it at one input. -/
def fnCleanUpKindsWrong : ChangeSpec := { name := "fnCleanUpKinds", fn := fun _ => fun
  | [d] => { results := [.lit (.bool false)], args := [d] }
  | _ => none }
def FnCleanUpKindsWrongFalsely : Prop := fnCleanUpKindsRow.holds Try.pinned (OpenSpec.ofChange fnCleanUpKindsWrong)

/- THE SECOND FORM. 'bulk': how many values and letters a reading holds, each counted each time it is reached (what is shared counts as often as it is met; a slice's spare places count too). A statement '..UptoSaid' is the law's where the arguments, and the package variables that the reading takes, are together of bulk at most 1048576: NARROWER than '..Said'. Prove '..Said' where nothing that the law and all that it calls make is longer than what came in: it says more and counts as full. Else prove '..UptoSaid'. A law counts once. -/
mutual
def uptoBulk {H : Type} : DataW H → Nat
  | .lit (.string bytes) => bytes.length + 1
  | .lit _ => 1
  | .nil => 1
  | .ptr d => uptoBulk d + 1
  | .slice elems spare => uptoBulkAll elems + uptoBulkAll spare + 1
  | .agg parts => uptoBulkAll parts + 1
  | .iface _ d => uptoBulk d + 1
  | .map entries => uptoBulkEntries entries + 1
  | .held _ => 1
def uptoBulkAll {H : Type} : List (DataW H) → Nat
  | [] => 0
  | d :: r => uptoBulk d + uptoBulkAll r
def uptoBulkEntries {H : Type} : List (Lit × DataW H) → Nat
  | [] => 0
  | x :: r => uptoBulkEntry x + uptoBulkEntries r
def uptoBulkEntry {H : Type} : Lit × DataW H → Nat
  | (.string bytes, d) => bytes.length + uptoBulk d + 1
  | (_, d) => uptoBulk d + 1
 end
def uptoSmall : (H : Type) → List (DataW H) → Bool := fun _ ds => decide (uptoBulkAll ds ≤ 1048576)
def OpenSpec.upto (s : _root_.Go.ChangeSpec) : _root_.Go.OpenSpec := { _root_.Go.OpenSpec.ofChange s with cond := some uptoSmall }

/-- 'laws.FnStepNestBroken', WHERE WHAT IT READS IS OF BULK AT MOST 1048576: true; the input reads as it did. -/
def fnStepNestBrokenUptoRow : OpenClaim := { program := "ytocaddibdiikpaa", sum := "93e8e5717615485ee1d079a40db7063139ad18d676e6fd1fe205b21ceb9d67a9", func := "loop.example/connectionpool/laws.FnStepNestBroken", spec := "fnStepNestBroken", apart := false, narrowed := true }
def FnStepNestBrokenUptoSaid : Prop := fnStepNestBrokenUptoRow.holds Try.pinned (OpenSpec.upto fnStepNestBrokenSpec)

/-- 'laws.FnRunNest', WHERE WHAT IT READS IS OF BULK AT MOST 1048576: true; the input reads as it did. -/
def fnRunNestUptoRow : OpenClaim := { program := "ytocaddibdiikpaa", sum := "93e8e5717615485ee1d079a40db7063139ad18d676e6fd1fe205b21ceb9d67a9", func := "loop.example/connectionpool/laws.FnRunNest", spec := "fnRunNest", apart := false, narrowed := true }
def FnRunNestUptoSaid : Prop := fnRunNestUptoRow.holds Try.pinned (OpenSpec.upto fnRunNestSpec)

/-- 'laws.FnRunNestBound', WHERE WHAT IT READS IS OF BULK AT MOST 1048576: true; the input reads as it did. -/
def fnRunNestBoundUptoRow : OpenClaim := { program := "ytocaddibdiikpaa", sum := "93e8e5717615485ee1d079a40db7063139ad18d676e6fd1fe205b21ceb9d67a9", func := "loop.example/connectionpool/laws.FnRunNestBound", spec := "fnRunNestBound", apart := false, narrowed := true }
def FnRunNestBoundUptoSaid : Prop := fnRunNestBoundUptoRow.holds Try.pinned (OpenSpec.upto fnRunNestBoundSpec)

/-- 'laws.FnKeptWork', WHERE WHAT IT READS IS OF BULK AT MOST 1048576: true; the input reads as it did. -/
def fnKeptWorkUptoRow : OpenClaim := { program := "ytocaddibdiikpaa", sum := "93e8e5717615485ee1d079a40db7063139ad18d676e6fd1fe205b21ceb9d67a9", func := "loop.example/connectionpool/laws.FnKeptWork", spec := "fnKeptWork", apart := false, narrowed := true }
def FnKeptWorkUptoSaid : Prop := fnKeptWorkUptoRow.holds Try.pinned (OpenSpec.upto fnKeptWorkSpec)

/-- 'laws.FnKeptWorkMore', WHERE WHAT IT READS IS OF BULK AT MOST 1048576: true; the input reads as it did. -/
def fnKeptWorkMoreUptoRow : OpenClaim := { program := "ytocaddibdiikpaa", sum := "93e8e5717615485ee1d079a40db7063139ad18d676e6fd1fe205b21ceb9d67a9", func := "loop.example/connectionpool/laws.FnKeptWorkMore", spec := "fnKeptWorkMore", apart := false, narrowed := true }
def FnKeptWorkMoreUptoSaid : Prop := fnKeptWorkMoreUptoRow.holds Try.pinned (OpenSpec.upto fnKeptWorkMoreSpec)

/-- 'laws.FnRunNestWork', WHERE WHAT IT READS IS OF BULK AT MOST 1048576: true; the input reads as it did. -/
def fnRunNestWorkUptoRow : OpenClaim := { program := "ytocaddibdiikpaa", sum := "93e8e5717615485ee1d079a40db7063139ad18d676e6fd1fe205b21ceb9d67a9", func := "loop.example/connectionpool/laws.FnRunNestWork", spec := "fnRunNestWork", apart := false, narrowed := true }
def FnRunNestWorkUptoSaid : Prop := fnRunNestWorkUptoRow.holds Try.pinned (OpenSpec.upto fnRunNestWorkSpec)

/-- 'laws.FnKeptWorkSimple', WHERE WHAT IT READS IS OF BULK AT MOST 1048576: true; the input reads as it did. -/
def fnKeptWorkSimpleUptoRow : OpenClaim := { program := "ytocaddibdiikpaa", sum := "93e8e5717615485ee1d079a40db7063139ad18d676e6fd1fe205b21ceb9d67a9", func := "loop.example/connectionpool/laws.FnKeptWorkSimple", spec := "fnKeptWorkSimple", apart := false, narrowed := true }
def FnKeptWorkSimpleUptoSaid : Prop := fnKeptWorkSimpleUptoRow.holds Try.pinned (OpenSpec.upto fnKeptWorkSimpleSpec)

/-- 'laws.FnCleanUp', WHERE WHAT IT READS IS OF BULK AT MOST 1048576: true; the input reads as it did. -/
def fnCleanUpUptoRow : OpenClaim := { program := "ytocaddibdiikpaa", sum := "93e8e5717615485ee1d079a40db7063139ad18d676e6fd1fe205b21ceb9d67a9", func := "loop.example/connectionpool/laws.FnCleanUp", spec := "fnCleanUp", apart := false, narrowed := true }
def FnCleanUpUptoSaid : Prop := fnCleanUpUptoRow.holds Try.pinned (OpenSpec.upto fnCleanUpSpec)

/-- 'laws.FnCleanUpKinds', WHERE WHAT IT READS IS OF BULK AT MOST 1048576: true; the input reads as it did. -/
def fnCleanUpKindsUptoRow : OpenClaim := { program := "ytocaddibdiikpaa", sum := "93e8e5717615485ee1d079a40db7063139ad18d676e6fd1fe205b21ceb9d67a9", func := "loop.example/connectionpool/laws.FnCleanUpKinds", spec := "fnCleanUpKinds", apart := false, narrowed := true }
def FnCleanUpKindsUptoSaid : Prop := fnCleanUpKindsUptoRow.holds Try.pinned (OpenSpec.upto fnCleanUpKindsSpec)

end Rows
end Go.Proofs.Ytocaddibdiikpaa

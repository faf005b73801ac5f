/-
  No cell of these rows narrows 'for every input' (looked for: loops, veiled, ifaces, maps, wideKeys, modest, calm, conditions, laid).
  DERIVED. THE GIVEN ROWS OF THIS SEAT. 8 by the template 'for every input the law returns true; each argument reads behind the call as it read before'; 0 by the template 'total and deterministic' (their statements: YtiiieollemhjmabTotals.lean).
  GIVEN WITH THE SEED: the statements are not yours to turn. If you find one false, say at which input.
  Laid BY PROGRAM, IN A SANDBOX (cutbox-rows.mjs): the forced cells as the released guide's own fill.sh prints them over the translation 26484a9dfde9d19c… (all of the seat's roots in one cut). By AI agents, Wed Nov 11 2026. No macro, syntax, notation, axiom, sorry.
-/
import Derived.Test.YtiiieollemhjmabChecked
import GoSem.Claim
import GoSem.ClaimJoined
import GoSem.ClaimMapViews
import Derived.JoinedTies
import Derived.KernelRfl
namespace Go.Proofs.Ytiiieollemhjmab
/- THE CELL 'sum', in the pinned program and in every row, IS THE sha256 OF THE DUMP (.gsa) THAT YtiiieollemhjmabProg.lean LOADS. Nothing in Lean hashes anything: it is a label: what it is worth is what the hold of that sum in a sandbox is worth. -/
noncomputable def Try.pinned : Pinned := { name := "ytiiieollemhjmab", sum := "26484a9dfde9d19c4b30f0f6957716abdd58a53728e0170c23cda6e6946df3bf", checked := Try.checked }
namespace Rows
def none {H : Type} : Left H := { results := [], args := [] }

/-- 'laws.FnBinTop': WHATEVER THE INPUT: true; the input reads as it did. -/
def fnBinTopSpec : ChangeSpec := { name := "fnBinTop", fn := fun _ => fun
  | [d] => { results := [.lit (.bool true)], args := [d] }
  | _ => none }
def fnBinTopRow : OpenClaim := { program := "ytiiieollemhjmab", sum := "26484a9dfde9d19c4b30f0f6957716abdd58a53728e0170c23cda6e6946df3bf", func := "loop.example/connectionpool/laws.FnBinTop", spec := "fnBinTop", apart := false }
def FnBinTopSaid : Prop := fnBinTopRow.holds Try.pinned (OpenSpec.ofChange fnBinTopSpec)

/-- ITS FALSE NEIGHBOUR: 'it returns false'. Refute it at one input. -/
def fnBinTopWrong : ChangeSpec := { name := "fnBinTop", fn := fun _ => fun
  | [d] => { results := [.lit (.bool false)], args := [d] }
  | _ => none }
def FnBinTopWrongFalsely : Prop := fnBinTopRow.holds Try.pinned (OpenSpec.ofChange fnBinTopWrong)

/-- 'laws.FnValidCounts': WHATEVER THE INPUT: true; the input reads as it did. -/
def fnValidCountsSpec : ChangeSpec := { name := "fnValidCounts", fn := fun _ => fun
  | [d] => { results := [.lit (.bool true)], args := [d] }
  | _ => none }
def fnValidCountsRow : OpenClaim := { program := "ytiiieollemhjmab", sum := "26484a9dfde9d19c4b30f0f6957716abdd58a53728e0170c23cda6e6946df3bf", func := "loop.example/connectionpool/laws.FnValidCounts", spec := "fnValidCounts", apart := false }
def FnValidCountsSaid : Prop := fnValidCountsRow.holds Try.pinned (OpenSpec.ofChange fnValidCountsSpec)

/-- ITS FALSE NEIGHBOUR: 'it returns false'. Refute it at one input. -/
def fnValidCountsWrong : ChangeSpec := { name := "fnValidCounts", fn := fun _ => fun
  | [d] => { results := [.lit (.bool false)], args := [d] }
  | _ => none }
def FnValidCountsWrongFalsely : Prop := fnValidCountsRow.holds Try.pinned (OpenSpec.ofChange fnValidCountsWrong)

/-- 'laws.FnCountWaits': WHATEVER THE INPUT: true; the input reads as it did. -/
def fnCountWaitsSpec : ChangeSpec := { name := "fnCountWaits", fn := fun _ => fun
  | [d] => { results := [.lit (.bool true)], args := [d] }
  | _ => none }
def fnCountWaitsRow : OpenClaim := { program := "ytiiieollemhjmab", sum := "26484a9dfde9d19c4b30f0f6957716abdd58a53728e0170c23cda6e6946df3bf", func := "loop.example/connectionpool/laws.FnCountWaits", spec := "fnCountWaits", apart := false }
def FnCountWaitsSaid : Prop := fnCountWaitsRow.holds Try.pinned (OpenSpec.ofChange fnCountWaitsSpec)

/-- ITS FALSE NEIGHBOUR: 'it returns false'. Refute it at one input. -/
def fnCountWaitsWrong : ChangeSpec := { name := "fnCountWaits", fn := fun _ => fun
  | [d] => { results := [.lit (.bool false)], args := [d] }
  | _ => none }
def FnCountWaitsWrongFalsely : Prop := fnCountWaitsRow.holds Try.pinned (OpenSpec.ofChange fnCountWaitsWrong)

/-- 'laws.FnCountWaitsParts': WHATEVER THE INPUT: true; the input reads as it did. -/
def fnCountWaitsPartsSpec : ChangeSpec := { name := "fnCountWaitsParts", fn := fun _ => fun
  | [d] => { results := [.lit (.bool true)], args := [d] }
  | _ => none }
def fnCountWaitsPartsRow : OpenClaim := { program := "ytiiieollemhjmab", sum := "26484a9dfde9d19c4b30f0f6957716abdd58a53728e0170c23cda6e6946df3bf", func := "loop.example/connectionpool/laws.FnCountWaitsParts", spec := "fnCountWaitsParts", apart := false }
def FnCountWaitsPartsSaid : Prop := fnCountWaitsPartsRow.holds Try.pinned (OpenSpec.ofChange fnCountWaitsPartsSpec)

/-- ITS FALSE NEIGHBOUR: 'it returns false'. Refute it at one input. -/
def fnCountWaitsPartsWrong : ChangeSpec := { name := "fnCountWaitsParts", fn := fun _ => fun
  | [d] => { results := [.lit (.bool false)], args := [d] }
  | _ => none }
def FnCountWaitsPartsWrongFalsely : Prop := fnCountWaitsPartsRow.holds Try.pinned (OpenSpec.ofChange fnCountWaitsPartsWrong)

/-- 'laws.FnAddCounts': WHATEVER THE INPUT: true; the input reads as it did. -/
def fnAddCountsSpec : ChangeSpec := { name := "fnAddCounts", fn := fun _ => fun
  | [d] => { results := [.lit (.bool true)], args := [d] }
  | _ => none }
def fnAddCountsRow : OpenClaim := { program := "ytiiieollemhjmab", sum := "26484a9dfde9d19c4b30f0f6957716abdd58a53728e0170c23cda6e6946df3bf", func := "loop.example/connectionpool/laws.FnAddCounts", spec := "fnAddCounts", apart := false }
def FnAddCountsSaid : Prop := fnAddCountsRow.holds Try.pinned (OpenSpec.ofChange fnAddCountsSpec)

/-- ITS FALSE NEIGHBOUR: 'it returns false'. Refute it at one input. -/
def fnAddCountsWrong : ChangeSpec := { name := "fnAddCounts", fn := fun _ => fun
  | [d] => { results := [.lit (.bool false)], args := [d] }
  | _ => none }
def FnAddCountsWrongFalsely : Prop := fnAddCountsRow.holds Try.pinned (OpenSpec.ofChange fnAddCountsWrong)

/-- 'laws.FnWaitUnder': WHATEVER THE INPUT: true; the input reads as it did. -/
def fnWaitUnderSpec : ChangeSpec := { name := "fnWaitUnder", fn := fun _ => fun
  | [d] => { results := [.lit (.bool true)], args := [d] }
  | _ => none }
def fnWaitUnderRow : OpenClaim := { program := "ytiiieollemhjmab", sum := "26484a9dfde9d19c4b30f0f6957716abdd58a53728e0170c23cda6e6946df3bf", func := "loop.example/connectionpool/laws.FnWaitUnder", spec := "fnWaitUnder", apart := false }
def FnWaitUnderSaid : Prop := fnWaitUnderRow.holds Try.pinned (OpenSpec.ofChange fnWaitUnderSpec)

/-- ITS FALSE NEIGHBOUR: 'it returns false'. Refute it at one input. -/
def fnWaitUnderWrong : ChangeSpec := { name := "fnWaitUnder", fn := fun _ => fun
  | [d] => { results := [.lit (.bool false)], args := [d] }
  | _ => none }
def FnWaitUnderWrongFalsely : Prop := fnWaitUnderRow.holds Try.pinned (OpenSpec.ofChange fnWaitUnderWrong)

/-- 'laws.FnWaitUnderMore': WHATEVER THE INPUT: true; the input reads as it did. -/
def fnWaitUnderMoreSpec : ChangeSpec := { name := "fnWaitUnderMore", fn := fun _ => fun
  | [d] => { results := [.lit (.bool true)], args := [d] }
  | _ => none }
def fnWaitUnderMoreRow : OpenClaim := { program := "ytiiieollemhjmab", sum := "26484a9dfde9d19c4b30f0f6957716abdd58a53728e0170c23cda6e6946df3bf", func := "loop.example/connectionpool/laws.FnWaitUnderMore", spec := "fnWaitUnderMore", apart := false }
def FnWaitUnderMoreSaid : Prop := fnWaitUnderMoreRow.holds Try.pinned (OpenSpec.ofChange fnWaitUnderMoreSpec)

/-- ITS FALSE NEIGHBOUR: 'it returns false'. Refute it at one input. -/
def fnWaitUnderMoreWrong : ChangeSpec := { name := "fnWaitUnderMore", fn := fun _ => fun
  | [d] => { results := [.lit (.bool false)], args := [d] }
  | _ => none }
def FnWaitUnderMoreWrongFalsely : Prop := fnWaitUnderMoreRow.holds Try.pinned (OpenSpec.ofChange fnWaitUnderMoreWrong)

/-- 'laws.FnWaitUnderAll': WHATEVER THE INPUT: true; the input reads as it did. -/
def fnWaitUnderAllSpec : ChangeSpec := { name := "fnWaitUnderAll", fn := fun _ => fun
  | [d] => { results := [.lit (.bool true)], args := [d] }
  | _ => none }
def fnWaitUnderAllRow : OpenClaim := { program := "ytiiieollemhjmab", sum := "26484a9dfde9d19c4b30f0f6957716abdd58a53728e0170c23cda6e6946df3bf", func := "loop.example/connectionpool/laws.FnWaitUnderAll", spec := "fnWaitUnderAll", apart := false }
def FnWaitUnderAllSaid : Prop := fnWaitUnderAllRow.holds Try.pinned (OpenSpec.ofChange fnWaitUnderAllSpec)

/-- ITS FALSE NEIGHBOUR: 'it returns false'. Refute it at one input. -/
def fnWaitUnderAllWrong : ChangeSpec := { name := "fnWaitUnderAll", fn := fun _ => fun
  | [d] => { results := [.lit (.bool false)], args := [d] }
  | _ => none }
def FnWaitUnderAllWrongFalsely : Prop := fnWaitUnderAllRow.holds Try.pinned (OpenSpec.ofChange fnWaitUnderAllWrong)

/- THE SECOND FORM. 'bulk': how many values and letters a reading holds, each counted each time it is reached (what is shared counts as often as it is met; a slice's spare places count too). A statement '..UptoSaid' is the law's where the arguments, and the package variables that the reading takes, are together of bulk at most 1048576: NARROWER than '..Said'. Prove '..Said' where nothing that the law and all that it calls make is longer than what came in: it says more and counts as full. Else prove '..UptoSaid'. A law counts once. -/
mutual
def uptoBulk {H : Type} : DataW H → Nat
  | .lit (.string bytes) => bytes.length + 1
  | .lit _ => 1
  | .nil => 1
  | .ptr d => uptoBulk d + 1
  | .slice elems spare => uptoBulkAll elems + uptoBulkAll spare + 1
  | .agg parts => uptoBulkAll parts + 1
  | .iface _ d => uptoBulk d + 1
  | .map entries => uptoBulkEntries entries + 1
  | .held _ => 1
def uptoBulkAll {H : Type} : List (DataW H) → Nat
  | [] => 0
  | d :: r => uptoBulk d + uptoBulkAll r
def uptoBulkEntries {H : Type} : List (Lit × DataW H) → Nat
  | [] => 0
  | x :: r => uptoBulkEntry x + uptoBulkEntries r
def uptoBulkEntry {H : Type} : Lit × DataW H → Nat
  | (.string bytes, d) => bytes.length + uptoBulk d + 1
  | (_, d) => uptoBulk d + 1
 end
def uptoSmall : (H : Type) → List (DataW H) → Bool := fun _ ds => decide (uptoBulkAll ds ≤ 1048576)
def OpenSpec.upto (s : _root_.Go.ChangeSpec) : _root_.Go.OpenSpec := { _root_.Go.OpenSpec.ofChange s with cond := some uptoSmall }

/-- 'laws.FnBinTop', WHERE WHAT IT READS IS OF BULK AT MOST 1048576: true; the input reads as it did. -/
def fnBinTopUptoRow : OpenClaim := { program := "ytiiieollemhjmab", sum := "26484a9dfde9d19c4b30f0f6957716abdd58a53728e0170c23cda6e6946df3bf", func := "loop.example/connectionpool/laws.FnBinTop", spec := "fnBinTop", apart := false, narrowed := true }
def FnBinTopUptoSaid : Prop := fnBinTopUptoRow.holds Try.pinned (OpenSpec.upto fnBinTopSpec)

/-- 'laws.FnValidCounts', WHERE WHAT IT READS IS OF BULK AT MOST 1048576: true; the input reads as it did. -/
def fnValidCountsUptoRow : OpenClaim := { program := "ytiiieollemhjmab", sum := "26484a9dfde9d19c4b30f0f6957716abdd58a53728e0170c23cda6e6946df3bf", func := "loop.example/connectionpool/laws.FnValidCounts", spec := "fnValidCounts", apart := false, narrowed := true }
def FnValidCountsUptoSaid : Prop := fnValidCountsUptoRow.holds Try.pinned (OpenSpec.upto fnValidCountsSpec)

/-- 'laws.FnCountWaits', WHERE WHAT IT READS IS OF BULK AT MOST 1048576: true; the input reads as it did. -/
def fnCountWaitsUptoRow : OpenClaim := { program := "ytiiieollemhjmab", sum := "26484a9dfde9d19c4b30f0f6957716abdd58a53728e0170c23cda6e6946df3bf", func := "loop.example/connectionpool/laws.FnCountWaits", spec := "fnCountWaits", apart := false, narrowed := true }
def FnCountWaitsUptoSaid : Prop := fnCountWaitsUptoRow.holds Try.pinned (OpenSpec.upto fnCountWaitsSpec)

/-- 'laws.FnCountWaitsParts', WHERE WHAT IT READS IS OF BULK AT MOST 1048576: true; the input reads as it did. -/
def fnCountWaitsPartsUptoRow : OpenClaim := { program := "ytiiieollemhjmab", sum := "26484a9dfde9d19c4b30f0f6957716abdd58a53728e0170c23cda6e6946df3bf", func := "loop.example/connectionpool/laws.FnCountWaitsParts", spec := "fnCountWaitsParts", apart := false, narrowed := true }
def FnCountWaitsPartsUptoSaid : Prop := fnCountWaitsPartsUptoRow.holds Try.pinned (OpenSpec.upto fnCountWaitsPartsSpec)

/-- 'laws.FnAddCounts', WHERE WHAT IT READS IS OF BULK AT MOST 1048576: true; the input reads as it did. -/
def fnAddCountsUptoRow : OpenClaim := { program := "ytiiieollemhjmab", sum := "26484a9dfde9d19c4b30f0f6957716abdd58a53728e0170c23cda6e6946df3bf", func := "loop.example/connectionpool/laws.FnAddCounts", spec := "fnAddCounts", apart := false, narrowed := true }
def FnAddCountsUptoSaid : Prop := fnAddCountsUptoRow.holds Try.pinned (OpenSpec.upto fnAddCountsSpec)

/-- 'laws.FnWaitUnder', WHERE WHAT IT READS IS OF BULK AT MOST 1048576: true; the input reads as it did. -/
def fnWaitUnderUptoRow : OpenClaim := { program := "ytiiieollemhjmab", sum := "26484a9dfde9d19c4b30f0f6957716abdd58a53728e0170c23cda6e6946df3bf", func := "loop.example/connectionpool/laws.FnWaitUnder", spec := "fnWaitUnder", apart := false, narrowed := true }
def FnWaitUnderUptoSaid : Prop := fnWaitUnderUptoRow.holds Try.pinned (OpenSpec.upto fnWaitUnderSpec)

/-- 'laws.FnWaitUnderMore', WHERE WHAT IT READS IS OF BULK AT MOST 1048576: true; the input reads as it did. -/
def fnWaitUnderMoreUptoRow : OpenClaim := { program := "ytiiieollemhjmab", sum := "26484a9dfde9d19c4b30f0f6957716abdd58a53728e0170c23cda6e6946df3bf", func := "loop.example/connectionpool/laws.FnWaitUnderMore", spec := "fnWaitUnderMore", apart := false, narrowed := true }
def FnWaitUnderMoreUptoSaid : Prop := fnWaitUnderMoreUptoRow.holds Try.pinned (OpenSpec.upto fnWaitUnderMoreSpec)

/-- 'laws.FnWaitUnderAll', WHERE WHAT IT READS IS OF BULK AT MOST 1048576: true; the input reads as it did. -/
def fnWaitUnderAllUptoRow : OpenClaim := { program := "ytiiieollemhjmab", sum := "26484a9dfde9d19c4b30f0f6957716abdd58a53728e0170c23cda6e6946df3bf", func := "loop.example/connectionpool/laws.FnWaitUnderAll", spec := "fnWaitUnderAll", apart := false, narrowed := true }
def FnWaitUnderAllUptoSaid : Prop := fnWaitUnderAllUptoRow.holds Try.pinned (OpenSpec.upto fnWaitUnderAllSpec)

end Rows
end Go.Proofs.Ytiiieollemhjmab

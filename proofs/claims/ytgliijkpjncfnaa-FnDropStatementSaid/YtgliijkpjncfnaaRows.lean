/-
  No cell of these rows narrows 'for every input' (looked for: loops, veiled, ifaces, maps, wideKeys, modest, calm, conditions, laid).
  DERIVED. THE GIVEN ROWS OF THIS SEAT. 9 by the template 'for every input the law returns true; each argument reads behind the call as it read before'; 0 by the template 'total and deterministic' (their statements: YtgliijkpjncfnaaTotals.lean).
  GIVEN WITH THE SEED: the statements are not yours to turn. If you find one false, say at which input.
  Laid BY PROGRAM, IN A SANDBOX (cutbox-rows.mjs): the forced cells as the released guide's own fill.sh prints them over the translation c9a254f71dec8ab4… (all of the seat's roots in one cut). By AI agents, Wed Nov 11 2026. No macro, syntax, notation, axiom, sorry.
-/
import Derived.Test.YtgliijkpjncfnaaChecked
import GoSem.Claim
import GoSem.ClaimJoined
import GoSem.ClaimMapViews
import Derived.JoinedTies
import Derived.KernelRfl
namespace Go.Proofs.Ytgliijkpjncfnaa
/- THE CELL 'sum', in the pinned program and in every row, IS THE sha256 OF THE DUMP (.gsa) THAT YtgliijkpjncfnaaProg.lean LOADS. Nothing in Lean hashes anything: it is a label: what it is worth is what the hold of that sum in a sandbox is worth. -/
noncomputable def Try.pinned : Pinned := { name := "ytgliijkpjncfnaa", sum := "c9a254f71dec8ab4f5f81f885293324d9efa16a585dafd0d44dd54bf7aef94a1", checked := Try.checked }
namespace Rows
def none {H : Type} : Left H := { results := [], args := [] }

/-- 'laws.FnExactValidCache': WHATEVER THE INPUT: true; the input reads as it did. -/
def fnExactValidCacheSpec : ChangeSpec := { name := "fnExactValidCache", fn := fun _ => fun
  | [d] => { results := [.lit (.bool true)], args := [d] }
  | _ => none }
def fnExactValidCacheRow : OpenClaim := { program := "ytgliijkpjncfnaa", sum := "c9a254f71dec8ab4f5f81f885293324d9efa16a585dafd0d44dd54bf7aef94a1", func := "loop.example/connectionpool/laws.FnExactValidCache", spec := "fnExactValidCache", apart := false }
def FnExactValidCacheSaid : Prop := fnExactValidCacheRow.holds Try.pinned (OpenSpec.ofChange fnExactValidCacheSpec)

/-- ITS FALSE NEIGHBOUR: 'it returns false'. Refute it at one input. -/
def fnExactValidCacheWrong : ChangeSpec := { name := "fnExactValidCache", fn := fun _ => fun
  | [d] => { results := [.lit (.bool false)], args := [d] }
  | _ => none }
def FnExactValidCacheWrongFalsely : Prop := fnExactValidCacheRow.holds Try.pinned (OpenSpec.ofChange fnExactValidCacheWrong)

/-- 'laws.FnExactUseStatement': WHATEVER THE INPUT: true; the input reads as it did. -/
def fnExactUseStatementSpec : ChangeSpec := { name := "fnExactUseStatement", fn := fun _ => fun
  | [d1, d2] => { results := [.lit (.bool true)], args := [d1, d2] }
  | _ => none }
def fnExactUseStatementRow : OpenClaim := { program := "ytgliijkpjncfnaa", sum := "c9a254f71dec8ab4f5f81f885293324d9efa16a585dafd0d44dd54bf7aef94a1", func := "loop.example/connectionpool/laws.FnExactUseStatement", spec := "fnExactUseStatement", apart := false }
def FnExactUseStatementSaid : Prop := fnExactUseStatementRow.holds Try.pinned (OpenSpec.ofChange fnExactUseStatementSpec)

/-- ITS FALSE NEIGHBOUR: 'it returns false'. Refute it at one input. -/
def fnExactUseStatementWrong : ChangeSpec := { name := "fnExactUseStatement", fn := fun _ => fun
  | [d1, d2] => { results := [.lit (.bool false)], args := [d1, d2] }
  | _ => none }
def FnExactUseStatementWrongFalsely : Prop := fnExactUseStatementRow.holds Try.pinned (OpenSpec.ofChange fnExactUseStatementWrong)

/-- 'laws.FnExactCountPrepares': WHATEVER THE INPUT: true; the input reads as it did. -/
def fnExactCountPreparesSpec : ChangeSpec := { name := "fnExactCountPrepares", fn := fun _ => fun
  | [d1, d2] => { results := [.lit (.bool true)], args := [d1, d2] }
  | _ => none }
def fnExactCountPreparesRow : OpenClaim := { program := "ytgliijkpjncfnaa", sum := "c9a254f71dec8ab4f5f81f885293324d9efa16a585dafd0d44dd54bf7aef94a1", func := "loop.example/connectionpool/laws.FnExactCountPrepares", spec := "fnExactCountPrepares", apart := false }
def FnExactCountPreparesSaid : Prop := fnExactCountPreparesRow.holds Try.pinned (OpenSpec.ofChange fnExactCountPreparesSpec)

/-- ITS FALSE NEIGHBOUR: 'it returns false'. Refute it at one input. -/
def fnExactCountPreparesWrong : ChangeSpec := { name := "fnExactCountPrepares", fn := fun _ => fun
  | [d1, d2] => { results := [.lit (.bool false)], args := [d1, d2] }
  | _ => none }
def FnExactCountPreparesWrongFalsely : Prop := fnExactCountPreparesRow.holds Try.pinned (OpenSpec.ofChange fnExactCountPreparesWrong)

/-- 'laws.FnExactDropStatement': WHATEVER THE INPUT: true; the input reads as it did. -/
def fnExactDropStatementSpec : ChangeSpec := { name := "fnExactDropStatement", fn := fun _ => fun
  | [d1, d2] => { results := [.lit (.bool true)], args := [d1, d2] }
  | _ => none }
def fnExactDropStatementRow : OpenClaim := { program := "ytgliijkpjncfnaa", sum := "c9a254f71dec8ab4f5f81f885293324d9efa16a585dafd0d44dd54bf7aef94a1", func := "loop.example/connectionpool/laws.FnExactDropStatement", spec := "fnExactDropStatement", apart := false }
def FnExactDropStatementSaid : Prop := fnExactDropStatementRow.holds Try.pinned (OpenSpec.ofChange fnExactDropStatementSpec)

/-- ITS FALSE NEIGHBOUR: 'it returns false'. Refute it at one input. -/
def fnExactDropStatementWrong : ChangeSpec := { name := "fnExactDropStatement", fn := fun _ => fun
  | [d1, d2] => { results := [.lit (.bool false)], args := [d1, d2] }
  | _ => none }
def FnExactDropStatementWrongFalsely : Prop := fnExactDropStatementRow.holds Try.pinned (OpenSpec.ofChange fnExactDropStatementWrong)

/-- 'laws.FnExactBestCache': WHATEVER THE INPUT: true; the input reads as it did. -/
def fnExactBestCacheSpec : ChangeSpec := { name := "fnExactBestCache", fn := fun _ => fun
  | [d1, d2] => { results := [.lit (.bool true)], args := [d1, d2] }
  | _ => none }
def fnExactBestCacheRow : OpenClaim := { program := "ytgliijkpjncfnaa", sum := "c9a254f71dec8ab4f5f81f885293324d9efa16a585dafd0d44dd54bf7aef94a1", func := "loop.example/connectionpool/laws.FnExactBestCache", spec := "fnExactBestCache", apart := false }
def FnExactBestCacheSaid : Prop := fnExactBestCacheRow.holds Try.pinned (OpenSpec.ofChange fnExactBestCacheSpec)

/-- ITS FALSE NEIGHBOUR: 'it returns false'. Refute it at one input. -/
def fnExactBestCacheWrong : ChangeSpec := { name := "fnExactBestCache", fn := fun _ => fun
  | [d1, d2] => { results := [.lit (.bool false)], args := [d1, d2] }
  | _ => none }
def FnExactBestCacheWrongFalsely : Prop := fnExactBestCacheRow.holds Try.pinned (OpenSpec.ofChange fnExactBestCacheWrong)

/-- 'laws.FnValidCache': WHATEVER THE INPUT: true; the input reads as it did. -/
def fnValidCacheSpec : ChangeSpec := { name := "fnValidCache", fn := fun _ => fun
  | [d] => { results := [.lit (.bool true)], args := [d] }
  | _ => none }
def fnValidCacheRow : OpenClaim := { program := "ytgliijkpjncfnaa", sum := "c9a254f71dec8ab4f5f81f885293324d9efa16a585dafd0d44dd54bf7aef94a1", func := "loop.example/connectionpool/laws.FnValidCache", spec := "fnValidCache", apart := false }
def FnValidCacheSaid : Prop := fnValidCacheRow.holds Try.pinned (OpenSpec.ofChange fnValidCacheSpec)

/-- ITS FALSE NEIGHBOUR: 'it returns false'. Refute it at one input. -/
def fnValidCacheWrong : ChangeSpec := { name := "fnValidCache", fn := fun _ => fun
  | [d] => { results := [.lit (.bool false)], args := [d] }
  | _ => none }
def FnValidCacheWrongFalsely : Prop := fnValidCacheRow.holds Try.pinned (OpenSpec.ofChange fnValidCacheWrong)

/-- 'laws.FnUseStatement': WHATEVER THE INPUT: true; the input reads as it did. -/
def fnUseStatementSpec : ChangeSpec := { name := "fnUseStatement", fn := fun _ => fun
  | [d] => { results := [.lit (.bool true)], args := [d] }
  | _ => none }
def fnUseStatementRow : OpenClaim := { program := "ytgliijkpjncfnaa", sum := "c9a254f71dec8ab4f5f81f885293324d9efa16a585dafd0d44dd54bf7aef94a1", func := "loop.example/connectionpool/laws.FnUseStatement", spec := "fnUseStatement", apart := false }
def FnUseStatementSaid : Prop := fnUseStatementRow.holds Try.pinned (OpenSpec.ofChange fnUseStatementSpec)

/-- ITS FALSE NEIGHBOUR: 'it returns false'. Refute it at one input. -/
def fnUseStatementWrong : ChangeSpec := { name := "fnUseStatement", fn := fun _ => fun
  | [d] => { results := [.lit (.bool false)], args := [d] }
  | _ => none }
def FnUseStatementWrongFalsely : Prop := fnUseStatementRow.holds Try.pinned (OpenSpec.ofChange fnUseStatementWrong)

/-- 'laws.FnUseStatementTwice': WHATEVER THE INPUT: true; the input reads as it did. -/
def fnUseStatementTwiceSpec : ChangeSpec := { name := "fnUseStatementTwice", fn := fun _ => fun
  | [d] => { results := [.lit (.bool true)], args := [d] }
  | _ => none }
def fnUseStatementTwiceRow : OpenClaim := { program := "ytgliijkpjncfnaa", sum := "c9a254f71dec8ab4f5f81f885293324d9efa16a585dafd0d44dd54bf7aef94a1", func := "loop.example/connectionpool/laws.FnUseStatementTwice", spec := "fnUseStatementTwice", apart := false }
def FnUseStatementTwiceSaid : Prop := fnUseStatementTwiceRow.holds Try.pinned (OpenSpec.ofChange fnUseStatementTwiceSpec)

/-- ITS FALSE NEIGHBOUR: 'it returns false'. Refute it at one input. -/
def fnUseStatementTwiceWrong : ChangeSpec := { name := "fnUseStatementTwice", fn := fun _ => fun
  | [d] => { results := [.lit (.bool false)], args := [d] }
  | _ => none }
def FnUseStatementTwiceWrongFalsely : Prop := fnUseStatementTwiceRow.holds Try.pinned (OpenSpec.ofChange fnUseStatementTwiceWrong)

/-- 'laws.FnDropStatement': WHATEVER THE INPUT: true; the input reads as it did. -/
def fnDropStatementSpec : ChangeSpec := { name := "fnDropStatement", fn := fun _ => fun
  | [d] => { results := [.lit (.bool true)], args := [d] }
  | _ => none }
def fnDropStatementRow : OpenClaim := { program := "ytgliijkpjncfnaa", sum := "c9a254f71dec8ab4f5f81f885293324d9efa16a585dafd0d44dd54bf7aef94a1", func := "loop.example/connectionpool/laws.FnDropStatement", spec := "fnDropStatement", apart := false }
def FnDropStatementSaid : Prop := fnDropStatementRow.holds Try.pinned (OpenSpec.ofChange fnDropStatementSpec)

/-- ITS FALSE NEIGHBOUR: 'it returns false'. Refute it at one input. -/
def fnDropStatementWrong : ChangeSpec := { name := "fnDropStatement", fn := fun _ => fun
  | [d] => { results := [.lit (.bool false)], args := [d] }
  | _ => none }
def FnDropStatementWrongFalsely : Prop := fnDropStatementRow.holds Try.pinned (OpenSpec.ofChange fnDropStatementWrong)

/- THE SECOND FORM. 'bulk': how many values and letters a reading holds, each counted each time it is reached (what is shared counts as often as it is met; a slice's spare places count too). A statement '..UptoSaid' is the law's where the arguments, and the package variables that the reading takes, are together of bulk at most 1048576: NARROWER than '..Said'. Prove '..Said' where nothing that the law and all that it calls make is longer than what came in: it says more and counts as full. Else prove '..UptoSaid'. A law counts once. -/
mutual
def uptoBulk {H : Type} : DataW H → Nat
  | .lit (.string bytes) => bytes.length + 1
  | .lit _ => 1
  | .nil => 1
  | .ptr d => uptoBulk d + 1
  | .slice elems spare => uptoBulkAll elems + uptoBulkAll spare + 1
  | .agg parts => uptoBulkAll parts + 1
  | .iface _ d => uptoBulk d + 1
  | .map entries => uptoBulkEntries entries + 1
  | .held _ => 1
def uptoBulkAll {H : Type} : List (DataW H) → Nat
  | [] => 0
  | d :: r => uptoBulk d + uptoBulkAll r
def uptoBulkEntries {H : Type} : List (Lit × DataW H) → Nat
  | [] => 0
  | x :: r => uptoBulkEntry x + uptoBulkEntries r
def uptoBulkEntry {H : Type} : Lit × DataW H → Nat
  | (.string bytes, d) => bytes.length + uptoBulk d + 1
  | (_, d) => uptoBulk d + 1
 end
def uptoSmall : (H : Type) → List (DataW H) → Bool := fun _ ds => decide (uptoBulkAll ds ≤ 1048576)
def OpenSpec.upto (s : _root_.Go.ChangeSpec) : _root_.Go.OpenSpec := { _root_.Go.OpenSpec.ofChange s with cond := some uptoSmall }

/-- 'laws.FnExactValidCache', WHERE WHAT IT READS IS OF BULK AT MOST 1048576: true; the input reads as it did. -/
def fnExactValidCacheUptoRow : OpenClaim := { program := "ytgliijkpjncfnaa", sum := "c9a254f71dec8ab4f5f81f885293324d9efa16a585dafd0d44dd54bf7aef94a1", func := "loop.example/connectionpool/laws.FnExactValidCache", spec := "fnExactValidCache", apart := false, narrowed := true }
def FnExactValidCacheUptoSaid : Prop := fnExactValidCacheUptoRow.holds Try.pinned (OpenSpec.upto fnExactValidCacheSpec)

/-- 'laws.FnExactUseStatement', WHERE WHAT IT READS IS OF BULK AT MOST 1048576: true; the input reads as it did. -/
def fnExactUseStatementUptoRow : OpenClaim := { program := "ytgliijkpjncfnaa", sum := "c9a254f71dec8ab4f5f81f885293324d9efa16a585dafd0d44dd54bf7aef94a1", func := "loop.example/connectionpool/laws.FnExactUseStatement", spec := "fnExactUseStatement", apart := false, narrowed := true }
def FnExactUseStatementUptoSaid : Prop := fnExactUseStatementUptoRow.holds Try.pinned (OpenSpec.upto fnExactUseStatementSpec)

/-- 'laws.FnExactCountPrepares', WHERE WHAT IT READS IS OF BULK AT MOST 1048576: true; the input reads as it did. -/
def fnExactCountPreparesUptoRow : OpenClaim := { program := "ytgliijkpjncfnaa", sum := "c9a254f71dec8ab4f5f81f885293324d9efa16a585dafd0d44dd54bf7aef94a1", func := "loop.example/connectionpool/laws.FnExactCountPrepares", spec := "fnExactCountPrepares", apart := false, narrowed := true }
def FnExactCountPreparesUptoSaid : Prop := fnExactCountPreparesUptoRow.holds Try.pinned (OpenSpec.upto fnExactCountPreparesSpec)

/-- 'laws.FnExactDropStatement', WHERE WHAT IT READS IS OF BULK AT MOST 1048576: true; the input reads as it did. -/
def fnExactDropStatementUptoRow : OpenClaim := { program := "ytgliijkpjncfnaa", sum := "c9a254f71dec8ab4f5f81f885293324d9efa16a585dafd0d44dd54bf7aef94a1", func := "loop.example/connectionpool/laws.FnExactDropStatement", spec := "fnExactDropStatement", apart := false, narrowed := true }
def FnExactDropStatementUptoSaid : Prop := fnExactDropStatementUptoRow.holds Try.pinned (OpenSpec.upto fnExactDropStatementSpec)

/-- 'laws.FnExactBestCache', WHERE WHAT IT READS IS OF BULK AT MOST 1048576: true; the input reads as it did. -/
def fnExactBestCacheUptoRow : OpenClaim := { program := "ytgliijkpjncfnaa", sum := "c9a254f71dec8ab4f5f81f885293324d9efa16a585dafd0d44dd54bf7aef94a1", func := "loop.example/connectionpool/laws.FnExactBestCache", spec := "fnExactBestCache", apart := false, narrowed := true }
def FnExactBestCacheUptoSaid : Prop := fnExactBestCacheUptoRow.holds Try.pinned (OpenSpec.upto fnExactBestCacheSpec)

/-- 'laws.FnValidCache', WHERE WHAT IT READS IS OF BULK AT MOST 1048576: true; the input reads as it did. -/
def fnValidCacheUptoRow : OpenClaim := { program := "ytgliijkpjncfnaa", sum := "c9a254f71dec8ab4f5f81f885293324d9efa16a585dafd0d44dd54bf7aef94a1", func := "loop.example/connectionpool/laws.FnValidCache", spec := "fnValidCache", apart := false, narrowed := true }
def FnValidCacheUptoSaid : Prop := fnValidCacheUptoRow.holds Try.pinned (OpenSpec.upto fnValidCacheSpec)

/-- 'laws.FnUseStatement', WHERE WHAT IT READS IS OF BULK AT MOST 1048576: true; the input reads as it did. -/
def fnUseStatementUptoRow : OpenClaim := { program := "ytgliijkpjncfnaa", sum := "c9a254f71dec8ab4f5f81f885293324d9efa16a585dafd0d44dd54bf7aef94a1", func := "loop.example/connectionpool/laws.FnUseStatement", spec := "fnUseStatement", apart := false, narrowed := true }
def FnUseStatementUptoSaid : Prop := fnUseStatementUptoRow.holds Try.pinned (OpenSpec.upto fnUseStatementSpec)

/-- 'laws.FnUseStatementTwice', WHERE WHAT IT READS IS OF BULK AT MOST 1048576: true; the input reads as it did. -/
def fnUseStatementTwiceUptoRow : OpenClaim := { program := "ytgliijkpjncfnaa", sum := "c9a254f71dec8ab4f5f81f885293324d9efa16a585dafd0d44dd54bf7aef94a1", func := "loop.example/connectionpool/laws.FnUseStatementTwice", spec := "fnUseStatementTwice", apart := false, narrowed := true }
def FnUseStatementTwiceUptoSaid : Prop := fnUseStatementTwiceUptoRow.holds Try.pinned (OpenSpec.upto fnUseStatementTwiceSpec)

/-- 'laws.FnDropStatement', WHERE WHAT IT READS IS OF BULK AT MOST 1048576: true; the input reads as it did. -/
def fnDropStatementUptoRow : OpenClaim := { program := "ytgliijkpjncfnaa", sum := "c9a254f71dec8ab4f5f81f885293324d9efa16a585dafd0d44dd54bf7aef94a1", func := "loop.example/connectionpool/laws.FnDropStatement", spec := "fnDropStatement", apart := false, narrowed := true }
def FnDropStatementUptoSaid : Prop := fnDropStatementUptoRow.holds Try.pinned (OpenSpec.upto fnDropStatementSpec)

end Rows
end Go.Proofs.Ytgliijkpjncfnaa

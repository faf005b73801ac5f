/-
  No cell of these rows narrows 'for every input' (looked for: loops, veiled, ifaces, maps, wideKeys, modest, calm, conditions, laid).
  DERIVED. THE GIVEN ROWS OF THIS SEAT. 8 by the template 'for every input the law returns true; each argument reads behind the call as it read before'; 0 by the template 'total and deterministic' (their statements: YtgliijkpjncfnabTotals.lean).
  GIVEN WITH THE SEED: the statements are not yours to turn. If you find one false, say at which input.
  Laid BY PROGRAM, IN A SANDBOX (cutbox-rows.mjs): the forced cells as the released guide's own fill.sh prints them over the translation d34ef86fd7db24af… (all of the seat's roots in one cut). By AI agents, Wed Nov 11 2026. No macro, syntax, notation, axiom, sorry.
-/
import Derived.Test.YtgliijkpjncfnabChecked
import GoSem.Claim
import GoSem.ClaimJoined
import GoSem.ClaimMapViews
import Derived.JoinedTies
import Derived.KernelRfl
namespace Go.Proofs.Ytgliijkpjncfnab
/- THE CELL 'sum', in the pinned program and in every row, IS THE sha256 OF THE DUMP (.gsa) THAT YtgliijkpjncfnabProg.lean LOADS. Nothing in Lean hashes anything: it is a label: what it is worth is what the hold of that sum in a sandbox is worth. -/
noncomputable def Try.pinned : Pinned := { name := "ytgliijkpjncfnab", sum := "d34ef86fd7db24afe20fd950501a4b214c73369d7421fbb402a3e45f0c11f203", checked := Try.checked }
namespace Rows
def none {H : Type} : Left H := { results := [], args := [] }

/-- 'laws.FnDropStatementUse': WHATEVER THE INPUT: true; the input reads as it did. -/
def fnDropStatementUseSpec : ChangeSpec := { name := "fnDropStatementUse", fn := fun _ => fun
  | [d] => { results := [.lit (.bool true)], args := [d] }
  | _ => none }
def fnDropStatementUseRow : OpenClaim := { program := "ytgliijkpjncfnab", sum := "d34ef86fd7db24afe20fd950501a4b214c73369d7421fbb402a3e45f0c11f203", func := "loop.example/connectionpool/laws.FnDropStatementUse", spec := "fnDropStatementUse", apart := false }
def FnDropStatementUseSaid : Prop := fnDropStatementUseRow.holds Try.pinned (OpenSpec.ofChange fnDropStatementUseSpec)

/-- ITS FALSE NEIGHBOUR: 'it returns false'. Refute it at one input. -/
def fnDropStatementUseWrong : ChangeSpec := { name := "fnDropStatementUse", fn := fun _ => fun
  | [d] => { results := [.lit (.bool false)], args := [d] }
  | _ => none }
def FnDropStatementUseWrongFalsely : Prop := fnDropStatementUseRow.holds Try.pinned (OpenSpec.ofChange fnDropStatementUseWrong)

/-- 'laws.FnUseStatementOrder': WHATEVER THE INPUT: true; the input reads as it did. -/
def fnUseStatementOrderSpec : ChangeSpec := { name := "fnUseStatementOrder", fn := fun _ => fun
  | [d] => { results := [.lit (.bool true)], args := [d] }
  | _ => none }
def fnUseStatementOrderRow : OpenClaim := { program := "ytgliijkpjncfnab", sum := "d34ef86fd7db24afe20fd950501a4b214c73369d7421fbb402a3e45f0c11f203", func := "loop.example/connectionpool/laws.FnUseStatementOrder", spec := "fnUseStatementOrder", apart := false }
def FnUseStatementOrderSaid : Prop := fnUseStatementOrderRow.holds Try.pinned (OpenSpec.ofChange fnUseStatementOrderSpec)

/-- ITS FALSE NEIGHBOUR: 'it returns false'. Refute it at one input. -/
def fnUseStatementOrderWrong : ChangeSpec := { name := "fnUseStatementOrder", fn := fun _ => fun
  | [d] => { results := [.lit (.bool false)], args := [d] }
  | _ => none }
def FnUseStatementOrderWrongFalsely : Prop := fnUseStatementOrderRow.holds Try.pinned (OpenSpec.ofChange fnUseStatementOrderWrong)

/-- 'laws.FnUseStatementRoom': WHATEVER THE INPUT: true; the input reads as it did. -/
def fnUseStatementRoomSpec : ChangeSpec := { name := "fnUseStatementRoom", fn := fun _ => fun
  | [d] => { results := [.lit (.bool true)], args := [d] }
  | _ => none }
def fnUseStatementRoomRow : OpenClaim := { program := "ytgliijkpjncfnab", sum := "d34ef86fd7db24afe20fd950501a4b214c73369d7421fbb402a3e45f0c11f203", func := "loop.example/connectionpool/laws.FnUseStatementRoom", spec := "fnUseStatementRoom", apart := false }
def FnUseStatementRoomSaid : Prop := fnUseStatementRoomRow.holds Try.pinned (OpenSpec.ofChange fnUseStatementRoomSpec)

/-- ITS FALSE NEIGHBOUR: 'it returns false'. Refute it at one input. -/
def fnUseStatementRoomWrong : ChangeSpec := { name := "fnUseStatementRoom", fn := fun _ => fun
  | [d] => { results := [.lit (.bool false)], args := [d] }
  | _ => none }
def FnUseStatementRoomWrongFalsely : Prop := fnUseStatementRoomRow.holds Try.pinned (OpenSpec.ofChange fnUseStatementRoomWrong)

/-- 'laws.FnCountPrepares': WHATEVER THE INPUT: true; the input reads as it did. -/
def fnCountPreparesSpec : ChangeSpec := { name := "fnCountPrepares", fn := fun _ => fun
  | [d] => { results := [.lit (.bool true)], args := [d] }
  | _ => none }
def fnCountPreparesRow : OpenClaim := { program := "ytgliijkpjncfnab", sum := "d34ef86fd7db24afe20fd950501a4b214c73369d7421fbb402a3e45f0c11f203", func := "loop.example/connectionpool/laws.FnCountPrepares", spec := "fnCountPrepares", apart := false }
def FnCountPreparesSaid : Prop := fnCountPreparesRow.holds Try.pinned (OpenSpec.ofChange fnCountPreparesSpec)

/-- ITS FALSE NEIGHBOUR: 'it returns false'. Refute it at one input. -/
def fnCountPreparesWrong : ChangeSpec := { name := "fnCountPrepares", fn := fun _ => fun
  | [d] => { results := [.lit (.bool false)], args := [d] }
  | _ => none }
def FnCountPreparesWrongFalsely : Prop := fnCountPreparesRow.holds Try.pinned (OpenSpec.ofChange fnCountPreparesWrong)

/-- 'laws.FnCountPreparesRoom': WHATEVER THE INPUT: true; the input reads as it did. -/
def fnCountPreparesRoomSpec : ChangeSpec := { name := "fnCountPreparesRoom", fn := fun _ => fun
  | [d] => { results := [.lit (.bool true)], args := [d] }
  | _ => none }
def fnCountPreparesRoomRow : OpenClaim := { program := "ytgliijkpjncfnab", sum := "d34ef86fd7db24afe20fd950501a4b214c73369d7421fbb402a3e45f0c11f203", func := "loop.example/connectionpool/laws.FnCountPreparesRoom", spec := "fnCountPreparesRoom", apart := false }
def FnCountPreparesRoomSaid : Prop := fnCountPreparesRoomRow.holds Try.pinned (OpenSpec.ofChange fnCountPreparesRoomSpec)

/-- ITS FALSE NEIGHBOUR: 'it returns false'. Refute it at one input. -/
def fnCountPreparesRoomWrong : ChangeSpec := { name := "fnCountPreparesRoom", fn := fun _ => fun
  | [d] => { results := [.lit (.bool false)], args := [d] }
  | _ => none }
def FnCountPreparesRoomWrongFalsely : Prop := fnCountPreparesRoomRow.holds Try.pinned (OpenSpec.ofChange fnCountPreparesRoomWrong)

/-- 'laws.FnCountPreparesSame': WHATEVER THE INPUT: true; the input reads as it did. -/
def fnCountPreparesSameSpec : ChangeSpec := { name := "fnCountPreparesSame", fn := fun _ => fun
  | [d] => { results := [.lit (.bool true)], args := [d] }
  | _ => none }
def fnCountPreparesSameRow : OpenClaim := { program := "ytgliijkpjncfnab", sum := "d34ef86fd7db24afe20fd950501a4b214c73369d7421fbb402a3e45f0c11f203", func := "loop.example/connectionpool/laws.FnCountPreparesSame", spec := "fnCountPreparesSame", apart := false }
def FnCountPreparesSameSaid : Prop := fnCountPreparesSameRow.holds Try.pinned (OpenSpec.ofChange fnCountPreparesSameSpec)

/-- ITS FALSE NEIGHBOUR: 'it returns false'. Refute it at one input. -/
def fnCountPreparesSameWrong : ChangeSpec := { name := "fnCountPreparesSame", fn := fun _ => fun
  | [d] => { results := [.lit (.bool false)], args := [d] }
  | _ => none }
def FnCountPreparesSameWrongFalsely : Prop := fnCountPreparesSameRow.holds Try.pinned (OpenSpec.ofChange fnCountPreparesSameWrong)

/-- 'laws.FnBestCache': WHATEVER THE INPUT: true; the input reads as it did. -/
def fnBestCacheSpec : ChangeSpec := { name := "fnBestCache", fn := fun _ => fun
  | [d] => { results := [.lit (.bool true)], args := [d] }
  | _ => none }
def fnBestCacheRow : OpenClaim := { program := "ytgliijkpjncfnab", sum := "d34ef86fd7db24afe20fd950501a4b214c73369d7421fbb402a3e45f0c11f203", func := "loop.example/connectionpool/laws.FnBestCache", spec := "fnBestCache", apart := false }
def FnBestCacheSaid : Prop := fnBestCacheRow.holds Try.pinned (OpenSpec.ofChange fnBestCacheSpec)

/-- ITS FALSE NEIGHBOUR: 'it returns false'. Refute it at one input. -/
def fnBestCacheWrong : ChangeSpec := { name := "fnBestCache", fn := fun _ => fun
  | [d] => { results := [.lit (.bool false)], args := [d] }
  | _ => none }
def FnBestCacheWrongFalsely : Prop := fnBestCacheRow.holds Try.pinned (OpenSpec.ofChange fnBestCacheWrong)

/-- 'laws.FnBestCacheNone': WHATEVER THE INPUT: true; the input reads as it did. -/
def fnBestCacheNoneSpec : ChangeSpec := { name := "fnBestCacheNone", fn := fun _ => fun
  | [d] => { results := [.lit (.bool true)], args := [d] }
  | _ => none }
def fnBestCacheNoneRow : OpenClaim := { program := "ytgliijkpjncfnab", sum := "d34ef86fd7db24afe20fd950501a4b214c73369d7421fbb402a3e45f0c11f203", func := "loop.example/connectionpool/laws.FnBestCacheNone", spec := "fnBestCacheNone", apart := false }
def FnBestCacheNoneSaid : Prop := fnBestCacheNoneRow.holds Try.pinned (OpenSpec.ofChange fnBestCacheNoneSpec)

/-- ITS FALSE NEIGHBOUR: 'it returns false'. Refute it at one input. -/
def fnBestCacheNoneWrong : ChangeSpec := { name := "fnBestCacheNone", fn := fun _ => fun
  | [d] => { results := [.lit (.bool false)], args := [d] }
  | _ => none }
def FnBestCacheNoneWrongFalsely : Prop := fnBestCacheNoneRow.holds Try.pinned (OpenSpec.ofChange fnBestCacheNoneWrong)

/- THE SECOND FORM. 'bulk': how many values and letters a reading holds, each counted each time it is reached (what is shared counts as often as it is met; a slice's spare places count too). A statement '..UptoSaid' is the law's where the arguments, and the package variables that the reading takes, are together of bulk at most 1048576: NARROWER than '..Said'. Prove '..Said' where nothing that the law and all that it calls make is longer than what came in: it says more and counts as full. Else prove '..UptoSaid'. A law counts once. -/
mutual
def uptoBulk {H : Type} : DataW H → Nat
  | .lit (.string bytes) => bytes.length + 1
  | .lit _ => 1
  | .nil => 1
  | .ptr d => uptoBulk d + 1
  | .slice elems spare => uptoBulkAll elems + uptoBulkAll spare + 1
  | .agg parts => uptoBulkAll parts + 1
  | .iface _ d => uptoBulk d + 1
  | .map entries => uptoBulkEntries entries + 1
  | .held _ => 1
def uptoBulkAll {H : Type} : List (DataW H) → Nat
  | [] => 0
  | d :: r => uptoBulk d + uptoBulkAll r
def uptoBulkEntries {H : Type} : List (Lit × DataW H) → Nat
  | [] => 0
  | x :: r => uptoBulkEntry x + uptoBulkEntries r
def uptoBulkEntry {H : Type} : Lit × DataW H → Nat
  | (.string bytes, d) => bytes.length + uptoBulk d + 1
  | (_, d) => uptoBulk d + 1
 end
def uptoSmall : (H : Type) → List (DataW H) → Bool := fun _ ds => decide (uptoBulkAll ds ≤ 1048576)
def OpenSpec.upto (s : _root_.Go.ChangeSpec) : _root_.Go.OpenSpec := { _root_.Go.OpenSpec.ofChange s with cond := some uptoSmall }

/-- 'laws.FnDropStatementUse', WHERE WHAT IT READS IS OF BULK AT MOST 1048576: true; the input reads as it did. -/
def fnDropStatementUseUptoRow : OpenClaim := { program := "ytgliijkpjncfnab", sum := "d34ef86fd7db24afe20fd950501a4b214c73369d7421fbb402a3e45f0c11f203", func := "loop.example/connectionpool/laws.FnDropStatementUse", spec := "fnDropStatementUse", apart := false, narrowed := true }
def FnDropStatementUseUptoSaid : Prop := fnDropStatementUseUptoRow.holds Try.pinned (OpenSpec.upto fnDropStatementUseSpec)

/-- 'laws.FnUseStatementOrder', WHERE WHAT IT READS IS OF BULK AT MOST 1048576: true; the input reads as it did. -/
def fnUseStatementOrderUptoRow : OpenClaim := { program := "ytgliijkpjncfnab", sum := "d34ef86fd7db24afe20fd950501a4b214c73369d7421fbb402a3e45f0c11f203", func := "loop.example/connectionpool/laws.FnUseStatementOrder", spec := "fnUseStatementOrder", apart := false, narrowed := true }
def FnUseStatementOrderUptoSaid : Prop := fnUseStatementOrderUptoRow.holds Try.pinned (OpenSpec.upto fnUseStatementOrderSpec)

/-- 'laws.FnUseStatementRoom', WHERE WHAT IT READS IS OF BULK AT MOST 1048576: true; the input reads as it did. -/
def fnUseStatementRoomUptoRow : OpenClaim := { program := "ytgliijkpjncfnab", sum := "d34ef86fd7db24afe20fd950501a4b214c73369d7421fbb402a3e45f0c11f203", func := "loop.example/connectionpool/laws.FnUseStatementRoom", spec := "fnUseStatementRoom", apart := false, narrowed := true }
def FnUseStatementRoomUptoSaid : Prop := fnUseStatementRoomUptoRow.holds Try.pinned (OpenSpec.upto fnUseStatementRoomSpec)

/-- 'laws.FnCountPrepares', WHERE WHAT IT READS IS OF BULK AT MOST 1048576: true; the input reads as it did. -/
def fnCountPreparesUptoRow : OpenClaim := { program := "ytgliijkpjncfnab", sum := "d34ef86fd7db24afe20fd950501a4b214c73369d7421fbb402a3e45f0c11f203", func := "loop.example/connectionpool/laws.FnCountPrepares", spec := "fnCountPrepares", apart := false, narrowed := true }
def FnCountPreparesUptoSaid : Prop := fnCountPreparesUptoRow.holds Try.pinned (OpenSpec.upto fnCountPreparesSpec)

/-- 'laws.FnCountPreparesRoom', WHERE WHAT IT READS IS OF BULK AT MOST 1048576: true; the input reads as it did. -/
def fnCountPreparesRoomUptoRow : OpenClaim := { program := "ytgliijkpjncfnab", sum := "d34ef86fd7db24afe20fd950501a4b214c73369d7421fbb402a3e45f0c11f203", func := "loop.example/connectionpool/laws.FnCountPreparesRoom", spec := "fnCountPreparesRoom", apart := false, narrowed := true }
def FnCountPreparesRoomUptoSaid : Prop := fnCountPreparesRoomUptoRow.holds Try.pinned (OpenSpec.upto fnCountPreparesRoomSpec)

/-- 'laws.FnCountPreparesSame', WHERE WHAT IT READS IS OF BULK AT MOST 1048576: true; the input reads as it did. -/
def fnCountPreparesSameUptoRow : OpenClaim := { program := "ytgliijkpjncfnab", sum := "d34ef86fd7db24afe20fd950501a4b214c73369d7421fbb402a3e45f0c11f203", func := "loop.example/connectionpool/laws.FnCountPreparesSame", spec := "fnCountPreparesSame", apart := false, narrowed := true }
def FnCountPreparesSameUptoSaid : Prop := fnCountPreparesSameUptoRow.holds Try.pinned (OpenSpec.upto fnCountPreparesSameSpec)

/-- 'laws.FnBestCache', WHERE WHAT IT READS IS OF BULK AT MOST 1048576: true; the input reads as it did. -/
def fnBestCacheUptoRow : OpenClaim := { program := "ytgliijkpjncfnab", sum := "d34ef86fd7db24afe20fd950501a4b214c73369d7421fbb402a3e45f0c11f203", func := "loop.example/connectionpool/laws.FnBestCache", spec := "fnBestCache", apart := false, narrowed := true }
def FnBestCacheUptoSaid : Prop := fnBestCacheUptoRow.holds Try.pinned (OpenSpec.upto fnBestCacheSpec)

/-- 'laws.FnBestCacheNone', WHERE WHAT IT READS IS OF BULK AT MOST 1048576: true; the input reads as it did. -/
def fnBestCacheNoneUptoRow : OpenClaim := { program := "ytgliijkpjncfnab", sum := "d34ef86fd7db24afe20fd950501a4b214c73369d7421fbb402a3e45f0c11f203", func := "loop.example/connectionpool/laws.FnBestCacheNone", spec := "fnBestCacheNone", apart := false, narrowed := true }
def FnBestCacheNoneUptoSaid : Prop := fnBestCacheNoneUptoRow.holds Try.pinned (OpenSpec.upto fnBestCacheNoneSpec)

end Rows
end Go.Proofs.Ytgliijkpjncfnab

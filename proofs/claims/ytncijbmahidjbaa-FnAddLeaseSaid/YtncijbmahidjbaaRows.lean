/-
  No cell of these rows narrows 'for every input' (looked for: loops, veiled, ifaces, maps, wideKeys, modest, calm, conditions, laid).
  DERIVED. THE GIVEN ROWS OF THIS SEAT. 7 by the template 'for every input the law returns true; each argument reads behind the call as it read before'; 0 by the template 'total and deterministic' (their statements: YtncijbmahidjbaaTotals.lean).
  GIVEN WITH THE SEED: the statements are not yours to turn. If you find one false, say at which input.
  Laid BY PROGRAM, IN A SANDBOX (cutbox-rows.mjs): the forced cells as the released guide's own fill.sh prints them over the translation 4d25798dea76a7b7… (all of the seat's roots in one cut). By AI agents, Wed Nov 11 2026. No macro, syntax, notation, axiom, sorry.
-/
import Derived.Test.YtncijbmahidjbaaChecked
import GoSem.Claim
import GoSem.ClaimJoined
import GoSem.ClaimMapViews
import Derived.JoinedTies
import Derived.KernelRfl
namespace Go.Proofs.Ytncijbmahidjbaa
/- THE CELL 'sum', in the pinned program and in every row, IS THE sha256 OF THE DUMP (.gsa) THAT YtncijbmahidjbaaProg.lean LOADS. Nothing in Lean hashes anything: it is a label: what it is worth is what the hold of that sum in a sandbox is worth. -/
noncomputable def Try.pinned : Pinned := { name := "ytncijbmahidjbaa", sum := "4d25798dea76a7b7f9f9494a3181682a173d3d4e0d8369ea6f12bed56f5b6737", checked := Try.checked }
namespace Rows
def none {H : Type} : Left H := { results := [], args := [] }

/-- 'laws.FnValidLeases': WHATEVER THE INPUT: true; the input reads as it did. -/
def fnValidLeasesSpec : ChangeSpec := { name := "fnValidLeases", fn := fun _ => fun
  | [d] => { results := [.lit (.bool true)], args := [d] }
  | _ => none }
def fnValidLeasesRow : OpenClaim := { program := "ytncijbmahidjbaa", sum := "4d25798dea76a7b7f9f9494a3181682a173d3d4e0d8369ea6f12bed56f5b6737", func := "loop.example/connectionpool/laws.FnValidLeases", spec := "fnValidLeases", apart := false }
def FnValidLeasesSaid : Prop := fnValidLeasesRow.holds Try.pinned (OpenSpec.ofChange fnValidLeasesSpec)

/-- ITS FALSE NEIGHBOUR: 'it returns false'. Refute it at one input. -/
def fnValidLeasesWrong : ChangeSpec := { name := "fnValidLeases", fn := fun _ => fun
  | [d] => { results := [.lit (.bool false)], args := [d] }
  | _ => none }
def FnValidLeasesWrongFalsely : Prop := fnValidLeasesRow.holds Try.pinned (OpenSpec.ofChange fnValidLeasesWrong)

/-- 'laws.FnOwnerAt': WHATEVER THE INPUT: true; the input reads as it did. -/
def fnOwnerAtSpec : ChangeSpec := { name := "fnOwnerAt", fn := fun _ => fun
  | [d] => { results := [.lit (.bool true)], args := [d] }
  | _ => none }
def fnOwnerAtRow : OpenClaim := { program := "ytncijbmahidjbaa", sum := "4d25798dea76a7b7f9f9494a3181682a173d3d4e0d8369ea6f12bed56f5b6737", func := "loop.example/connectionpool/laws.FnOwnerAt", spec := "fnOwnerAt", apart := false }
def FnOwnerAtSaid : Prop := fnOwnerAtRow.holds Try.pinned (OpenSpec.ofChange fnOwnerAtSpec)

/-- ITS FALSE NEIGHBOUR: 'it returns false'. Refute it at one input. -/
def fnOwnerAtWrong : ChangeSpec := { name := "fnOwnerAt", fn := fun _ => fun
  | [d] => { results := [.lit (.bool false)], args := [d] }
  | _ => none }
def FnOwnerAtWrongFalsely : Prop := fnOwnerAtRow.holds Try.pinned (OpenSpec.ofChange fnOwnerAtWrong)

/-- 'laws.FnOwnerAtBusy': WHATEVER THE INPUT: true; the input reads as it did. -/
def fnOwnerAtBusySpec : ChangeSpec := { name := "fnOwnerAtBusy", fn := fun _ => fun
  | [d] => { results := [.lit (.bool true)], args := [d] }
  | _ => none }
def fnOwnerAtBusyRow : OpenClaim := { program := "ytncijbmahidjbaa", sum := "4d25798dea76a7b7f9f9494a3181682a173d3d4e0d8369ea6f12bed56f5b6737", func := "loop.example/connectionpool/laws.FnOwnerAtBusy", spec := "fnOwnerAtBusy", apart := false }
def FnOwnerAtBusySaid : Prop := fnOwnerAtBusyRow.holds Try.pinned (OpenSpec.ofChange fnOwnerAtBusySpec)

/-- ITS FALSE NEIGHBOUR: 'it returns false'. Refute it at one input. -/
def fnOwnerAtBusyWrong : ChangeSpec := { name := "fnOwnerAtBusy", fn := fun _ => fun
  | [d] => { results := [.lit (.bool false)], args := [d] }
  | _ => none }
def FnOwnerAtBusyWrongFalsely : Prop := fnOwnerAtBusyRow.holds Try.pinned (OpenSpec.ofChange fnOwnerAtBusyWrong)

/-- 'laws.FnAddLease': WHATEVER THE INPUT: true; the input reads as it did. -/
def fnAddLeaseSpec : ChangeSpec := { name := "fnAddLease", fn := fun _ => fun
  | [d] => { results := [.lit (.bool true)], args := [d] }
  | _ => none }
def fnAddLeaseRow : OpenClaim := { program := "ytncijbmahidjbaa", sum := "4d25798dea76a7b7f9f9494a3181682a173d3d4e0d8369ea6f12bed56f5b6737", func := "loop.example/connectionpool/laws.FnAddLease", spec := "fnAddLease", apart := false }
def FnAddLeaseSaid : Prop := fnAddLeaseRow.holds Try.pinned (OpenSpec.ofChange fnAddLeaseSpec)

/-- ITS FALSE NEIGHBOUR: 'it returns false'. Refute it at one input. -/
def fnAddLeaseWrong : ChangeSpec := { name := "fnAddLease", fn := fun _ => fun
  | [d] => { results := [.lit (.bool false)], args := [d] }
  | _ => none }
def FnAddLeaseWrongFalsely : Prop := fnAddLeaseRow.holds Try.pinned (OpenSpec.ofChange fnAddLeaseWrong)

/-- 'laws.FnAddLeaseTwice': WHATEVER THE INPUT: true; the input reads as it did. -/
def fnAddLeaseTwiceSpec : ChangeSpec := { name := "fnAddLeaseTwice", fn := fun _ => fun
  | [d] => { results := [.lit (.bool true)], args := [d] }
  | _ => none }
def fnAddLeaseTwiceRow : OpenClaim := { program := "ytncijbmahidjbaa", sum := "4d25798dea76a7b7f9f9494a3181682a173d3d4e0d8369ea6f12bed56f5b6737", func := "loop.example/connectionpool/laws.FnAddLeaseTwice", spec := "fnAddLeaseTwice", apart := false }
def FnAddLeaseTwiceSaid : Prop := fnAddLeaseTwiceRow.holds Try.pinned (OpenSpec.ofChange fnAddLeaseTwiceSpec)

/-- ITS FALSE NEIGHBOUR: 'it returns false'. Refute it at one input. -/
def fnAddLeaseTwiceWrong : ChangeSpec := { name := "fnAddLeaseTwice", fn := fun _ => fun
  | [d] => { results := [.lit (.bool false)], args := [d] }
  | _ => none }
def FnAddLeaseTwiceWrongFalsely : Prop := fnAddLeaseTwiceRow.holds Try.pinned (OpenSpec.ofChange fnAddLeaseTwiceWrong)

/-- 'laws.FnFreeFor': WHATEVER THE INPUT: true; the input reads as it did. -/
def fnFreeForSpec : ChangeSpec := { name := "fnFreeFor", fn := fun _ => fun
  | [d] => { results := [.lit (.bool true)], args := [d] }
  | _ => none }
def fnFreeForRow : OpenClaim := { program := "ytncijbmahidjbaa", sum := "4d25798dea76a7b7f9f9494a3181682a173d3d4e0d8369ea6f12bed56f5b6737", func := "loop.example/connectionpool/laws.FnFreeFor", spec := "fnFreeFor", apart := false }
def FnFreeForSaid : Prop := fnFreeForRow.holds Try.pinned (OpenSpec.ofChange fnFreeForSpec)

/-- ITS FALSE NEIGHBOUR: 'it returns false'. Refute it at one input. -/
def fnFreeForWrong : ChangeSpec := { name := "fnFreeFor", fn := fun _ => fun
  | [d] => { results := [.lit (.bool false)], args := [d] }
  | _ => none }
def FnFreeForWrongFalsely : Prop := fnFreeForRow.holds Try.pinned (OpenSpec.ofChange fnFreeForWrong)

/-- 'laws.FnFreeForNone': WHATEVER THE INPUT: true; the input reads as it did. -/
def fnFreeForNoneSpec : ChangeSpec := { name := "fnFreeForNone", fn := fun _ => fun
  | [d] => { results := [.lit (.bool true)], args := [d] }
  | _ => none }
def fnFreeForNoneRow : OpenClaim := { program := "ytncijbmahidjbaa", sum := "4d25798dea76a7b7f9f9494a3181682a173d3d4e0d8369ea6f12bed56f5b6737", func := "loop.example/connectionpool/laws.FnFreeForNone", spec := "fnFreeForNone", apart := false }
def FnFreeForNoneSaid : Prop := fnFreeForNoneRow.holds Try.pinned (OpenSpec.ofChange fnFreeForNoneSpec)

/-- ITS FALSE NEIGHBOUR: 'it returns false'. Refute it at one input. -/
def fnFreeForNoneWrong : ChangeSpec := { name := "fnFreeForNone", fn := fun _ => fun
  | [d] => { results := [.lit (.bool false)], args := [d] }
  | _ => none }
def FnFreeForNoneWrongFalsely : Prop := fnFreeForNoneRow.holds Try.pinned (OpenSpec.ofChange fnFreeForNoneWrong)

/- THE SECOND FORM. 'bulk': how many values and letters a reading holds, each counted each time it is reached (what is shared counts as often as it is met; a slice's spare places count too). A statement '..UptoSaid' is the law's where the arguments, and the package variables that the reading takes, are together of bulk at most 1048576: NARROWER than '..Said'. Prove '..Said' where nothing that the law and all that it calls make is longer than what came in: it says more and counts as full. Else prove '..UptoSaid'. A law counts once. -/
mutual
def uptoBulk {H : Type} : DataW H → Nat
  | .lit (.string bytes) => bytes.length + 1
  | .lit _ => 1
  | .nil => 1
  | .ptr d => uptoBulk d + 1
  | .slice elems spare => uptoBulkAll elems + uptoBulkAll spare + 1
  | .agg parts => uptoBulkAll parts + 1
  | .iface _ d => uptoBulk d + 1
  | .map entries => uptoBulkEntries entries + 1
  | .held _ => 1
def uptoBulkAll {H : Type} : List (DataW H) → Nat
  | [] => 0
  | d :: r => uptoBulk d + uptoBulkAll r
def uptoBulkEntries {H : Type} : List (Lit × DataW H) → Nat
  | [] => 0
  | x :: r => uptoBulkEntry x + uptoBulkEntries r
def uptoBulkEntry {H : Type} : Lit × DataW H → Nat
  | (.string bytes, d) => bytes.length + uptoBulk d + 1
  | (_, d) => uptoBulk d + 1
 end
def uptoSmall : (H : Type) → List (DataW H) → Bool := fun _ ds => decide (uptoBulkAll ds ≤ 1048576)
def OpenSpec.upto (s : _root_.Go.ChangeSpec) : _root_.Go.OpenSpec := { _root_.Go.OpenSpec.ofChange s with cond := some uptoSmall }

/-- 'laws.FnValidLeases', WHERE WHAT IT READS IS OF BULK AT MOST 1048576: true; the input reads as it did. -/
def fnValidLeasesUptoRow : OpenClaim := { program := "ytncijbmahidjbaa", sum := "4d25798dea76a7b7f9f9494a3181682a173d3d4e0d8369ea6f12bed56f5b6737", func := "loop.example/connectionpool/laws.FnValidLeases", spec := "fnValidLeases", apart := false, narrowed := true }
def FnValidLeasesUptoSaid : Prop := fnValidLeasesUptoRow.holds Try.pinned (OpenSpec.upto fnValidLeasesSpec)

/-- 'laws.FnOwnerAt', WHERE WHAT IT READS IS OF BULK AT MOST 1048576: true; the input reads as it did. -/
def fnOwnerAtUptoRow : OpenClaim := { program := "ytncijbmahidjbaa", sum := "4d25798dea76a7b7f9f9494a3181682a173d3d4e0d8369ea6f12bed56f5b6737", func := "loop.example/connectionpool/laws.FnOwnerAt", spec := "fnOwnerAt", apart := false, narrowed := true }
def FnOwnerAtUptoSaid : Prop := fnOwnerAtUptoRow.holds Try.pinned (OpenSpec.upto fnOwnerAtSpec)

/-- 'laws.FnOwnerAtBusy', WHERE WHAT IT READS IS OF BULK AT MOST 1048576: true; the input reads as it did. -/
def fnOwnerAtBusyUptoRow : OpenClaim := { program := "ytncijbmahidjbaa", sum := "4d25798dea76a7b7f9f9494a3181682a173d3d4e0d8369ea6f12bed56f5b6737", func := "loop.example/connectionpool/laws.FnOwnerAtBusy", spec := "fnOwnerAtBusy", apart := false, narrowed := true }
def FnOwnerAtBusyUptoSaid : Prop := fnOwnerAtBusyUptoRow.holds Try.pinned (OpenSpec.upto fnOwnerAtBusySpec)

/-- 'laws.FnAddLease', WHERE WHAT IT READS IS OF BULK AT MOST 1048576: true; the input reads as it did. -/
def fnAddLeaseUptoRow : OpenClaim := { program := "ytncijbmahidjbaa", sum := "4d25798dea76a7b7f9f9494a3181682a173d3d4e0d8369ea6f12bed56f5b6737", func := "loop.example/connectionpool/laws.FnAddLease", spec := "fnAddLease", apart := false, narrowed := true }
def FnAddLeaseUptoSaid : Prop := fnAddLeaseUptoRow.holds Try.pinned (OpenSpec.upto fnAddLeaseSpec)

/-- 'laws.FnAddLeaseTwice', WHERE WHAT IT READS IS OF BULK AT MOST 1048576: true; the input reads as it did. -/
def fnAddLeaseTwiceUptoRow : OpenClaim := { program := "ytncijbmahidjbaa", sum := "4d25798dea76a7b7f9f9494a3181682a173d3d4e0d8369ea6f12bed56f5b6737", func := "loop.example/connectionpool/laws.FnAddLeaseTwice", spec := "fnAddLeaseTwice", apart := false, narrowed := true }
def FnAddLeaseTwiceUptoSaid : Prop := fnAddLeaseTwiceUptoRow.holds Try.pinned (OpenSpec.upto fnAddLeaseTwiceSpec)

/-- 'laws.FnFreeFor', WHERE WHAT IT READS IS OF BULK AT MOST 1048576: true; the input reads as it did. -/
def fnFreeForUptoRow : OpenClaim := { program := "ytncijbmahidjbaa", sum := "4d25798dea76a7b7f9f9494a3181682a173d3d4e0d8369ea6f12bed56f5b6737", func := "loop.example/connectionpool/laws.FnFreeFor", spec := "fnFreeFor", apart := false, narrowed := true }
def FnFreeForUptoSaid : Prop := fnFreeForUptoRow.holds Try.pinned (OpenSpec.upto fnFreeForSpec)

/-- 'laws.FnFreeForNone', WHERE WHAT IT READS IS OF BULK AT MOST 1048576: true; the input reads as it did. -/
def fnFreeForNoneUptoRow : OpenClaim := { program := "ytncijbmahidjbaa", sum := "4d25798dea76a7b7f9f9494a3181682a173d3d4e0d8369ea6f12bed56f5b6737", func := "loop.example/connectionpool/laws.FnFreeForNone", spec := "fnFreeForNone", apart := false, narrowed := true }
def FnFreeForNoneUptoSaid : Prop := fnFreeForNoneUptoRow.holds Try.pinned (OpenSpec.upto fnFreeForNoneSpec)

end Rows
end Go.Proofs.Ytncijbmahidjbaa

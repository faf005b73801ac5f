/-
  No cell of these rows narrows 'for every input' (looked for: loops, veiled, ifaces, maps, wideKeys, modest, calm, conditions, laid).
  DERIVED. THE GIVEN ROWS OF THIS SEAT. 5 by the template 'for every input the law returns true; each argument reads behind the call as it read before'; 0 by the template 'total and deterministic' (their statements: YtncijbmahidjbacTotals.lean).
  GIVEN WITH THE SEED: the statements are not yours to turn. If you find one false, say at which input.
  Laid BY PROGRAM, IN A SANDBOX (cutbox-rows.mjs): the forced cells as the released guide's own fill.sh prints them over the translation 504a6d79167b146a… (all of the seat's roots in one cut). By AI agents, Wed Nov 11 2026. No macro, syntax, notation, axiom, sorry.
-/
import Derived.Test.YtncijbmahidjbacChecked
import GoSem.Claim
import GoSem.ClaimJoined
import GoSem.ClaimMapViews
import Derived.JoinedTies
import Derived.KernelRfl
namespace Go.Proofs.Ytncijbmahidjbac
/- THE CELL 'sum', in the pinned program and in every row, IS THE sha256 OF THE DUMP (.gsa) THAT YtncijbmahidjbacProg.lean LOADS. Nothing in Lean hashes anything: it is a label: what it is worth is what the hold of that sum in a sandbox is worth. -/
noncomputable def Try.pinned : Pinned := { name := "ytncijbmahidjbac", sum := "504a6d79167b146a8cc08c0f4230a2cf91a7fb11b33bb474a41c0f5f9c11946f", checked := Try.checked }
namespace Rows
def none {H : Type} : Left H := { results := [], args := [] }

/-- 'laws.FnExactOwnerAt': WHATEVER THE INPUT: true; the input reads as it did. -/
def fnExactOwnerAtSpec : ChangeSpec := { name := "fnExactOwnerAt", fn := fun _ => fun
  | [d1, d2, d3] => { results := [.lit (.bool true)], args := [d1, d2, d3] }
  | _ => none }
def fnExactOwnerAtRow : OpenClaim := { program := "ytncijbmahidjbac", sum := "504a6d79167b146a8cc08c0f4230a2cf91a7fb11b33bb474a41c0f5f9c11946f", func := "loop.example/connectionpool/laws.FnExactOwnerAt", spec := "fnExactOwnerAt", apart := false }
def FnExactOwnerAtSaid : Prop := fnExactOwnerAtRow.holds Try.pinned (OpenSpec.ofChange fnExactOwnerAtSpec)

/-- ITS FALSE NEIGHBOUR: 'it returns false'. Refute it at one input. -/
def fnExactOwnerAtWrong : ChangeSpec := { name := "fnExactOwnerAt", fn := fun _ => fun
  | [d1, d2, d3] => { results := [.lit (.bool false)], args := [d1, d2, d3] }
  | _ => none }
def FnExactOwnerAtWrongFalsely : Prop := fnExactOwnerAtRow.holds Try.pinned (OpenSpec.ofChange fnExactOwnerAtWrong)

/-- 'laws.FnExactAddLease': WHATEVER THE INPUT: true; the input reads as it did. -/
def fnExactAddLeaseSpec : ChangeSpec := { name := "fnExactAddLease", fn := fun _ => fun
  | [d1, d2] => { results := [.lit (.bool true)], args := [d1, d2] }
  | _ => none }
def fnExactAddLeaseRow : OpenClaim := { program := "ytncijbmahidjbac", sum := "504a6d79167b146a8cc08c0f4230a2cf91a7fb11b33bb474a41c0f5f9c11946f", func := "loop.example/connectionpool/laws.FnExactAddLease", spec := "fnExactAddLease", apart := false }
def FnExactAddLeaseSaid : Prop := fnExactAddLeaseRow.holds Try.pinned (OpenSpec.ofChange fnExactAddLeaseSpec)

/-- ITS FALSE NEIGHBOUR: 'it returns false'. Refute it at one input. -/
def fnExactAddLeaseWrong : ChangeSpec := { name := "fnExactAddLease", fn := fun _ => fun
  | [d1, d2] => { results := [.lit (.bool false)], args := [d1, d2] }
  | _ => none }
def FnExactAddLeaseWrongFalsely : Prop := fnExactAddLeaseRow.holds Try.pinned (OpenSpec.ofChange fnExactAddLeaseWrong)

/-- 'laws.FnExactBusyAt': WHATEVER THE INPUT: true; the input reads as it did. -/
def fnExactBusyAtSpec : ChangeSpec := { name := "fnExactBusyAt", fn := fun _ => fun
  | [d1, d2] => { results := [.lit (.bool true)], args := [d1, d2] }
  | _ => none }
def fnExactBusyAtRow : OpenClaim := { program := "ytncijbmahidjbac", sum := "504a6d79167b146a8cc08c0f4230a2cf91a7fb11b33bb474a41c0f5f9c11946f", func := "loop.example/connectionpool/laws.FnExactBusyAt", spec := "fnExactBusyAt", apart := false }
def FnExactBusyAtSaid : Prop := fnExactBusyAtRow.holds Try.pinned (OpenSpec.ofChange fnExactBusyAtSpec)

/-- ITS FALSE NEIGHBOUR: 'it returns false'. Refute it at one input. -/
def fnExactBusyAtWrong : ChangeSpec := { name := "fnExactBusyAt", fn := fun _ => fun
  | [d1, d2] => { results := [.lit (.bool false)], args := [d1, d2] }
  | _ => none }
def FnExactBusyAtWrongFalsely : Prop := fnExactBusyAtRow.holds Try.pinned (OpenSpec.ofChange fnExactBusyAtWrong)

/-- 'laws.FnExactFreeFor': WHATEVER THE INPUT: true; the input reads as it did. -/
def fnExactFreeForSpec : ChangeSpec := { name := "fnExactFreeFor", fn := fun _ => fun
  | [d1, d2, d3, d4] => { results := [.lit (.bool true)], args := [d1, d2, d3, d4] }
  | _ => none }
def fnExactFreeForRow : OpenClaim := { program := "ytncijbmahidjbac", sum := "504a6d79167b146a8cc08c0f4230a2cf91a7fb11b33bb474a41c0f5f9c11946f", func := "loop.example/connectionpool/laws.FnExactFreeFor", spec := "fnExactFreeFor", apart := false }
def FnExactFreeForSaid : Prop := fnExactFreeForRow.holds Try.pinned (OpenSpec.ofChange fnExactFreeForSpec)

/-- ITS FALSE NEIGHBOUR: 'it returns false'. Refute it at one input. -/
def fnExactFreeForWrong : ChangeSpec := { name := "fnExactFreeFor", fn := fun _ => fun
  | [d1, d2, d3, d4] => { results := [.lit (.bool false)], args := [d1, d2, d3, d4] }
  | _ => none }
def FnExactFreeForWrongFalsely : Prop := fnExactFreeForRow.holds Try.pinned (OpenSpec.ofChange fnExactFreeForWrong)

/-- 'laws.FnExactLeasedTime': WHATEVER THE INPUT: true; the input reads as it did. -/
def fnExactLeasedTimeSpec : ChangeSpec := { name := "fnExactLeasedTime", fn := fun _ => fun
  | [d1, d2] => { results := [.lit (.bool true)], args := [d1, d2] }
  | _ => none }
def fnExactLeasedTimeRow : OpenClaim := { program := "ytncijbmahidjbac", sum := "504a6d79167b146a8cc08c0f4230a2cf91a7fb11b33bb474a41c0f5f9c11946f", func := "loop.example/connectionpool/laws.FnExactLeasedTime", spec := "fnExactLeasedTime", apart := false }
def FnExactLeasedTimeSaid : Prop := fnExactLeasedTimeRow.holds Try.pinned (OpenSpec.ofChange fnExactLeasedTimeSpec)

/-- ITS FALSE NEIGHBOUR: 'it returns false'. Refute it at one input. -/
def fnExactLeasedTimeWrong : ChangeSpec := { name := "fnExactLeasedTime", fn := fun _ => fun
  | [d1, d2] => { results := [.lit (.bool false)], args := [d1, d2] }
  | _ => none }
def FnExactLeasedTimeWrongFalsely : Prop := fnExactLeasedTimeRow.holds Try.pinned (OpenSpec.ofChange fnExactLeasedTimeWrong)

/- THE SECOND FORM. 'bulk': how many values and letters a reading holds, each counted each time it is reached (what is shared counts as often as it is met; a slice's spare places count too). A statement '..UptoSaid' is the law's where the arguments, and the package variables that the reading takes, are together of bulk at most 1048576: NARROWER than '..Said'. Prove '..Said' where nothing that the law and all that it calls make is longer than what came in: it says more and counts as full. Else prove '..UptoSaid'. A law counts once. -/
mutual
def uptoBulk {H : Type} : DataW H → Nat
  | .lit (.string bytes) => bytes.length + 1
  | .lit _ => 1
  | .nil => 1
  | .ptr d => uptoBulk d + 1
  | .slice elems spare => uptoBulkAll elems + uptoBulkAll spare + 1
  | .agg parts => uptoBulkAll parts + 1
  | .iface _ d => uptoBulk d + 1
  | .map entries => uptoBulkEntries entries + 1
  | .held _ => 1
def uptoBulkAll {H : Type} : List (DataW H) → Nat
  | [] => 0
  | d :: r => uptoBulk d + uptoBulkAll r
def uptoBulkEntries {H : Type} : List (Lit × DataW H) → Nat
  | [] => 0
  | x :: r => uptoBulkEntry x + uptoBulkEntries r
def uptoBulkEntry {H : Type} : Lit × DataW H → Nat
  | (.string bytes, d) => bytes.length + uptoBulk d + 1
  | (_, d) => uptoBulk d + 1
 end
def uptoSmall : (H : Type) → List (DataW H) → Bool := fun _ ds => decide (uptoBulkAll ds ≤ 1048576)
def OpenSpec.upto (s : _root_.Go.ChangeSpec) : _root_.Go.OpenSpec := { _root_.Go.OpenSpec.ofChange s with cond := some uptoSmall }

/-- 'laws.FnExactOwnerAt', WHERE WHAT IT READS IS OF BULK AT MOST 1048576: true; the input reads as it did. -/
def fnExactOwnerAtUptoRow : OpenClaim := { program := "ytncijbmahidjbac", sum := "504a6d79167b146a8cc08c0f4230a2cf91a7fb11b33bb474a41c0f5f9c11946f", func := "loop.example/connectionpool/laws.FnExactOwnerAt", spec := "fnExactOwnerAt", apart := false, narrowed := true }
def FnExactOwnerAtUptoSaid : Prop := fnExactOwnerAtUptoRow.holds Try.pinned (OpenSpec.upto fnExactOwnerAtSpec)

/-- 'laws.FnExactAddLease', WHERE WHAT IT READS IS OF BULK AT MOST 1048576: true; the input reads as it did. -/
def fnExactAddLeaseUptoRow : OpenClaim := { program := "ytncijbmahidjbac", sum := "504a6d79167b146a8cc08c0f4230a2cf91a7fb11b33bb474a41c0f5f9c11946f", func := "loop.example/connectionpool/laws.FnExactAddLease", spec := "fnExactAddLease", apart := false, narrowed := true }
def FnExactAddLeaseUptoSaid : Prop := fnExactAddLeaseUptoRow.holds Try.pinned (OpenSpec.upto fnExactAddLeaseSpec)

/-- 'laws.FnExactBusyAt', WHERE WHAT IT READS IS OF BULK AT MOST 1048576: true; the input reads as it did. -/
def fnExactBusyAtUptoRow : OpenClaim := { program := "ytncijbmahidjbac", sum := "504a6d79167b146a8cc08c0f4230a2cf91a7fb11b33bb474a41c0f5f9c11946f", func := "loop.example/connectionpool/laws.FnExactBusyAt", spec := "fnExactBusyAt", apart := false, narrowed := true }
def FnExactBusyAtUptoSaid : Prop := fnExactBusyAtUptoRow.holds Try.pinned (OpenSpec.upto fnExactBusyAtSpec)

/-- 'laws.FnExactFreeFor', WHERE WHAT IT READS IS OF BULK AT MOST 1048576: true; the input reads as it did. -/
def fnExactFreeForUptoRow : OpenClaim := { program := "ytncijbmahidjbac", sum := "504a6d79167b146a8cc08c0f4230a2cf91a7fb11b33bb474a41c0f5f9c11946f", func := "loop.example/connectionpool/laws.FnExactFreeFor", spec := "fnExactFreeFor", apart := false, narrowed := true }
def FnExactFreeForUptoSaid : Prop := fnExactFreeForUptoRow.holds Try.pinned (OpenSpec.upto fnExactFreeForSpec)

/-- 'laws.FnExactLeasedTime', WHERE WHAT IT READS IS OF BULK AT MOST 1048576: true; the input reads as it did. -/
def fnExactLeasedTimeUptoRow : OpenClaim := { program := "ytncijbmahidjbac", sum := "504a6d79167b146a8cc08c0f4230a2cf91a7fb11b33bb474a41c0f5f9c11946f", func := "loop.example/connectionpool/laws.FnExactLeasedTime", spec := "fnExactLeasedTime", apart := false, narrowed := true }
def FnExactLeasedTimeUptoSaid : Prop := fnExactLeasedTimeUptoRow.holds Try.pinned (OpenSpec.upto fnExactLeasedTimeSpec)

end Rows
end Go.Proofs.Ytncijbmahidjbac

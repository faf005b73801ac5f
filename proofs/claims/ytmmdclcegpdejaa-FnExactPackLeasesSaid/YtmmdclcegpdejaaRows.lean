/-
  No cell of these rows narrows 'for every input' (looked for: loops, veiled, ifaces, maps, wideKeys, modest, calm, conditions, laid).
  DERIVED. THE GIVEN ROWS OF THIS SEAT. 7 by the template 'for every input the law returns true; each argument reads behind the call as it read before'; 0 by the template 'total and deterministic' (their statements: YtmmdclcegpdejaaTotals.lean).
  GIVEN WITH THE SEED: the statements are not yours to turn. If you find one false, say at which input.
  Laid BY PROGRAM, IN A SANDBOX (cutbox-rows.mjs): the forced cells as the released guide's own fill.sh prints them over the translation 288747f6b504e78a… (all of the seat's roots in one cut). By AI agents, Wed Nov 11 2026. No macro, syntax, notation, axiom, sorry.
-/
import Derived.Test.YtmmdclcegpdejaaChecked
import GoSem.Claim
import GoSem.ClaimJoined
import GoSem.ClaimMapViews
import Derived.JoinedTies
import Derived.KernelRfl
namespace Go.Proofs.Ytmmdclcegpdejaa
/- THE CELL 'sum', in the pinned program and in every row, IS THE sha256 OF THE DUMP (.gsa) THAT YtmmdclcegpdejaaProg.lean LOADS. Nothing in Lean hashes anything: it is a label: what it is worth is what the hold of that sum in a sandbox is worth. -/
noncomputable def Try.pinned : Pinned := { name := "ytmmdclcegpdejaa", sum := "288747f6b504e78a5730017ba782ab3097848c480f647e88a28b293bbd1f08c8", checked := Try.checked }
namespace Rows
def none {H : Type} : Left H := { results := [], args := [] }

/-- 'laws.FnExactMostLeased': WHATEVER THE INPUT: true; the input reads as it did. -/
def fnExactMostLeasedSpec : ChangeSpec := { name := "fnExactMostLeased", fn := fun _ => fun
  | [d] => { results := [.lit (.bool true)], args := [d] }
  | _ => none }
def fnExactMostLeasedRow : OpenClaim := { program := "ytmmdclcegpdejaa", sum := "288747f6b504e78a5730017ba782ab3097848c480f647e88a28b293bbd1f08c8", func := "loop.example/connectionpool/laws.FnExactMostLeased", spec := "fnExactMostLeased", apart := false }
def FnExactMostLeasedSaid : Prop := fnExactMostLeasedRow.holds Try.pinned (OpenSpec.ofChange fnExactMostLeasedSpec)

/-- ITS FALSE NEIGHBOUR: 'it returns false'. Refute it at one input. -/
def fnExactMostLeasedWrong : ChangeSpec := { name := "fnExactMostLeased", fn := fun _ => fun
  | [d] => { results := [.lit (.bool false)], args := [d] }
  | _ => none }
def FnExactMostLeasedWrongFalsely : Prop := fnExactMostLeasedRow.holds Try.pinned (OpenSpec.ofChange fnExactMostLeasedWrong)

/-- 'laws.FnExactMeanLeased': WHATEVER THE INPUT: true; the input reads as it did. -/
def fnExactMeanLeasedSpec : ChangeSpec := { name := "fnExactMeanLeased", fn := fun _ => fun
  | [d1, d2] => { results := [.lit (.bool true)], args := [d1, d2] }
  | _ => none }
def fnExactMeanLeasedRow : OpenClaim := { program := "ytmmdclcegpdejaa", sum := "288747f6b504e78a5730017ba782ab3097848c480f647e88a28b293bbd1f08c8", func := "loop.example/connectionpool/laws.FnExactMeanLeased", spec := "fnExactMeanLeased", apart := false }
def FnExactMeanLeasedSaid : Prop := fnExactMeanLeasedRow.holds Try.pinned (OpenSpec.ofChange fnExactMeanLeasedSpec)

/-- ITS FALSE NEIGHBOUR: 'it returns false'. Refute it at one input. -/
def fnExactMeanLeasedWrong : ChangeSpec := { name := "fnExactMeanLeased", fn := fun _ => fun
  | [d1, d2] => { results := [.lit (.bool false)], args := [d1, d2] }
  | _ => none }
def FnExactMeanLeasedWrongFalsely : Prop := fnExactMeanLeasedRow.holds Try.pinned (OpenSpec.ofChange fnExactMeanLeasedWrong)

/-- 'laws.FnExactPackLeases': WHATEVER THE INPUT: true; the input reads as it did. -/
def fnExactPackLeasesSpec : ChangeSpec := { name := "fnExactPackLeases", fn := fun _ => fun
  | [d] => { results := [.lit (.bool true)], args := [d] }
  | _ => none }
def fnExactPackLeasesRow : OpenClaim := { program := "ytmmdclcegpdejaa", sum := "288747f6b504e78a5730017ba782ab3097848c480f647e88a28b293bbd1f08c8", func := "loop.example/connectionpool/laws.FnExactPackLeases", spec := "fnExactPackLeases", apart := false }
def FnExactPackLeasesSaid : Prop := fnExactPackLeasesRow.holds Try.pinned (OpenSpec.ofChange fnExactPackLeasesSpec)

/-- ITS FALSE NEIGHBOUR: 'it returns false'. Refute it at one input. -/
def fnExactPackLeasesWrong : ChangeSpec := { name := "fnExactPackLeases", fn := fun _ => fun
  | [d] => { results := [.lit (.bool false)], args := [d] }
  | _ => none }
def FnExactPackLeasesWrongFalsely : Prop := fnExactPackLeasesRow.holds Try.pinned (OpenSpec.ofChange fnExactPackLeasesWrong)

/-- 'laws.FnExactSizeFor': WHATEVER THE INPUT: true; the input reads as it did. -/
def fnExactSizeForSpec : ChangeSpec := { name := "fnExactSizeFor", fn := fun _ => fun
  | [d1, d2] => { results := [.lit (.bool true)], args := [d1, d2] }
  | _ => none }
def fnExactSizeForRow : OpenClaim := { program := "ytmmdclcegpdejaa", sum := "288747f6b504e78a5730017ba782ab3097848c480f647e88a28b293bbd1f08c8", func := "loop.example/connectionpool/laws.FnExactSizeFor", spec := "fnExactSizeFor", apart := false }
def FnExactSizeForSaid : Prop := fnExactSizeForRow.holds Try.pinned (OpenSpec.ofChange fnExactSizeForSpec)

/-- ITS FALSE NEIGHBOUR: 'it returns false'. Refute it at one input. -/
def fnExactSizeForWrong : ChangeSpec := { name := "fnExactSizeFor", fn := fun _ => fun
  | [d1, d2] => { results := [.lit (.bool false)], args := [d1, d2] }
  | _ => none }
def FnExactSizeForWrongFalsely : Prop := fnExactSizeForRow.holds Try.pinned (OpenSpec.ofChange fnExactSizeForWrong)

/-- 'laws.FnSizeFor': WHATEVER THE INPUT: true; the input reads as it did. -/
def fnSizeForSpec : ChangeSpec := { name := "fnSizeFor", fn := fun _ => fun
  | [d] => { results := [.lit (.bool true)], args := [d] }
  | _ => none }
def fnSizeForRow : OpenClaim := { program := "ytmmdclcegpdejaa", sum := "288747f6b504e78a5730017ba782ab3097848c480f647e88a28b293bbd1f08c8", func := "loop.example/connectionpool/laws.FnSizeFor", spec := "fnSizeFor", apart := false }
def FnSizeForSaid : Prop := fnSizeForRow.holds Try.pinned (OpenSpec.ofChange fnSizeForSpec)

/-- ITS FALSE NEIGHBOUR: 'it returns false'. Refute it at one input. -/
def fnSizeForWrong : ChangeSpec := { name := "fnSizeFor", fn := fun _ => fun
  | [d] => { results := [.lit (.bool false)], args := [d] }
  | _ => none }
def FnSizeForWrongFalsely : Prop := fnSizeForRow.holds Try.pinned (OpenSpec.ofChange fnSizeForWrong)

/-- 'laws.FnSizeForMore': WHATEVER THE INPUT: true; the input reads as it did. -/
def fnSizeForMoreSpec : ChangeSpec := { name := "fnSizeForMore", fn := fun _ => fun
  | [d] => { results := [.lit (.bool true)], args := [d] }
  | _ => none }
def fnSizeForMoreRow : OpenClaim := { program := "ytmmdclcegpdejaa", sum := "288747f6b504e78a5730017ba782ab3097848c480f647e88a28b293bbd1f08c8", func := "loop.example/connectionpool/laws.FnSizeForMore", spec := "fnSizeForMore", apart := false }
def FnSizeForMoreSaid : Prop := fnSizeForMoreRow.holds Try.pinned (OpenSpec.ofChange fnSizeForMoreSpec)

/-- ITS FALSE NEIGHBOUR: 'it returns false'. Refute it at one input. -/
def fnSizeForMoreWrong : ChangeSpec := { name := "fnSizeForMore", fn := fun _ => fun
  | [d] => { results := [.lit (.bool false)], args := [d] }
  | _ => none }
def FnSizeForMoreWrongFalsely : Prop := fnSizeForMoreRow.holds Try.pinned (OpenSpec.ofChange fnSizeForMoreWrong)

/-- 'laws.FnBusyAt': WHATEVER THE INPUT: true; the input reads as it did. -/
def fnBusyAtSpec : ChangeSpec := { name := "fnBusyAt", fn := fun _ => fun
  | [d] => { results := [.lit (.bool true)], args := [d] }
  | _ => none }
def fnBusyAtRow : OpenClaim := { program := "ytmmdclcegpdejaa", sum := "288747f6b504e78a5730017ba782ab3097848c480f647e88a28b293bbd1f08c8", func := "loop.example/connectionpool/laws.FnBusyAt", spec := "fnBusyAt", apart := false }
def FnBusyAtSaid : Prop := fnBusyAtRow.holds Try.pinned (OpenSpec.ofChange fnBusyAtSpec)

/-- ITS FALSE NEIGHBOUR: 'it returns false'. Refute it at one input. -/
def fnBusyAtWrong : ChangeSpec := { name := "fnBusyAt", fn := fun _ => fun
  | [d] => { results := [.lit (.bool false)], args := [d] }
  | _ => none }
def FnBusyAtWrongFalsely : Prop := fnBusyAtRow.holds Try.pinned (OpenSpec.ofChange fnBusyAtWrong)

/- THE SECOND FORM. 'bulk': how many values and letters a reading holds, each counted each time it is reached (what is shared counts as often as it is met; a slice's spare places count too). A statement '..UptoSaid' is the law's where the arguments, and the package variables that the reading takes, are together of bulk at most 1048576: NARROWER than '..Said'. Prove '..Said' where nothing that the law and all that it calls make is longer than what came in: it says more and counts as full. Else prove '..UptoSaid'. A law counts once. -/
mutual
def uptoBulk {H : Type} : DataW H → Nat
  | .lit (.string bytes) => bytes.length + 1
  | .lit _ => 1
  | .nil => 1
  | .ptr d => uptoBulk d + 1
  | .slice elems spare => uptoBulkAll elems + uptoBulkAll spare + 1
  | .agg parts => uptoBulkAll parts + 1
  | .iface _ d => uptoBulk d + 1
  | .map entries => uptoBulkEntries entries + 1
  | .held _ => 1
def uptoBulkAll {H : Type} : List (DataW H) → Nat
  | [] => 0
  | d :: r => uptoBulk d + uptoBulkAll r
def uptoBulkEntries {H : Type} : List (Lit × DataW H) → Nat
  | [] => 0
  | x :: r => uptoBulkEntry x + uptoBulkEntries r
def uptoBulkEntry {H : Type} : Lit × DataW H → Nat
  | (.string bytes, d) => bytes.length + uptoBulk d + 1
  | (_, d) => uptoBulk d + 1
 end
def uptoSmall : (H : Type) → List (DataW H) → Bool := fun _ ds => decide (uptoBulkAll ds ≤ 1048576)
def OpenSpec.upto (s : _root_.Go.ChangeSpec) : _root_.Go.OpenSpec := { _root_.Go.OpenSpec.ofChange s with cond := some uptoSmall }

/-- 'laws.FnExactMostLeased', WHERE WHAT IT READS IS OF BULK AT MOST 1048576: true; the input reads as it did. -/
def fnExactMostLeasedUptoRow : OpenClaim := { program := "ytmmdclcegpdejaa", sum := "288747f6b504e78a5730017ba782ab3097848c480f647e88a28b293bbd1f08c8", func := "loop.example/connectionpool/laws.FnExactMostLeased", spec := "fnExactMostLeased", apart := false, narrowed := true }
def FnExactMostLeasedUptoSaid : Prop := fnExactMostLeasedUptoRow.holds Try.pinned (OpenSpec.upto fnExactMostLeasedSpec)

/-- 'laws.FnExactMeanLeased', WHERE WHAT IT READS IS OF BULK AT MOST 1048576: true; the input reads as it did. -/
def fnExactMeanLeasedUptoRow : OpenClaim := { program := "ytmmdclcegpdejaa", sum := "288747f6b504e78a5730017ba782ab3097848c480f647e88a28b293bbd1f08c8", func := "loop.example/connectionpool/laws.FnExactMeanLeased", spec := "fnExactMeanLeased", apart := false, narrowed := true }
def FnExactMeanLeasedUptoSaid : Prop := fnExactMeanLeasedUptoRow.holds Try.pinned (OpenSpec.upto fnExactMeanLeasedSpec)

/-- 'laws.FnExactPackLeases', WHERE WHAT IT READS IS OF BULK AT MOST 1048576: true; the input reads as it did. -/
def fnExactPackLeasesUptoRow : OpenClaim := { program := "ytmmdclcegpdejaa", sum := "288747f6b504e78a5730017ba782ab3097848c480f647e88a28b293bbd1f08c8", func := "loop.example/connectionpool/laws.FnExactPackLeases", spec := "fnExactPackLeases", apart := false, narrowed := true }
def FnExactPackLeasesUptoSaid : Prop := fnExactPackLeasesUptoRow.holds Try.pinned (OpenSpec.upto fnExactPackLeasesSpec)

/-- 'laws.FnExactSizeFor', WHERE WHAT IT READS IS OF BULK AT MOST 1048576: true; the input reads as it did. -/
def fnExactSizeForUptoRow : OpenClaim := { program := "ytmmdclcegpdejaa", sum := "288747f6b504e78a5730017ba782ab3097848c480f647e88a28b293bbd1f08c8", func := "loop.example/connectionpool/laws.FnExactSizeFor", spec := "fnExactSizeFor", apart := false, narrowed := true }
def FnExactSizeForUptoSaid : Prop := fnExactSizeForUptoRow.holds Try.pinned (OpenSpec.upto fnExactSizeForSpec)

/-- 'laws.FnSizeFor', WHERE WHAT IT READS IS OF BULK AT MOST 1048576: true; the input reads as it did. -/
def fnSizeForUptoRow : OpenClaim := { program := "ytmmdclcegpdejaa", sum := "288747f6b504e78a5730017ba782ab3097848c480f647e88a28b293bbd1f08c8", func := "loop.example/connectionpool/laws.FnSizeFor", spec := "fnSizeFor", apart := false, narrowed := true }
def FnSizeForUptoSaid : Prop := fnSizeForUptoRow.holds Try.pinned (OpenSpec.upto fnSizeForSpec)

/-- 'laws.FnSizeForMore', WHERE WHAT IT READS IS OF BULK AT MOST 1048576: true; the input reads as it did. -/
def fnSizeForMoreUptoRow : OpenClaim := { program := "ytmmdclcegpdejaa", sum := "288747f6b504e78a5730017ba782ab3097848c480f647e88a28b293bbd1f08c8", func := "loop.example/connectionpool/laws.FnSizeForMore", spec := "fnSizeForMore", apart := false, narrowed := true }
def FnSizeForMoreUptoSaid : Prop := fnSizeForMoreUptoRow.holds Try.pinned (OpenSpec.upto fnSizeForMoreSpec)

/-- 'laws.FnBusyAt', WHERE WHAT IT READS IS OF BULK AT MOST 1048576: true; the input reads as it did. -/
def fnBusyAtUptoRow : OpenClaim := { program := "ytmmdclcegpdejaa", sum := "288747f6b504e78a5730017ba782ab3097848c480f647e88a28b293bbd1f08c8", func := "loop.example/connectionpool/laws.FnBusyAt", spec := "fnBusyAt", apart := false, narrowed := true }
def FnBusyAtUptoSaid : Prop := fnBusyAtUptoRow.holds Try.pinned (OpenSpec.upto fnBusyAtSpec)

end Rows
end Go.Proofs.Ytmmdclcegpdejaa

/-
  No cell of these rows narrows 'for every input' (looked for: loops, veiled, ifaces, maps, wideKeys, modest, calm, conditions, laid).
  DERIVED. THE GIVEN ROWS OF THIS SEAT. 8 by the template 'for every input the law returns true; each argument reads behind the call as it read before'; 0 by the template 'total and deterministic' (their statements: YtahnglpadmmidaaTotals.lean).
  GIVEN WITH THE SEED: the statements are not yours to turn. If you find one false, say at which input.
  Laid BY PROGRAM, IN A SANDBOX (cutbox-rows.mjs): the forced cells as the released guide's own fill.sh prints them over the translation 78cc8d282495122c… (all of the seat's roots in one cut). By AI agents, Wed Nov 11 2026. No macro, syntax, notation, axiom, sorry.
-/
import Derived.Test.YtahnglpadmmidaaChecked
import GoSem.Claim
import GoSem.ClaimJoined
import GoSem.ClaimMapViews
import Derived.JoinedTies
import Derived.KernelRfl
namespace Go.Proofs.Ytahnglpadmmidaa
/- THE CELL 'sum', in the pinned program and in every row, IS THE sha256 OF THE DUMP (.gsa) THAT YtahnglpadmmidaaProg.lean LOADS. Nothing in Lean hashes anything: it is a label: what it is worth is what the hold of that sum in a sandbox is worth. -/
noncomputable def Try.pinned : Pinned := { name := "ytahnglpadmmidaa", sum := "78cc8d282495122c6e5618385b5cced1db6d52827f57169b47150932cd90151e", checked := Try.checked }
namespace Rows
def none {H : Type} : Left H := { results := [], args := [] }

/-- 'laws.FnExactAddLease': WHATEVER THE INPUT: true; the input reads as it did. -/
def fnExactAddLeaseSpec : ChangeSpec := { name := "fnExactAddLease", fn := fun _ => fun
  | [d1, d2] => { results := [.lit (.bool true)], args := [d1, d2] }
  | _ => none }
def fnExactAddLeaseRow : OpenClaim := { program := "ytahnglpadmmidaa", sum := "78cc8d282495122c6e5618385b5cced1db6d52827f57169b47150932cd90151e", func := "loop.example/connectionpool/laws.FnExactAddLease", spec := "fnExactAddLease", apart := false }
def FnExactAddLeaseSaid : Prop := fnExactAddLeaseRow.holds Try.pinned (OpenSpec.ofChange fnExactAddLeaseSpec)

/-- ITS FALSE NEIGHBOUR: 'it returns false'. Refute it at one input. -/
def fnExactAddLeaseWrong : ChangeSpec := { name := "fnExactAddLease", fn := fun _ => fun
  | [d1, d2] => { results := [.lit (.bool false)], args := [d1, d2] }
  | _ => none }
def FnExactAddLeaseWrongFalsely : Prop := fnExactAddLeaseRow.holds Try.pinned (OpenSpec.ofChange fnExactAddLeaseWrong)

/-- 'laws.FnAddLease': WHATEVER THE INPUT: true; the input reads as it did. -/
def fnAddLeaseSpec : ChangeSpec := { name := "fnAddLease", fn := fun _ => fun
  | [d] => { results := [.lit (.bool true)], args := [d] }
  | _ => none }
def fnAddLeaseRow : OpenClaim := { program := "ytahnglpadmmidaa", sum := "78cc8d282495122c6e5618385b5cced1db6d52827f57169b47150932cd90151e", func := "loop.example/connectionpool/laws.FnAddLease", spec := "fnAddLease", apart := false }
def FnAddLeaseSaid : Prop := fnAddLeaseRow.holds Try.pinned (OpenSpec.ofChange fnAddLeaseSpec)

/-- ITS FALSE NEIGHBOUR: 'it returns false'. Refute it at one input. -/
def fnAddLeaseWrong : ChangeSpec := { name := "fnAddLease", fn := fun _ => fun
  | [d] => { results := [.lit (.bool false)], args := [d] }
  | _ => none }
def FnAddLeaseWrongFalsely : Prop := fnAddLeaseRow.holds Try.pinned (OpenSpec.ofChange fnAddLeaseWrong)

/-- 'laws.FnAddLeaseTwice': WHATEVER THE INPUT: true; the input reads as it did. -/
def fnAddLeaseTwiceSpec : ChangeSpec := { name := "fnAddLeaseTwice", fn := fun _ => fun
  | [d] => { results := [.lit (.bool true)], args := [d] }
  | _ => none }
def fnAddLeaseTwiceRow : OpenClaim := { program := "ytahnglpadmmidaa", sum := "78cc8d282495122c6e5618385b5cced1db6d52827f57169b47150932cd90151e", func := "loop.example/connectionpool/laws.FnAddLeaseTwice", spec := "fnAddLeaseTwice", apart := false }
def FnAddLeaseTwiceSaid : Prop := fnAddLeaseTwiceRow.holds Try.pinned (OpenSpec.ofChange fnAddLeaseTwiceSpec)

/-- ITS FALSE NEIGHBOUR: 'it returns false'. Refute it at one input. -/
def fnAddLeaseTwiceWrong : ChangeSpec := { name := "fnAddLeaseTwice", fn := fun _ => fun
  | [d] => { results := [.lit (.bool false)], args := [d] }
  | _ => none }
def FnAddLeaseTwiceWrongFalsely : Prop := fnAddLeaseTwiceRow.holds Try.pinned (OpenSpec.ofChange fnAddLeaseTwiceWrong)

/-- 'laws.FnAddLeaseOrder': WHATEVER THE INPUT: true; the input reads as it did. -/
def fnAddLeaseOrderSpec : ChangeSpec := { name := "fnAddLeaseOrder", fn := fun _ => fun
  | [d] => { results := [.lit (.bool true)], args := [d] }
  | _ => none }
def fnAddLeaseOrderRow : OpenClaim := { program := "ytahnglpadmmidaa", sum := "78cc8d282495122c6e5618385b5cced1db6d52827f57169b47150932cd90151e", func := "loop.example/connectionpool/laws.FnAddLeaseOrder", spec := "fnAddLeaseOrder", apart := false }
def FnAddLeaseOrderSaid : Prop := fnAddLeaseOrderRow.holds Try.pinned (OpenSpec.ofChange fnAddLeaseOrderSpec)

/-- ITS FALSE NEIGHBOUR: 'it returns false'. Refute it at one input. -/
def fnAddLeaseOrderWrong : ChangeSpec := { name := "fnAddLeaseOrder", fn := fun _ => fun
  | [d] => { results := [.lit (.bool false)], args := [d] }
  | _ => none }
def FnAddLeaseOrderWrongFalsely : Prop := fnAddLeaseOrderRow.holds Try.pinned (OpenSpec.ofChange fnAddLeaseOrderWrong)

/-- 'laws.FnFreeFor': WHATEVER THE INPUT: true; the input reads as it did. -/
def fnFreeForSpec : ChangeSpec := { name := "fnFreeFor", fn := fun _ => fun
  | [d] => { results := [.lit (.bool true)], args := [d] }
  | _ => none }
def fnFreeForRow : OpenClaim := { program := "ytahnglpadmmidaa", sum := "78cc8d282495122c6e5618385b5cced1db6d52827f57169b47150932cd90151e", func := "loop.example/connectionpool/laws.FnFreeFor", spec := "fnFreeFor", apart := false }
def FnFreeForSaid : Prop := fnFreeForRow.holds Try.pinned (OpenSpec.ofChange fnFreeForSpec)

/-- ITS FALSE NEIGHBOUR: 'it returns false'. Refute it at one input. -/
def fnFreeForWrong : ChangeSpec := { name := "fnFreeFor", fn := fun _ => fun
  | [d] => { results := [.lit (.bool false)], args := [d] }
  | _ => none }
def FnFreeForWrongFalsely : Prop := fnFreeForRow.holds Try.pinned (OpenSpec.ofChange fnFreeForWrong)

/-- 'laws.FnBreakerPath': WHATEVER THE INPUT: true; the input reads as it did. -/
def fnBreakerPathSpec : ChangeSpec := { name := "fnBreakerPath", fn := fun _ => fun
  | [d] => { results := [.lit (.bool true)], args := [d] }
  | _ => none }
def fnBreakerPathRow : OpenClaim := { program := "ytahnglpadmmidaa", sum := "78cc8d282495122c6e5618385b5cced1db6d52827f57169b47150932cd90151e", func := "loop.example/connectionpool/laws.FnBreakerPath", spec := "fnBreakerPath", apart := false }
def FnBreakerPathSaid : Prop := fnBreakerPathRow.holds Try.pinned (OpenSpec.ofChange fnBreakerPathSpec)

/-- ITS FALSE NEIGHBOUR: 'it returns false'. Refute it at one input. -/
def fnBreakerPathWrong : ChangeSpec := { name := "fnBreakerPath", fn := fun _ => fun
  | [d] => { results := [.lit (.bool false)], args := [d] }
  | _ => none }
def FnBreakerPathWrongFalsely : Prop := fnBreakerPathRow.holds Try.pinned (OpenSpec.ofChange fnBreakerPathWrong)

/-- 'laws.FnBreakerPathStep': WHATEVER THE INPUT: true; the input reads as it did. -/
def fnBreakerPathStepSpec : ChangeSpec := { name := "fnBreakerPathStep", fn := fun _ => fun
  | [d] => { results := [.lit (.bool true)], args := [d] }
  | _ => none }
def fnBreakerPathStepRow : OpenClaim := { program := "ytahnglpadmmidaa", sum := "78cc8d282495122c6e5618385b5cced1db6d52827f57169b47150932cd90151e", func := "loop.example/connectionpool/laws.FnBreakerPathStep", spec := "fnBreakerPathStep", apart := false }
def FnBreakerPathStepSaid : Prop := fnBreakerPathStepRow.holds Try.pinned (OpenSpec.ofChange fnBreakerPathStepSpec)

/-- ITS FALSE NEIGHBOUR: 'it returns false'. Refute it at one input. -/
def fnBreakerPathStepWrong : ChangeSpec := { name := "fnBreakerPathStep", fn := fun _ => fun
  | [d] => { results := [.lit (.bool false)], args := [d] }
  | _ => none }
def FnBreakerPathStepWrongFalsely : Prop := fnBreakerPathStepRow.holds Try.pinned (OpenSpec.ofChange fnBreakerPathStepWrong)

/-- 'laws.FnBreakerPathGood': WHATEVER THE INPUT: true; the input reads as it did. -/
def fnBreakerPathGoodSpec : ChangeSpec := { name := "fnBreakerPathGood", fn := fun _ => fun
  | [d] => { results := [.lit (.bool true)], args := [d] }
  | _ => none }
def fnBreakerPathGoodRow : OpenClaim := { program := "ytahnglpadmmidaa", sum := "78cc8d282495122c6e5618385b5cced1db6d52827f57169b47150932cd90151e", func := "loop.example/connectionpool/laws.FnBreakerPathGood", spec := "fnBreakerPathGood", apart := false }
def FnBreakerPathGoodSaid : Prop := fnBreakerPathGoodRow.holds Try.pinned (OpenSpec.ofChange fnBreakerPathGoodSpec)

/-- ITS FALSE NEIGHBOUR: 'it returns false'. Refute it at one input. -/
def fnBreakerPathGoodWrong : ChangeSpec := { name := "fnBreakerPathGood", fn := fun _ => fun
  | [d] => { results := [.lit (.bool false)], args := [d] }
  | _ => none }
def FnBreakerPathGoodWrongFalsely : Prop := fnBreakerPathGoodRow.holds Try.pinned (OpenSpec.ofChange fnBreakerPathGoodWrong)

/- THE SECOND FORM. 'bulk': how many values and letters a reading holds, each counted each time it is reached (what is shared counts as often as it is met; a slice's spare places count too). A statement '..UptoSaid' is the law's where the arguments, and the package variables that the reading takes, are together of bulk at most 1048576: NARROWER than '..Said'. Prove '..Said' where nothing that the law and all that it calls make is longer than what came in: it says more and counts as full. Else prove '..UptoSaid'. A law counts once. -/
mutual
def uptoBulk {H : Type} : DataW H → Nat
  | .lit (.string bytes) => bytes.length + 1
  | .lit _ => 1
  | .nil => 1
  | .ptr d => uptoBulk d + 1
  | .slice elems spare => uptoBulkAll elems + uptoBulkAll spare + 1
  | .agg parts => uptoBulkAll parts + 1
  | .iface _ d => uptoBulk d + 1
  | .map entries => uptoBulkEntries entries + 1
  | .held _ => 1
def uptoBulkAll {H : Type} : List (DataW H) → Nat
  | [] => 0
  | d :: r => uptoBulk d + uptoBulkAll r
def uptoBulkEntries {H : Type} : List (Lit × DataW H) → Nat
  | [] => 0
  | x :: r => uptoBulkEntry x + uptoBulkEntries r
def uptoBulkEntry {H : Type} : Lit × DataW H → Nat
  | (.string bytes, d) => bytes.length + uptoBulk d + 1
  | (_, d) => uptoBulk d + 1
 end
def uptoSmall : (H : Type) → List (DataW H) → Bool := fun _ ds => decide (uptoBulkAll ds ≤ 1048576)
def OpenSpec.upto (s : _root_.Go.ChangeSpec) : _root_.Go.OpenSpec := { _root_.Go.OpenSpec.ofChange s with cond := some uptoSmall }

/-- 'laws.FnExactAddLease', WHERE WHAT IT READS IS OF BULK AT MOST 1048576: true; the input reads as it did. -/
def fnExactAddLeaseUptoRow : OpenClaim := { program := "ytahnglpadmmidaa", sum := "78cc8d282495122c6e5618385b5cced1db6d52827f57169b47150932cd90151e", func := "loop.example/connectionpool/laws.FnExactAddLease", spec := "fnExactAddLease", apart := false, narrowed := true }
def FnExactAddLeaseUptoSaid : Prop := fnExactAddLeaseUptoRow.holds Try.pinned (OpenSpec.upto fnExactAddLeaseSpec)

/-- 'laws.FnAddLease', WHERE WHAT IT READS IS OF BULK AT MOST 1048576: true; the input reads as it did. -/
def fnAddLeaseUptoRow : OpenClaim := { program := "ytahnglpadmmidaa", sum := "78cc8d282495122c6e5618385b5cced1db6d52827f57169b47150932cd90151e", func := "loop.example/connectionpool/laws.FnAddLease", spec := "fnAddLease", apart := false, narrowed := true }
def FnAddLeaseUptoSaid : Prop := fnAddLeaseUptoRow.holds Try.pinned (OpenSpec.upto fnAddLeaseSpec)

/-- 'laws.FnAddLeaseTwice', WHERE WHAT IT READS IS OF BULK AT MOST 1048576: true; the input reads as it did. -/
def fnAddLeaseTwiceUptoRow : OpenClaim := { program := "ytahnglpadmmidaa", sum := "78cc8d282495122c6e5618385b5cced1db6d52827f57169b47150932cd90151e", func := "loop.example/connectionpool/laws.FnAddLeaseTwice", spec := "fnAddLeaseTwice", apart := false, narrowed := true }
def FnAddLeaseTwiceUptoSaid : Prop := fnAddLeaseTwiceUptoRow.holds Try.pinned (OpenSpec.upto fnAddLeaseTwiceSpec)

/-- 'laws.FnAddLeaseOrder', WHERE WHAT IT READS IS OF BULK AT MOST 1048576: true; the input reads as it did. -/
def fnAddLeaseOrderUptoRow : OpenClaim := { program := "ytahnglpadmmidaa", sum := "78cc8d282495122c6e5618385b5cced1db6d52827f57169b47150932cd90151e", func := "loop.example/connectionpool/laws.FnAddLeaseOrder", spec := "fnAddLeaseOrder", apart := false, narrowed := true }
def FnAddLeaseOrderUptoSaid : Prop := fnAddLeaseOrderUptoRow.holds Try.pinned (OpenSpec.upto fnAddLeaseOrderSpec)

/-- 'laws.FnFreeFor', WHERE WHAT IT READS IS OF BULK AT MOST 1048576: true; the input reads as it did. -/
def fnFreeForUptoRow : OpenClaim := { program := "ytahnglpadmmidaa", sum := "78cc8d282495122c6e5618385b5cced1db6d52827f57169b47150932cd90151e", func := "loop.example/connectionpool/laws.FnFreeFor", spec := "fnFreeFor", apart := false, narrowed := true }
def FnFreeForUptoSaid : Prop := fnFreeForUptoRow.holds Try.pinned (OpenSpec.upto fnFreeForSpec)

/-- 'laws.FnBreakerPath', WHERE WHAT IT READS IS OF BULK AT MOST 1048576: true; the input reads as it did. -/
def fnBreakerPathUptoRow : OpenClaim := { program := "ytahnglpadmmidaa", sum := "78cc8d282495122c6e5618385b5cced1db6d52827f57169b47150932cd90151e", func := "loop.example/connectionpool/laws.FnBreakerPath", spec := "fnBreakerPath", apart := false, narrowed := true }
def FnBreakerPathUptoSaid : Prop := fnBreakerPathUptoRow.holds Try.pinned (OpenSpec.upto fnBreakerPathSpec)

/-- 'laws.FnBreakerPathStep', WHERE WHAT IT READS IS OF BULK AT MOST 1048576: true; the input reads as it did. -/
def fnBreakerPathStepUptoRow : OpenClaim := { program := "ytahnglpadmmidaa", sum := "78cc8d282495122c6e5618385b5cced1db6d52827f57169b47150932cd90151e", func := "loop.example/connectionpool/laws.FnBreakerPathStep", spec := "fnBreakerPathStep", apart := false, narrowed := true }
def FnBreakerPathStepUptoSaid : Prop := fnBreakerPathStepUptoRow.holds Try.pinned (OpenSpec.upto fnBreakerPathStepSpec)

/-- 'laws.FnBreakerPathGood', WHERE WHAT IT READS IS OF BULK AT MOST 1048576: true; the input reads as it did. -/
def fnBreakerPathGoodUptoRow : OpenClaim := { program := "ytahnglpadmmidaa", sum := "78cc8d282495122c6e5618385b5cced1db6d52827f57169b47150932cd90151e", func := "loop.example/connectionpool/laws.FnBreakerPathGood", spec := "fnBreakerPathGood", apart := false, narrowed := true }
def FnBreakerPathGoodUptoSaid : Prop := fnBreakerPathGoodUptoRow.holds Try.pinned (OpenSpec.upto fnBreakerPathGoodSpec)

end Rows
end Go.Proofs.Ytahnglpadmmidaa

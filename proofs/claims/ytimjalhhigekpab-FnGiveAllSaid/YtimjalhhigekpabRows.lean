/-
  No cell of these rows narrows 'for every input' (looked for: loops, veiled, ifaces, maps, wideKeys, modest, calm, conditions, laid).
  DERIVED. THE GIVEN ROWS OF THIS SEAT. 5 by the template 'for every input the law returns true; each argument reads behind the call as it read before'; 0 by the template 'total and deterministic' (their statements: YtimjalhhigekpabTotals.lean).
  GIVEN WITH THE SEED: the statements are not yours to turn. If you find one false, say at which input.
  Laid BY PROGRAM, IN A SANDBOX (cutbox-rows.mjs): the forced cells as the released guide's own fill.sh prints them over the translation d7d51859a3bd1156… (all of the seat's roots in one cut). By AI agents, Wed Nov 11 2026. No macro, syntax, notation, axiom, sorry.
-/
import Derived.Test.YtimjalhhigekpabChecked
import GoSem.Claim
import GoSem.ClaimJoined
import GoSem.ClaimMapViews
import Derived.JoinedTies
import Derived.KernelRfl
namespace Go.Proofs.Ytimjalhhigekpab
/- THE CELL 'sum', in the pinned program and in every row, IS THE sha256 OF THE DUMP (.gsa) THAT YtimjalhhigekpabProg.lean LOADS. Nothing in Lean hashes anything: it is a label: what it is worth is what the hold of that sum in a sandbox is worth. -/
noncomputable def Try.pinned : Pinned := { name := "ytimjalhhigekpab", sum := "d7d51859a3bd11565a2c1a31b8cbaf36c0b57275aa76e64d894291f3d87aba84", checked := Try.checked }
namespace Rows
def none {H : Type} : Left H := { results := [], args := [] }

/-- 'laws.FnNextOwnerNone': WHATEVER THE INPUT: true; the input reads as it did. -/
def fnNextOwnerNoneSpec : ChangeSpec := { name := "fnNextOwnerNone", fn := fun _ => fun
  | [d] => { results := [.lit (.bool true)], args := [d] }
  | _ => none }
def fnNextOwnerNoneRow : OpenClaim := { program := "ytimjalhhigekpab", sum := "d7d51859a3bd11565a2c1a31b8cbaf36c0b57275aa76e64d894291f3d87aba84", func := "loop.example/connectionpool/laws.FnNextOwnerNone", spec := "fnNextOwnerNone", apart := false }
def FnNextOwnerNoneSaid : Prop := fnNextOwnerNoneRow.holds Try.pinned (OpenSpec.ofChange fnNextOwnerNoneSpec)

/-- ITS FALSE NEIGHBOUR: 'it returns false'. Refute it at one input. -/
def fnNextOwnerNoneWrong : ChangeSpec := { name := "fnNextOwnerNone", fn := fun _ => fun
  | [d] => { results := [.lit (.bool false)], args := [d] }
  | _ => none }
def FnNextOwnerNoneWrongFalsely : Prop := fnNextOwnerNoneRow.holds Try.pinned (OpenSpec.ofChange fnNextOwnerNoneWrong)

/-- 'laws.FnNextOwnerOne': WHATEVER THE INPUT: true; the input reads as it did. -/
def fnNextOwnerOneSpec : ChangeSpec := { name := "fnNextOwnerOne", fn := fun _ => fun
  | [d] => { results := [.lit (.bool true)], args := [d] }
  | _ => none }
def fnNextOwnerOneRow : OpenClaim := { program := "ytimjalhhigekpab", sum := "d7d51859a3bd11565a2c1a31b8cbaf36c0b57275aa76e64d894291f3d87aba84", func := "loop.example/connectionpool/laws.FnNextOwnerOne", spec := "fnNextOwnerOne", apart := false }
def FnNextOwnerOneSaid : Prop := fnNextOwnerOneRow.holds Try.pinned (OpenSpec.ofChange fnNextOwnerOneSpec)

/-- ITS FALSE NEIGHBOUR: 'it returns false'. Refute it at one input. -/
def fnNextOwnerOneWrong : ChangeSpec := { name := "fnNextOwnerOne", fn := fun _ => fun
  | [d] => { results := [.lit (.bool false)], args := [d] }
  | _ => none }
def FnNextOwnerOneWrongFalsely : Prop := fnNextOwnerOneRow.holds Try.pinned (OpenSpec.ofChange fnNextOwnerOneWrong)

/-- 'laws.FnGiveAll': WHATEVER THE INPUT: true; the input reads as it did. -/
def fnGiveAllSpec : ChangeSpec := { name := "fnGiveAll", fn := fun _ => fun
  | [d] => { results := [.lit (.bool true)], args := [d] }
  | _ => none }
def fnGiveAllRow : OpenClaim := { program := "ytimjalhhigekpab", sum := "d7d51859a3bd11565a2c1a31b8cbaf36c0b57275aa76e64d894291f3d87aba84", func := "loop.example/connectionpool/laws.FnGiveAll", spec := "fnGiveAll", apart := false }
def FnGiveAllSaid : Prop := fnGiveAllRow.holds Try.pinned (OpenSpec.ofChange fnGiveAllSpec)

/-- ITS FALSE NEIGHBOUR: 'it returns false'. Refute it at one input. -/
def fnGiveAllWrong : ChangeSpec := { name := "fnGiveAll", fn := fun _ => fun
  | [d] => { results := [.lit (.bool false)], args := [d] }
  | _ => none }
def FnGiveAllWrongFalsely : Prop := fnGiveAllRow.holds Try.pinned (OpenSpec.ofChange fnGiveAllWrong)

/-- 'laws.FnGiveAllRise': WHATEVER THE INPUT: true; the input reads as it did. -/
def fnGiveAllRiseSpec : ChangeSpec := { name := "fnGiveAllRise", fn := fun _ => fun
  | [d] => { results := [.lit (.bool true)], args := [d] }
  | _ => none }
def fnGiveAllRiseRow : OpenClaim := { program := "ytimjalhhigekpab", sum := "d7d51859a3bd11565a2c1a31b8cbaf36c0b57275aa76e64d894291f3d87aba84", func := "loop.example/connectionpool/laws.FnGiveAllRise", spec := "fnGiveAllRise", apart := false }
def FnGiveAllRiseSaid : Prop := fnGiveAllRiseRow.holds Try.pinned (OpenSpec.ofChange fnGiveAllRiseSpec)

/-- ITS FALSE NEIGHBOUR: 'it returns false'. Refute it at one input. -/
def fnGiveAllRiseWrong : ChangeSpec := { name := "fnGiveAllRise", fn := fun _ => fun
  | [d] => { results := [.lit (.bool false)], args := [d] }
  | _ => none }
def FnGiveAllRiseWrongFalsely : Prop := fnGiveAllRiseRow.holds Try.pinned (OpenSpec.ofChange fnGiveAllRiseWrong)

/-- 'laws.FnGiveAllCount': WHATEVER THE INPUT: true; the input reads as it did. -/
def fnGiveAllCountSpec : ChangeSpec := { name := "fnGiveAllCount", fn := fun _ => fun
  | [d] => { results := [.lit (.bool true)], args := [d] }
  | _ => none }
def fnGiveAllCountRow : OpenClaim := { program := "ytimjalhhigekpab", sum := "d7d51859a3bd11565a2c1a31b8cbaf36c0b57275aa76e64d894291f3d87aba84", func := "loop.example/connectionpool/laws.FnGiveAllCount", spec := "fnGiveAllCount", apart := false }
def FnGiveAllCountSaid : Prop := fnGiveAllCountRow.holds Try.pinned (OpenSpec.ofChange fnGiveAllCountSpec)

/-- ITS FALSE NEIGHBOUR: 'it returns false'. Refute it at one input. -/
def fnGiveAllCountWrong : ChangeSpec := { name := "fnGiveAllCount", fn := fun _ => fun
  | [d] => { results := [.lit (.bool false)], args := [d] }
  | _ => none }
def FnGiveAllCountWrongFalsely : Prop := fnGiveAllCountRow.holds Try.pinned (OpenSpec.ofChange fnGiveAllCountWrong)

/- THE SECOND FORM. 'bulk': how many values and letters a reading holds, each counted each time it is reached (what is shared counts as often as it is met; a slice's spare places count too). A statement '..UptoSaid' is the law's where the arguments, and the package variables that the reading takes, are together of bulk at most 1048576: NARROWER than '..Said'. Prove '..Said' where nothing that the law and all that it calls make is longer than what came in: it says more and counts as full. Else prove '..UptoSaid'. A law counts once. -/
mutual
def uptoBulk {H : Type} : DataW H → Nat
  | .lit (.string bytes) => bytes.length + 1
  | .lit _ => 1
  | .nil => 1
  | .ptr d => uptoBulk d + 1
  | .slice elems spare => uptoBulkAll elems + uptoBulkAll spare + 1
  | .agg parts => uptoBulkAll parts + 1
  | .iface _ d => uptoBulk d + 1
  | .map entries => uptoBulkEntries entries + 1
  | .held _ => 1
def uptoBulkAll {H : Type} : List (DataW H) → Nat
  | [] => 0
  | d :: r => uptoBulk d + uptoBulkAll r
def uptoBulkEntries {H : Type} : List (Lit × DataW H) → Nat
  | [] => 0
  | x :: r => uptoBulkEntry x + uptoBulkEntries r
def uptoBulkEntry {H : Type} : Lit × DataW H → Nat
  | (.string bytes, d) => bytes.length + uptoBulk d + 1
  | (_, d) => uptoBulk d + 1
 end
def uptoSmall : (H : Type) → List (DataW H) → Bool := fun _ ds => decide (uptoBulkAll ds ≤ 1048576)
def OpenSpec.upto (s : _root_.Go.ChangeSpec) : _root_.Go.OpenSpec := { _root_.Go.OpenSpec.ofChange s with cond := some uptoSmall }

/-- 'laws.FnNextOwnerNone', WHERE WHAT IT READS IS OF BULK AT MOST 1048576: true; the input reads as it did. -/
def fnNextOwnerNoneUptoRow : OpenClaim := { program := "ytimjalhhigekpab", sum := "d7d51859a3bd11565a2c1a31b8cbaf36c0b57275aa76e64d894291f3d87aba84", func := "loop.example/connectionpool/laws.FnNextOwnerNone", spec := "fnNextOwnerNone", apart := false, narrowed := true }
def FnNextOwnerNoneUptoSaid : Prop := fnNextOwnerNoneUptoRow.holds Try.pinned (OpenSpec.upto fnNextOwnerNoneSpec)

/-- 'laws.FnNextOwnerOne', WHERE WHAT IT READS IS OF BULK AT MOST 1048576: true; the input reads as it did. -/
def fnNextOwnerOneUptoRow : OpenClaim := { program := "ytimjalhhigekpab", sum := "d7d51859a3bd11565a2c1a31b8cbaf36c0b57275aa76e64d894291f3d87aba84", func := "loop.example/connectionpool/laws.FnNextOwnerOne", spec := "fnNextOwnerOne", apart := false, narrowed := true }
def FnNextOwnerOneUptoSaid : Prop := fnNextOwnerOneUptoRow.holds Try.pinned (OpenSpec.upto fnNextOwnerOneSpec)

/-- 'laws.FnGiveAll', WHERE WHAT IT READS IS OF BULK AT MOST 1048576: true; the input reads as it did. -/
def fnGiveAllUptoRow : OpenClaim := { program := "ytimjalhhigekpab", sum := "d7d51859a3bd11565a2c1a31b8cbaf36c0b57275aa76e64d894291f3d87aba84", func := "loop.example/connectionpool/laws.FnGiveAll", spec := "fnGiveAll", apart := false, narrowed := true }
def FnGiveAllUptoSaid : Prop := fnGiveAllUptoRow.holds Try.pinned (OpenSpec.upto fnGiveAllSpec)

/-- 'laws.FnGiveAllRise', WHERE WHAT IT READS IS OF BULK AT MOST 1048576: true; the input reads as it did. -/
def fnGiveAllRiseUptoRow : OpenClaim := { program := "ytimjalhhigekpab", sum := "d7d51859a3bd11565a2c1a31b8cbaf36c0b57275aa76e64d894291f3d87aba84", func := "loop.example/connectionpool/laws.FnGiveAllRise", spec := "fnGiveAllRise", apart := false, narrowed := true }
def FnGiveAllRiseUptoSaid : Prop := fnGiveAllRiseUptoRow.holds Try.pinned (OpenSpec.upto fnGiveAllRiseSpec)

/-- 'laws.FnGiveAllCount', WHERE WHAT IT READS IS OF BULK AT MOST 1048576: true; the input reads as it did. -/
def fnGiveAllCountUptoRow : OpenClaim := { program := "ytimjalhhigekpab", sum := "d7d51859a3bd11565a2c1a31b8cbaf36c0b57275aa76e64d894291f3d87aba84", func := "loop.example/connectionpool/laws.FnGiveAllCount", spec := "fnGiveAllCount", apart := false, narrowed := true }
def FnGiveAllCountUptoSaid : Prop := fnGiveAllCountUptoRow.holds Try.pinned (OpenSpec.upto fnGiveAllCountSpec)

end Rows
end Go.Proofs.Ytimjalhhigekpab

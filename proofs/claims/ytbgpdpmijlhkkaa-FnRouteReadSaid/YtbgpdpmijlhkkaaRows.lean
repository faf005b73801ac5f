/-
  No cell of these rows narrows 'for every input' (looked for: loops, veiled, ifaces, maps, wideKeys, modest, calm, conditions, laid).
  DERIVED. THE GIVEN ROWS OF THIS SEAT. 8 by the template 'for every input the law returns true; each argument reads behind the call as it read before'; 0 by the template 'total and deterministic' (their statements: YtbgpdpmijlhkkaaTotals.lean).
  GIVEN WITH THE SEED: the statements are not yours to turn. If you find one false, say at which input.
  Laid BY PROGRAM, IN A SANDBOX (cutbox-rows.mjs): the forced cells as the released guide's own fill.sh prints them over the translation e35c7d8809c9a90f… (all of the seat's roots in one cut). By AI agents, Wed Nov 11 2026. No macro, syntax, notation, axiom, sorry.
-/
import Derived.Test.YtbgpdpmijlhkkaaChecked
import GoSem.Claim
import GoSem.ClaimJoined
import GoSem.ClaimMapViews
import Derived.JoinedTies
import Derived.KernelRfl
namespace Go.Proofs.Ytbgpdpmijlhkkaa
/- THE CELL 'sum', in the pinned program and in every row, IS THE sha256 OF THE DUMP (.gsa) THAT YtbgpdpmijlhkkaaProg.lean LOADS. Nothing in Lean hashes anything: it is a label: what it is worth is what the hold of that sum in a sandbox is worth. -/
noncomputable def Try.pinned : Pinned := { name := "ytbgpdpmijlhkkaa", sum := "e35c7d8809c9a90f16da30cb2b52ab9fcad7710cb280ae5e6c38d6f796e39273", checked := Try.checked }
namespace Rows
def none {H : Type} : Left H := { results := [], args := [] }

/-- 'laws.FnExactValidHosts': WHATEVER THE INPUT: true; the input reads as it did. -/
def fnExactValidHostsSpec : ChangeSpec := { name := "fnExactValidHosts", fn := fun _ => fun
  | [d] => { results := [.lit (.bool true)], args := [d] }
  | _ => none }
def fnExactValidHostsRow : OpenClaim := { program := "ytbgpdpmijlhkkaa", sum := "e35c7d8809c9a90f16da30cb2b52ab9fcad7710cb280ae5e6c38d6f796e39273", func := "loop.example/connectionpool/laws.FnExactValidHosts", spec := "fnExactValidHosts", apart := false }
def FnExactValidHostsSaid : Prop := fnExactValidHostsRow.holds Try.pinned (OpenSpec.ofChange fnExactValidHostsSpec)

/-- ITS FALSE NEIGHBOUR: 'it returns false'. Refute it at one input. -/
def fnExactValidHostsWrong : ChangeSpec := { name := "fnExactValidHosts", fn := fun _ => fun
  | [d] => { results := [.lit (.bool false)], args := [d] }
  | _ => none }
def FnExactValidHostsWrongFalsely : Prop := fnExactValidHostsRow.holds Try.pinned (OpenSpec.ofChange fnExactValidHostsWrong)

/-- 'laws.FnExactRouteRead': WHATEVER THE INPUT: true; the input reads as it did. -/
def fnExactRouteReadSpec : ChangeSpec := { name := "fnExactRouteRead", fn := fun _ => fun
  | [d1, d2] => { results := [.lit (.bool true)], args := [d1, d2] }
  | _ => none }
def fnExactRouteReadRow : OpenClaim := { program := "ytbgpdpmijlhkkaa", sum := "e35c7d8809c9a90f16da30cb2b52ab9fcad7710cb280ae5e6c38d6f796e39273", func := "loop.example/connectionpool/laws.FnExactRouteRead", spec := "fnExactRouteRead", apart := false }
def FnExactRouteReadSaid : Prop := fnExactRouteReadRow.holds Try.pinned (OpenSpec.ofChange fnExactRouteReadSpec)

/-- ITS FALSE NEIGHBOUR: 'it returns false'. Refute it at one input. -/
def fnExactRouteReadWrong : ChangeSpec := { name := "fnExactRouteRead", fn := fun _ => fun
  | [d1, d2] => { results := [.lit (.bool false)], args := [d1, d2] }
  | _ => none }
def FnExactRouteReadWrongFalsely : Prop := fnExactRouteReadRow.holds Try.pinned (OpenSpec.ofChange fnExactRouteReadWrong)

/-- 'laws.FnExactRouteWrite': WHATEVER THE INPUT: true; the input reads as it did. -/
def fnExactRouteWriteSpec : ChangeSpec := { name := "fnExactRouteWrite", fn := fun _ => fun
  | [d] => { results := [.lit (.bool true)], args := [d] }
  | _ => none }
def fnExactRouteWriteRow : OpenClaim := { program := "ytbgpdpmijlhkkaa", sum := "e35c7d8809c9a90f16da30cb2b52ab9fcad7710cb280ae5e6c38d6f796e39273", func := "loop.example/connectionpool/laws.FnExactRouteWrite", spec := "fnExactRouteWrite", apart := false }
def FnExactRouteWriteSaid : Prop := fnExactRouteWriteRow.holds Try.pinned (OpenSpec.ofChange fnExactRouteWriteSpec)

/-- ITS FALSE NEIGHBOUR: 'it returns false'. Refute it at one input. -/
def fnExactRouteWriteWrong : ChangeSpec := { name := "fnExactRouteWrite", fn := fun _ => fun
  | [d] => { results := [.lit (.bool false)], args := [d] }
  | _ => none }
def FnExactRouteWriteWrongFalsely : Prop := fnExactRouteWriteRow.holds Try.pinned (OpenSpec.ofChange fnExactRouteWriteWrong)

/-- 'laws.FnExactAddLoad': WHATEVER THE INPUT: true; the input reads as it did. -/
def fnExactAddLoadSpec : ChangeSpec := { name := "fnExactAddLoad", fn := fun _ => fun
  | [d1, d2, d3] => { results := [.lit (.bool true)], args := [d1, d2, d3] }
  | _ => none }
def fnExactAddLoadRow : OpenClaim := { program := "ytbgpdpmijlhkkaa", sum := "e35c7d8809c9a90f16da30cb2b52ab9fcad7710cb280ae5e6c38d6f796e39273", func := "loop.example/connectionpool/laws.FnExactAddLoad", spec := "fnExactAddLoad", apart := false }
def FnExactAddLoadSaid : Prop := fnExactAddLoadRow.holds Try.pinned (OpenSpec.ofChange fnExactAddLoadSpec)

/-- ITS FALSE NEIGHBOUR: 'it returns false'. Refute it at one input. -/
def fnExactAddLoadWrong : ChangeSpec := { name := "fnExactAddLoad", fn := fun _ => fun
  | [d1, d2, d3] => { results := [.lit (.bool false)], args := [d1, d2, d3] }
  | _ => none }
def FnExactAddLoadWrongFalsely : Prop := fnExactAddLoadRow.holds Try.pinned (OpenSpec.ofChange fnExactAddLoadWrong)

/-- 'laws.FnExactRouteReads': WHATEVER THE INPUT: true; the input reads as it did. -/
def fnExactRouteReadsSpec : ChangeSpec := { name := "fnExactRouteReads", fn := fun _ => fun
  | [d1, d2] => { results := [.lit (.bool true)], args := [d1, d2] }
  | _ => none }
def fnExactRouteReadsRow : OpenClaim := { program := "ytbgpdpmijlhkkaa", sum := "e35c7d8809c9a90f16da30cb2b52ab9fcad7710cb280ae5e6c38d6f796e39273", func := "loop.example/connectionpool/laws.FnExactRouteReads", spec := "fnExactRouteReads", apart := false }
def FnExactRouteReadsSaid : Prop := fnExactRouteReadsRow.holds Try.pinned (OpenSpec.ofChange fnExactRouteReadsSpec)

/-- ITS FALSE NEIGHBOUR: 'it returns false'. Refute it at one input. -/
def fnExactRouteReadsWrong : ChangeSpec := { name := "fnExactRouteReads", fn := fun _ => fun
  | [d1, d2] => { results := [.lit (.bool false)], args := [d1, d2] }
  | _ => none }
def FnExactRouteReadsWrongFalsely : Prop := fnExactRouteReadsRow.holds Try.pinned (OpenSpec.ofChange fnExactRouteReadsWrong)

/-- 'laws.FnValidHosts': WHATEVER THE INPUT: true; the input reads as it did. -/
def fnValidHostsSpec : ChangeSpec := { name := "fnValidHosts", fn := fun _ => fun
  | [d] => { results := [.lit (.bool true)], args := [d] }
  | _ => none }
def fnValidHostsRow : OpenClaim := { program := "ytbgpdpmijlhkkaa", sum := "e35c7d8809c9a90f16da30cb2b52ab9fcad7710cb280ae5e6c38d6f796e39273", func := "loop.example/connectionpool/laws.FnValidHosts", spec := "fnValidHosts", apart := false }
def FnValidHostsSaid : Prop := fnValidHostsRow.holds Try.pinned (OpenSpec.ofChange fnValidHostsSpec)

/-- ITS FALSE NEIGHBOUR: 'it returns false'. Refute it at one input. -/
def fnValidHostsWrong : ChangeSpec := { name := "fnValidHosts", fn := fun _ => fun
  | [d] => { results := [.lit (.bool false)], args := [d] }
  | _ => none }
def FnValidHostsWrongFalsely : Prop := fnValidHostsRow.holds Try.pinned (OpenSpec.ofChange fnValidHostsWrong)

/-- 'laws.FnRouteRead': WHATEVER THE INPUT: true; the input reads as it did. -/
def fnRouteReadSpec : ChangeSpec := { name := "fnRouteRead", fn := fun _ => fun
  | [d] => { results := [.lit (.bool true)], args := [d] }
  | _ => none }
def fnRouteReadRow : OpenClaim := { program := "ytbgpdpmijlhkkaa", sum := "e35c7d8809c9a90f16da30cb2b52ab9fcad7710cb280ae5e6c38d6f796e39273", func := "loop.example/connectionpool/laws.FnRouteRead", spec := "fnRouteRead", apart := false }
def FnRouteReadSaid : Prop := fnRouteReadRow.holds Try.pinned (OpenSpec.ofChange fnRouteReadSpec)

/-- ITS FALSE NEIGHBOUR: 'it returns false'. Refute it at one input. -/
def fnRouteReadWrong : ChangeSpec := { name := "fnRouteRead", fn := fun _ => fun
  | [d] => { results := [.lit (.bool false)], args := [d] }
  | _ => none }
def FnRouteReadWrongFalsely : Prop := fnRouteReadRow.holds Try.pinned (OpenSpec.ofChange fnRouteReadWrong)

/-- 'laws.FnRouteWrite': WHATEVER THE INPUT: true; the input reads as it did. -/
def fnRouteWriteSpec : ChangeSpec := { name := "fnRouteWrite", fn := fun _ => fun
  | [d] => { results := [.lit (.bool true)], args := [d] }
  | _ => none }
def fnRouteWriteRow : OpenClaim := { program := "ytbgpdpmijlhkkaa", sum := "e35c7d8809c9a90f16da30cb2b52ab9fcad7710cb280ae5e6c38d6f796e39273", func := "loop.example/connectionpool/laws.FnRouteWrite", spec := "fnRouteWrite", apart := false }
def FnRouteWriteSaid : Prop := fnRouteWriteRow.holds Try.pinned (OpenSpec.ofChange fnRouteWriteSpec)

/-- ITS FALSE NEIGHBOUR: 'it returns false'. Refute it at one input. -/
def fnRouteWriteWrong : ChangeSpec := { name := "fnRouteWrite", fn := fun _ => fun
  | [d] => { results := [.lit (.bool false)], args := [d] }
  | _ => none }
def FnRouteWriteWrongFalsely : Prop := fnRouteWriteRow.holds Try.pinned (OpenSpec.ofChange fnRouteWriteWrong)

/- THE SECOND FORM. 'bulk': how many values and letters a reading holds, each counted each time it is reached (what is shared counts as often as it is met; a slice's spare places count too). A statement '..UptoSaid' is the law's where the arguments, and the package variables that the reading takes, are together of bulk at most 1048576: NARROWER than '..Said'. Prove '..Said' where nothing that the law and all that it calls make is longer than what came in: it says more and counts as full. Else prove '..UptoSaid'. A law counts once. -/
mutual
def uptoBulk {H : Type} : DataW H → Nat
  | .lit (.string bytes) => bytes.length + 1
  | .lit _ => 1
  | .nil => 1
  | .ptr d => uptoBulk d + 1
  | .slice elems spare => uptoBulkAll elems + uptoBulkAll spare + 1
  | .agg parts => uptoBulkAll parts + 1
  | .iface _ d => uptoBulk d + 1
  | .map entries => uptoBulkEntries entries + 1
  | .held _ => 1
def uptoBulkAll {H : Type} : List (DataW H) → Nat
  | [] => 0
  | d :: r => uptoBulk d + uptoBulkAll r
def uptoBulkEntries {H : Type} : List (Lit × DataW H) → Nat
  | [] => 0
  | x :: r => uptoBulkEntry x + uptoBulkEntries r
def uptoBulkEntry {H : Type} : Lit × DataW H → Nat
  | (.string bytes, d) => bytes.length + uptoBulk d + 1
  | (_, d) => uptoBulk d + 1
 end
def uptoSmall : (H : Type) → List (DataW H) → Bool := fun _ ds => decide (uptoBulkAll ds ≤ 1048576)
def OpenSpec.upto (s : _root_.Go.ChangeSpec) : _root_.Go.OpenSpec := { _root_.Go.OpenSpec.ofChange s with cond := some uptoSmall }

/-- 'laws.FnExactValidHosts', WHERE WHAT IT READS IS OF BULK AT MOST 1048576: true; the input reads as it did. -/
def fnExactValidHostsUptoRow : OpenClaim := { program := "ytbgpdpmijlhkkaa", sum := "e35c7d8809c9a90f16da30cb2b52ab9fcad7710cb280ae5e6c38d6f796e39273", func := "loop.example/connectionpool/laws.FnExactValidHosts", spec := "fnExactValidHosts", apart := false, narrowed := true }
def FnExactValidHostsUptoSaid : Prop := fnExactValidHostsUptoRow.holds Try.pinned (OpenSpec.upto fnExactValidHostsSpec)

/-- 'laws.FnExactRouteRead', WHERE WHAT IT READS IS OF BULK AT MOST 1048576: true; the input reads as it did. -/
def fnExactRouteReadUptoRow : OpenClaim := { program := "ytbgpdpmijlhkkaa", sum := "e35c7d8809c9a90f16da30cb2b52ab9fcad7710cb280ae5e6c38d6f796e39273", func := "loop.example/connectionpool/laws.FnExactRouteRead", spec := "fnExactRouteRead", apart := false, narrowed := true }
def FnExactRouteReadUptoSaid : Prop := fnExactRouteReadUptoRow.holds Try.pinned (OpenSpec.upto fnExactRouteReadSpec)

/-- 'laws.FnExactRouteWrite', WHERE WHAT IT READS IS OF BULK AT MOST 1048576: true; the input reads as it did. -/
def fnExactRouteWriteUptoRow : OpenClaim := { program := "ytbgpdpmijlhkkaa", sum := "e35c7d8809c9a90f16da30cb2b52ab9fcad7710cb280ae5e6c38d6f796e39273", func := "loop.example/connectionpool/laws.FnExactRouteWrite", spec := "fnExactRouteWrite", apart := false, narrowed := true }
def FnExactRouteWriteUptoSaid : Prop := fnExactRouteWriteUptoRow.holds Try.pinned (OpenSpec.upto fnExactRouteWriteSpec)

/-- 'laws.FnExactAddLoad', WHERE WHAT IT READS IS OF BULK AT MOST 1048576: true; the input reads as it did. -/
def fnExactAddLoadUptoRow : OpenClaim := { program := "ytbgpdpmijlhkkaa", sum := "e35c7d8809c9a90f16da30cb2b52ab9fcad7710cb280ae5e6c38d6f796e39273", func := "loop.example/connectionpool/laws.FnExactAddLoad", spec := "fnExactAddLoad", apart := false, narrowed := true }
def FnExactAddLoadUptoSaid : Prop := fnExactAddLoadUptoRow.holds Try.pinned (OpenSpec.upto fnExactAddLoadSpec)

/-- 'laws.FnExactRouteReads', WHERE WHAT IT READS IS OF BULK AT MOST 1048576: true; the input reads as it did. -/
def fnExactRouteReadsUptoRow : OpenClaim := { program := "ytbgpdpmijlhkkaa", sum := "e35c7d8809c9a90f16da30cb2b52ab9fcad7710cb280ae5e6c38d6f796e39273", func := "loop.example/connectionpool/laws.FnExactRouteReads", spec := "fnExactRouteReads", apart := false, narrowed := true }
def FnExactRouteReadsUptoSaid : Prop := fnExactRouteReadsUptoRow.holds Try.pinned (OpenSpec.upto fnExactRouteReadsSpec)

/-- 'laws.FnValidHosts', WHERE WHAT IT READS IS OF BULK AT MOST 1048576: true; the input reads as it did. -/
def fnValidHostsUptoRow : OpenClaim := { program := "ytbgpdpmijlhkkaa", sum := "e35c7d8809c9a90f16da30cb2b52ab9fcad7710cb280ae5e6c38d6f796e39273", func := "loop.example/connectionpool/laws.FnValidHosts", spec := "fnValidHosts", apart := false, narrowed := true }
def FnValidHostsUptoSaid : Prop := fnValidHostsUptoRow.holds Try.pinned (OpenSpec.upto fnValidHostsSpec)

/-- 'laws.FnRouteRead', WHERE WHAT IT READS IS OF BULK AT MOST 1048576: true; the input reads as it did. -/
def fnRouteReadUptoRow : OpenClaim := { program := "ytbgpdpmijlhkkaa", sum := "e35c7d8809c9a90f16da30cb2b52ab9fcad7710cb280ae5e6c38d6f796e39273", func := "loop.example/connectionpool/laws.FnRouteRead", spec := "fnRouteRead", apart := false, narrowed := true }
def FnRouteReadUptoSaid : Prop := fnRouteReadUptoRow.holds Try.pinned (OpenSpec.upto fnRouteReadSpec)

/-- 'laws.FnRouteWrite', WHERE WHAT IT READS IS OF BULK AT MOST 1048576: true; the input reads as it did. -/
def fnRouteWriteUptoRow : OpenClaim := { program := "ytbgpdpmijlhkkaa", sum := "e35c7d8809c9a90f16da30cb2b52ab9fcad7710cb280ae5e6c38d6f796e39273", func := "loop.example/connectionpool/laws.FnRouteWrite", spec := "fnRouteWrite", apart := false, narrowed := true }
def FnRouteWriteUptoSaid : Prop := fnRouteWriteUptoRow.holds Try.pinned (OpenSpec.upto fnRouteWriteSpec)

end Rows
end Go.Proofs.Ytbgpdpmijlhkkaa

/-
  No cell of these rows narrows 'for every input' (looked for: loops, veiled, ifaces, maps, wideKeys, modest, calm, conditions, laid).
  DERIVED. THE GIVEN ROWS OF THIS SEAT. 3 by the template 'for every input the law returns true; each argument reads behind the call as it read before'; 0 by the template 'total and deterministic' (their statements: YtmaocmgnkdieeaaTotals.lean).
  GIVEN WITH THE SEED: the statements are not yours to turn. If you find one false, say at which input.
  Laid BY PROGRAM, IN A SANDBOX (cutbox-rows.mjs): the forced cells as the released guide's own fill.sh prints them over the translation d326b4a111484a68… (all of the seat's roots in one cut). By AI agents, Wed Nov 11 2026. No macro, syntax, notation, axiom, sorry.
-/
import Derived.Test.YtmaocmgnkdieeaaChecked
import GoSem.Claim
import GoSem.ClaimJoined
import GoSem.ClaimMapViews
import Derived.JoinedTies
import Derived.KernelRfl
namespace Go.Proofs.Ytmaocmgnkdieeaa
/- THE CELL 'sum', in the pinned program and in every row, IS THE sha256 OF THE DUMP (.gsa) THAT YtmaocmgnkdieeaaProg.lean LOADS. Nothing in Lean hashes anything: it is a label: what it is worth is what the hold of that sum in a sandbox is worth. -/
noncomputable def Try.pinned : Pinned := { name := "ytmaocmgnkdieeaa", sum := "d326b4a111484a6868c95422bf1059f3a39e373bc1a6476bf594a8af2a7df3dd", checked := Try.checked }
namespace Rows
def none {H : Type} : Left H := { results := [], args := [] }

/-- 'laws.FnPackLeases': WHATEVER THE INPUT: true; the input reads as it did. -/
def fnPackLeasesSpec : ChangeSpec := { name := "fnPackLeases", fn := fun _ => fun
  | [d] => { results := [.lit (.bool true)], args := [d] }
  | _ => none }
def fnPackLeasesRow : OpenClaim := { program := "ytmaocmgnkdieeaa", sum := "d326b4a111484a6868c95422bf1059f3a39e373bc1a6476bf594a8af2a7df3dd", func := "loop.example/connectionpool/laws.FnPackLeases", spec := "fnPackLeases", apart := false }
def FnPackLeasesSaid : Prop := fnPackLeasesRow.holds Try.pinned (OpenSpec.ofChange fnPackLeasesSpec)

/-- ITS FALSE NEIGHBOUR: 'it returns false'. Refute it at one input. -/
def fnPackLeasesWrong : ChangeSpec := { name := "fnPackLeases", fn := fun _ => fun
  | [d] => { results := [.lit (.bool false)], args := [d] }
  | _ => none }
def FnPackLeasesWrongFalsely : Prop := fnPackLeasesRow.holds Try.pinned (OpenSpec.ofChange fnPackLeasesWrong)

/-- 'laws.FnPackLeasesTwice': WHATEVER THE INPUT: true; the input reads as it did. -/
def fnPackLeasesTwiceSpec : ChangeSpec := { name := "fnPackLeasesTwice", fn := fun _ => fun
  | [d] => { results := [.lit (.bool true)], args := [d] }
  | _ => none }
def fnPackLeasesTwiceRow : OpenClaim := { program := "ytmaocmgnkdieeaa", sum := "d326b4a111484a6868c95422bf1059f3a39e373bc1a6476bf594a8af2a7df3dd", func := "loop.example/connectionpool/laws.FnPackLeasesTwice", spec := "fnPackLeasesTwice", apart := false }
def FnPackLeasesTwiceSaid : Prop := fnPackLeasesTwiceRow.holds Try.pinned (OpenSpec.ofChange fnPackLeasesTwiceSpec)

/-- ITS FALSE NEIGHBOUR: 'it returns false'. Refute it at one input. -/
def fnPackLeasesTwiceWrong : ChangeSpec := { name := "fnPackLeasesTwice", fn := fun _ => fun
  | [d] => { results := [.lit (.bool false)], args := [d] }
  | _ => none }
def FnPackLeasesTwiceWrongFalsely : Prop := fnPackLeasesTwiceRow.holds Try.pinned (OpenSpec.ofChange fnPackLeasesTwiceWrong)

/-- 'laws.FnPackLeasesFirst': WHATEVER THE INPUT: true; the input reads as it did. -/
def fnPackLeasesFirstSpec : ChangeSpec := { name := "fnPackLeasesFirst", fn := fun _ => fun
  | [d] => { results := [.lit (.bool true)], args := [d] }
  | _ => none }
def fnPackLeasesFirstRow : OpenClaim := { program := "ytmaocmgnkdieeaa", sum := "d326b4a111484a6868c95422bf1059f3a39e373bc1a6476bf594a8af2a7df3dd", func := "loop.example/connectionpool/laws.FnPackLeasesFirst", spec := "fnPackLeasesFirst", apart := false }
def FnPackLeasesFirstSaid : Prop := fnPackLeasesFirstRow.holds Try.pinned (OpenSpec.ofChange fnPackLeasesFirstSpec)

/-- ITS FALSE NEIGHBOUR: 'it returns false'. Refute it at one input. -/
def fnPackLeasesFirstWrong : ChangeSpec := { name := "fnPackLeasesFirst", fn := fun _ => fun
  | [d] => { results := [.lit (.bool false)], args := [d] }
  | _ => none }
def FnPackLeasesFirstWrongFalsely : Prop := fnPackLeasesFirstRow.holds Try.pinned (OpenSpec.ofChange fnPackLeasesFirstWrong)

/- THE SECOND FORM. 'bulk': how many values and letters a reading holds, each counted each time it is reached (what is shared counts as often as it is met; a slice's spare places count too). A statement '..UptoSaid' is the law's where the arguments, and the package variables that the reading takes, are together of bulk at most 1048576: NARROWER than '..Said'. Prove '..Said' where nothing that the law and all that it calls make is longer than what came in: it says more and counts as full. Else prove '..UptoSaid'. A law counts once. -/
mutual
def uptoBulk {H : Type} : DataW H → Nat
  | .lit (.string bytes) => bytes.length + 1
  | .lit _ => 1
  | .nil => 1
  | .ptr d => uptoBulk d + 1
  | .slice elems spare => uptoBulkAll elems + uptoBulkAll spare + 1
  | .agg parts => uptoBulkAll parts + 1
  | .iface _ d => uptoBulk d + 1
  | .map entries => uptoBulkEntries entries + 1
  | .held _ => 1
def uptoBulkAll {H : Type} : List (DataW H) → Nat
  | [] => 0
  | d :: r => uptoBulk d + uptoBulkAll r
def uptoBulkEntries {H : Type} : List (Lit × DataW H) → Nat
  | [] => 0
  | x :: r => uptoBulkEntry x + uptoBulkEntries r
def uptoBulkEntry {H : Type} : Lit × DataW H → Nat
  | (.string bytes, d) => bytes.length + uptoBulk d + 1
  | (_, d) => uptoBulk d + 1
 end
def uptoSmall : (H : Type) → List (DataW H) → Bool := fun _ ds => decide (uptoBulkAll ds ≤ 1048576)
def OpenSpec.upto (s : _root_.Go.ChangeSpec) : _root_.Go.OpenSpec := { _root_.Go.OpenSpec.ofChange s with cond := some uptoSmall }

/-- 'laws.FnPackLeases', WHERE WHAT IT READS IS OF BULK AT MOST 1048576: true; the input reads as it did. -/
def fnPackLeasesUptoRow : OpenClaim := { program := "ytmaocmgnkdieeaa", sum := "d326b4a111484a6868c95422bf1059f3a39e373bc1a6476bf594a8af2a7df3dd", func := "loop.example/connectionpool/laws.FnPackLeases", spec := "fnPackLeases", apart := false, narrowed := true }
def FnPackLeasesUptoSaid : Prop := fnPackLeasesUptoRow.holds Try.pinned (OpenSpec.upto fnPackLeasesSpec)

/-- 'laws.FnPackLeasesTwice', WHERE WHAT IT READS IS OF BULK AT MOST 1048576: true; the input reads as it did. -/
def fnPackLeasesTwiceUptoRow : OpenClaim := { program := "ytmaocmgnkdieeaa", sum := "d326b4a111484a6868c95422bf1059f3a39e373bc1a6476bf594a8af2a7df3dd", func := "loop.example/connectionpool/laws.FnPackLeasesTwice", spec := "fnPackLeasesTwice", apart := false, narrowed := true }
def FnPackLeasesTwiceUptoSaid : Prop := fnPackLeasesTwiceUptoRow.holds Try.pinned (OpenSpec.upto fnPackLeasesTwiceSpec)

/-- 'laws.FnPackLeasesFirst', WHERE WHAT IT READS IS OF BULK AT MOST 1048576: true; the input reads as it did. -/
def fnPackLeasesFirstUptoRow : OpenClaim := { program := "ytmaocmgnkdieeaa", sum := "d326b4a111484a6868c95422bf1059f3a39e373bc1a6476bf594a8af2a7df3dd", func := "loop.example/connectionpool/laws.FnPackLeasesFirst", spec := "fnPackLeasesFirst", apart := false, narrowed := true }
def FnPackLeasesFirstUptoSaid : Prop := fnPackLeasesFirstUptoRow.holds Try.pinned (OpenSpec.upto fnPackLeasesFirstSpec)

end Rows
end Go.Proofs.Ytmaocmgnkdieeaa

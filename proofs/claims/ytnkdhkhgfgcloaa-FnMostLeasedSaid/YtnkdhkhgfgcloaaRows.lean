/-
  No cell of these rows narrows 'for every input' (looked for: loops, veiled, ifaces, maps, wideKeys, modest, calm, conditions, laid).
  DERIVED. THE GIVEN ROWS OF THIS SEAT. 9 by the template 'for every input the law returns true; each argument reads behind the call as it read before'; 0 by the template 'total and deterministic' (their statements: YtnkdhkhgfgcloaaTotals.lean).
  GIVEN WITH THE SEED: the statements are not yours to turn. If you find one false, say at which input.
  Laid BY PROGRAM, IN A SANDBOX (cutbox-rows.mjs): the forced cells as the released guide's own fill.sh prints them over the translation adfacb5077e062c1… (all of the seat's roots in one cut). By AI agents, Wed Nov 11 2026. No macro, syntax, notation, axiom, sorry.
-/
import Derived.Test.YtnkdhkhgfgcloaaChecked
import GoSem.Claim
import GoSem.ClaimJoined
import GoSem.ClaimMapViews
import Derived.JoinedTies
import Derived.KernelRfl
namespace Go.Proofs.Ytnkdhkhgfgcloaa
/- THE CELL 'sum', in the pinned program and in every row, IS THE sha256 OF THE DUMP (.gsa) THAT YtnkdhkhgfgcloaaProg.lean LOADS. Nothing in Lean hashes anything: it is a label: what it is worth is what the hold of that sum in a sandbox is worth. -/
noncomputable def Try.pinned : Pinned := { name := "ytnkdhkhgfgcloaa", sum := "adfacb5077e062c18d647776d734cea367f085f219615e1bada656b7a88b9040", checked := Try.checked }
namespace Rows
def none {H : Type} : Left H := { results := [], args := [] }

/-- 'laws.FnExactMostLeased': WHATEVER THE INPUT: true; the input reads as it did. -/
def fnExactMostLeasedSpec : ChangeSpec := { name := "fnExactMostLeased", fn := fun _ => fun
  | [d] => { results := [.lit (.bool true)], args := [d] }
  | _ => none }
def fnExactMostLeasedRow : OpenClaim := { program := "ytnkdhkhgfgcloaa", sum := "adfacb5077e062c18d647776d734cea367f085f219615e1bada656b7a88b9040", func := "loop.example/connectionpool/laws.FnExactMostLeased", spec := "fnExactMostLeased", apart := false }
def FnExactMostLeasedSaid : Prop := fnExactMostLeasedRow.holds Try.pinned (OpenSpec.ofChange fnExactMostLeasedSpec)

/-- ITS FALSE NEIGHBOUR: 'it returns false'. Refute it at one input. -/
def fnExactMostLeasedWrong : ChangeSpec := { name := "fnExactMostLeased", fn := fun _ => fun
  | [d] => { results := [.lit (.bool false)], args := [d] }
  | _ => none }
def FnExactMostLeasedWrongFalsely : Prop := fnExactMostLeasedRow.holds Try.pinned (OpenSpec.ofChange fnExactMostLeasedWrong)

/-- 'laws.FnExactPackLeases': WHATEVER THE INPUT: true; the input reads as it did. -/
def fnExactPackLeasesSpec : ChangeSpec := { name := "fnExactPackLeases", fn := fun _ => fun
  | [d] => { results := [.lit (.bool true)], args := [d] }
  | _ => none }
def fnExactPackLeasesRow : OpenClaim := { program := "ytnkdhkhgfgcloaa", sum := "adfacb5077e062c18d647776d734cea367f085f219615e1bada656b7a88b9040", func := "loop.example/connectionpool/laws.FnExactPackLeases", spec := "fnExactPackLeases", apart := false }
def FnExactPackLeasesSaid : Prop := fnExactPackLeasesRow.holds Try.pinned (OpenSpec.ofChange fnExactPackLeasesSpec)

/-- ITS FALSE NEIGHBOUR: 'it returns false'. Refute it at one input. -/
def fnExactPackLeasesWrong : ChangeSpec := { name := "fnExactPackLeases", fn := fun _ => fun
  | [d] => { results := [.lit (.bool false)], args := [d] }
  | _ => none }
def FnExactPackLeasesWrongFalsely : Prop := fnExactPackLeasesRow.holds Try.pinned (OpenSpec.ofChange fnExactPackLeasesWrong)

/-- 'laws.FnMostLeased': WHATEVER THE INPUT: true; the input reads as it did. -/
def fnMostLeasedSpec : ChangeSpec := { name := "fnMostLeased", fn := fun _ => fun
  | [d] => { results := [.lit (.bool true)], args := [d] }
  | _ => none }
def fnMostLeasedRow : OpenClaim := { program := "ytnkdhkhgfgcloaa", sum := "adfacb5077e062c18d647776d734cea367f085f219615e1bada656b7a88b9040", func := "loop.example/connectionpool/laws.FnMostLeased", spec := "fnMostLeased", apart := false }
def FnMostLeasedSaid : Prop := fnMostLeasedRow.holds Try.pinned (OpenSpec.ofChange fnMostLeasedSpec)

/-- ITS FALSE NEIGHBOUR: 'it returns false'. Refute it at one input. -/
def fnMostLeasedWrong : ChangeSpec := { name := "fnMostLeased", fn := fun _ => fun
  | [d] => { results := [.lit (.bool false)], args := [d] }
  | _ => none }
def FnMostLeasedWrongFalsely : Prop := fnMostLeasedRow.holds Try.pinned (OpenSpec.ofChange fnMostLeasedWrong)

/-- 'laws.FnMostLeasedMore': WHATEVER THE INPUT: true; the input reads as it did. -/
def fnMostLeasedMoreSpec : ChangeSpec := { name := "fnMostLeasedMore", fn := fun _ => fun
  | [d] => { results := [.lit (.bool true)], args := [d] }
  | _ => none }
def fnMostLeasedMoreRow : OpenClaim := { program := "ytnkdhkhgfgcloaa", sum := "adfacb5077e062c18d647776d734cea367f085f219615e1bada656b7a88b9040", func := "loop.example/connectionpool/laws.FnMostLeasedMore", spec := "fnMostLeasedMore", apart := false }
def FnMostLeasedMoreSaid : Prop := fnMostLeasedMoreRow.holds Try.pinned (OpenSpec.ofChange fnMostLeasedMoreSpec)

/-- ITS FALSE NEIGHBOUR: 'it returns false'. Refute it at one input. -/
def fnMostLeasedMoreWrong : ChangeSpec := { name := "fnMostLeasedMore", fn := fun _ => fun
  | [d] => { results := [.lit (.bool false)], args := [d] }
  | _ => none }
def FnMostLeasedMoreWrongFalsely : Prop := fnMostLeasedMoreRow.holds Try.pinned (OpenSpec.ofChange fnMostLeasedMoreWrong)

/-- 'laws.FnMeanLeased': WHATEVER THE INPUT: true; the input reads as it did. -/
def fnMeanLeasedSpec : ChangeSpec := { name := "fnMeanLeased", fn := fun _ => fun
  | [d] => { results := [.lit (.bool true)], args := [d] }
  | _ => none }
def fnMeanLeasedRow : OpenClaim := { program := "ytnkdhkhgfgcloaa", sum := "adfacb5077e062c18d647776d734cea367f085f219615e1bada656b7a88b9040", func := "loop.example/connectionpool/laws.FnMeanLeased", spec := "fnMeanLeased", apart := false }
def FnMeanLeasedSaid : Prop := fnMeanLeasedRow.holds Try.pinned (OpenSpec.ofChange fnMeanLeasedSpec)

/-- ITS FALSE NEIGHBOUR: 'it returns false'. Refute it at one input. -/
def fnMeanLeasedWrong : ChangeSpec := { name := "fnMeanLeased", fn := fun _ => fun
  | [d] => { results := [.lit (.bool false)], args := [d] }
  | _ => none }
def FnMeanLeasedWrongFalsely : Prop := fnMeanLeasedRow.holds Try.pinned (OpenSpec.ofChange fnMeanLeasedWrong)

/-- 'laws.FnBusyAt': WHATEVER THE INPUT: true; the input reads as it did. -/
def fnBusyAtSpec : ChangeSpec := { name := "fnBusyAt", fn := fun _ => fun
  | [d] => { results := [.lit (.bool true)], args := [d] }
  | _ => none }
def fnBusyAtRow : OpenClaim := { program := "ytnkdhkhgfgcloaa", sum := "adfacb5077e062c18d647776d734cea367f085f219615e1bada656b7a88b9040", func := "loop.example/connectionpool/laws.FnBusyAt", spec := "fnBusyAt", apart := false }
def FnBusyAtSaid : Prop := fnBusyAtRow.holds Try.pinned (OpenSpec.ofChange fnBusyAtSpec)

/-- ITS FALSE NEIGHBOUR: 'it returns false'. Refute it at one input. -/
def fnBusyAtWrong : ChangeSpec := { name := "fnBusyAt", fn := fun _ => fun
  | [d] => { results := [.lit (.bool false)], args := [d] }
  | _ => none }
def FnBusyAtWrongFalsely : Prop := fnBusyAtRow.holds Try.pinned (OpenSpec.ofChange fnBusyAtWrong)

/-- 'laws.FnPackLeases': WHATEVER THE INPUT: true; the input reads as it did. -/
def fnPackLeasesSpec : ChangeSpec := { name := "fnPackLeases", fn := fun _ => fun
  | [d] => { results := [.lit (.bool true)], args := [d] }
  | _ => none }
def fnPackLeasesRow : OpenClaim := { program := "ytnkdhkhgfgcloaa", sum := "adfacb5077e062c18d647776d734cea367f085f219615e1bada656b7a88b9040", func := "loop.example/connectionpool/laws.FnPackLeases", spec := "fnPackLeases", apart := false }
def FnPackLeasesSaid : Prop := fnPackLeasesRow.holds Try.pinned (OpenSpec.ofChange fnPackLeasesSpec)

/-- ITS FALSE NEIGHBOUR: 'it returns false'. Refute it at one input. -/
def fnPackLeasesWrong : ChangeSpec := { name := "fnPackLeases", fn := fun _ => fun
  | [d] => { results := [.lit (.bool false)], args := [d] }
  | _ => none }
def FnPackLeasesWrongFalsely : Prop := fnPackLeasesRow.holds Try.pinned (OpenSpec.ofChange fnPackLeasesWrong)

/-- 'laws.FnPackLeasesTwice': WHATEVER THE INPUT: true; the input reads as it did. -/
def fnPackLeasesTwiceSpec : ChangeSpec := { name := "fnPackLeasesTwice", fn := fun _ => fun
  | [d] => { results := [.lit (.bool true)], args := [d] }
  | _ => none }
def fnPackLeasesTwiceRow : OpenClaim := { program := "ytnkdhkhgfgcloaa", sum := "adfacb5077e062c18d647776d734cea367f085f219615e1bada656b7a88b9040", func := "loop.example/connectionpool/laws.FnPackLeasesTwice", spec := "fnPackLeasesTwice", apart := false }
def FnPackLeasesTwiceSaid : Prop := fnPackLeasesTwiceRow.holds Try.pinned (OpenSpec.ofChange fnPackLeasesTwiceSpec)

/-- ITS FALSE NEIGHBOUR: 'it returns false'. Refute it at one input. -/
def fnPackLeasesTwiceWrong : ChangeSpec := { name := "fnPackLeasesTwice", fn := fun _ => fun
  | [d] => { results := [.lit (.bool false)], args := [d] }
  | _ => none }
def FnPackLeasesTwiceWrongFalsely : Prop := fnPackLeasesTwiceRow.holds Try.pinned (OpenSpec.ofChange fnPackLeasesTwiceWrong)

/-- 'laws.FnPackLeasesFirst': WHATEVER THE INPUT: true; the input reads as it did. -/
def fnPackLeasesFirstSpec : ChangeSpec := { name := "fnPackLeasesFirst", fn := fun _ => fun
  | [d] => { results := [.lit (.bool true)], args := [d] }
  | _ => none }
def fnPackLeasesFirstRow : OpenClaim := { program := "ytnkdhkhgfgcloaa", sum := "adfacb5077e062c18d647776d734cea367f085f219615e1bada656b7a88b9040", func := "loop.example/connectionpool/laws.FnPackLeasesFirst", spec := "fnPackLeasesFirst", apart := false }
def FnPackLeasesFirstSaid : Prop := fnPackLeasesFirstRow.holds Try.pinned (OpenSpec.ofChange fnPackLeasesFirstSpec)

/-- ITS FALSE NEIGHBOUR: 'it returns false'. Refute it at one input. -/
def fnPackLeasesFirstWrong : ChangeSpec := { name := "fnPackLeasesFirst", fn := fun _ => fun
  | [d] => { results := [.lit (.bool false)], args := [d] }
  | _ => none }
def FnPackLeasesFirstWrongFalsely : Prop := fnPackLeasesFirstRow.holds Try.pinned (OpenSpec.ofChange fnPackLeasesFirstWrong)

/- THE SECOND FORM. 'bulk': how many values and letters a reading holds, each counted each time it is reached (what is shared counts as often as it is met; a slice's spare places count too). A statement '..UptoSaid' is the law's where the arguments, and the package variables that the reading takes, are together of bulk at most 1048576: NARROWER than '..Said'. Prove '..Said' where nothing that the law and all that it calls make is longer than what came in: it says more and counts as full. Else prove '..UptoSaid'. A law counts once. -/
mutual
def uptoBulk {H : Type} : DataW H → Nat
  | .lit (.string bytes) => bytes.length + 1
  | .lit _ => 1
  | .nil => 1
  | .ptr d => uptoBulk d + 1
  | .slice elems spare => uptoBulkAll elems + uptoBulkAll spare + 1
  | .agg parts => uptoBulkAll parts + 1
  | .iface _ d => uptoBulk d + 1
  | .map entries => uptoBulkEntries entries + 1
  | .held _ => 1
def uptoBulkAll {H : Type} : List (DataW H) → Nat
  | [] => 0
  | d :: r => uptoBulk d + uptoBulkAll r
def uptoBulkEntries {H : Type} : List (Lit × DataW H) → Nat
  | [] => 0
  | x :: r => uptoBulkEntry x + uptoBulkEntries r
def uptoBulkEntry {H : Type} : Lit × DataW H → Nat
  | (.string bytes, d) => bytes.length + uptoBulk d + 1
  | (_, d) => uptoBulk d + 1
 end
def uptoSmall : (H : Type) → List (DataW H) → Bool := fun _ ds => decide (uptoBulkAll ds ≤ 1048576)
def OpenSpec.upto (s : _root_.Go.ChangeSpec) : _root_.Go.OpenSpec := { _root_.Go.OpenSpec.ofChange s with cond := some uptoSmall }

/-- 'laws.FnExactMostLeased', WHERE WHAT IT READS IS OF BULK AT MOST 1048576: true; the input reads as it did. -/
def fnExactMostLeasedUptoRow : OpenClaim := { program := "ytnkdhkhgfgcloaa", sum := "adfacb5077e062c18d647776d734cea367f085f219615e1bada656b7a88b9040", func := "loop.example/connectionpool/laws.FnExactMostLeased", spec := "fnExactMostLeased", apart := false, narrowed := true }
def FnExactMostLeasedUptoSaid : Prop := fnExactMostLeasedUptoRow.holds Try.pinned (OpenSpec.upto fnExactMostLeasedSpec)

/-- 'laws.FnExactPackLeases', WHERE WHAT IT READS IS OF BULK AT MOST 1048576: true; the input reads as it did. -/
def fnExactPackLeasesUptoRow : OpenClaim := { program := "ytnkdhkhgfgcloaa", sum := "adfacb5077e062c18d647776d734cea367f085f219615e1bada656b7a88b9040", func := "loop.example/connectionpool/laws.FnExactPackLeases", spec := "fnExactPackLeases", apart := false, narrowed := true }
def FnExactPackLeasesUptoSaid : Prop := fnExactPackLeasesUptoRow.holds Try.pinned (OpenSpec.upto fnExactPackLeasesSpec)

/-- 'laws.FnMostLeased', WHERE WHAT IT READS IS OF BULK AT MOST 1048576: true; the input reads as it did. -/
def fnMostLeasedUptoRow : OpenClaim := { program := "ytnkdhkhgfgcloaa", sum := "adfacb5077e062c18d647776d734cea367f085f219615e1bada656b7a88b9040", func := "loop.example/connectionpool/laws.FnMostLeased", spec := "fnMostLeased", apart := false, narrowed := true }
def FnMostLeasedUptoSaid : Prop := fnMostLeasedUptoRow.holds Try.pinned (OpenSpec.upto fnMostLeasedSpec)

/-- 'laws.FnMostLeasedMore', WHERE WHAT IT READS IS OF BULK AT MOST 1048576: true; the input reads as it did. -/
def fnMostLeasedMoreUptoRow : OpenClaim := { program := "ytnkdhkhgfgcloaa", sum := "adfacb5077e062c18d647776d734cea367f085f219615e1bada656b7a88b9040", func := "loop.example/connectionpool/laws.FnMostLeasedMore", spec := "fnMostLeasedMore", apart := false, narrowed := true }
def FnMostLeasedMoreUptoSaid : Prop := fnMostLeasedMoreUptoRow.holds Try.pinned (OpenSpec.upto fnMostLeasedMoreSpec)

/-- 'laws.FnMeanLeased', WHERE WHAT IT READS IS OF BULK AT MOST 1048576: true; the input reads as it did. -/
def fnMeanLeasedUptoRow : OpenClaim := { program := "ytnkdhkhgfgcloaa", sum := "adfacb5077e062c18d647776d734cea367f085f219615e1bada656b7a88b9040", func := "loop.example/connectionpool/laws.FnMeanLeased", spec := "fnMeanLeased", apart := false, narrowed := true }
def FnMeanLeasedUptoSaid : Prop := fnMeanLeasedUptoRow.holds Try.pinned (OpenSpec.upto fnMeanLeasedSpec)

/-- 'laws.FnBusyAt', WHERE WHAT IT READS IS OF BULK AT MOST 1048576: true; the input reads as it did. -/
def fnBusyAtUptoRow : OpenClaim := { program := "ytnkdhkhgfgcloaa", sum := "adfacb5077e062c18d647776d734cea367f085f219615e1bada656b7a88b9040", func := "loop.example/connectionpool/laws.FnBusyAt", spec := "fnBusyAt", apart := false, narrowed := true }
def FnBusyAtUptoSaid : Prop := fnBusyAtUptoRow.holds Try.pinned (OpenSpec.upto fnBusyAtSpec)

/-- 'laws.FnPackLeases', WHERE WHAT IT READS IS OF BULK AT MOST 1048576: true; the input reads as it did. -/
def fnPackLeasesUptoRow : OpenClaim := { program := "ytnkdhkhgfgcloaa", sum := "adfacb5077e062c18d647776d734cea367f085f219615e1bada656b7a88b9040", func := "loop.example/connectionpool/laws.FnPackLeases", spec := "fnPackLeases", apart := false, narrowed := true }
def FnPackLeasesUptoSaid : Prop := fnPackLeasesUptoRow.holds Try.pinned (OpenSpec.upto fnPackLeasesSpec)

/-- 'laws.FnPackLeasesTwice', WHERE WHAT IT READS IS OF BULK AT MOST 1048576: true; the input reads as it did. -/
def fnPackLeasesTwiceUptoRow : OpenClaim := { program := "ytnkdhkhgfgcloaa", sum := "adfacb5077e062c18d647776d734cea367f085f219615e1bada656b7a88b9040", func := "loop.example/connectionpool/laws.FnPackLeasesTwice", spec := "fnPackLeasesTwice", apart := false, narrowed := true }
def FnPackLeasesTwiceUptoSaid : Prop := fnPackLeasesTwiceUptoRow.holds Try.pinned (OpenSpec.upto fnPackLeasesTwiceSpec)

/-- 'laws.FnPackLeasesFirst', WHERE WHAT IT READS IS OF BULK AT MOST 1048576: true; the input reads as it did. -/
def fnPackLeasesFirstUptoRow : OpenClaim := { program := "ytnkdhkhgfgcloaa", sum := "adfacb5077e062c18d647776d734cea367f085f219615e1bada656b7a88b9040", func := "loop.example/connectionpool/laws.FnPackLeasesFirst", spec := "fnPackLeasesFirst", apart := false, narrowed := true }
def FnPackLeasesFirstUptoSaid : Prop := fnPackLeasesFirstUptoRow.holds Try.pinned (OpenSpec.upto fnPackLeasesFirstSpec)

end Rows
end Go.Proofs.Ytnkdhkhgfgcloaa

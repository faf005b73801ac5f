/-
  No cell of these rows narrows 'for every input' (looked for: loops, veiled, ifaces, maps, wideKeys, modest, calm, conditions, laid).
  DERIVED. THE GIVEN ROWS OF THIS SEAT. 7 by the template 'for every input the law returns true; each argument reads behind the call as it read before'; 0 by the template 'total and deterministic' (their statements: YtindbplgbfjjcaaTotals.lean).
  GIVEN WITH THE SEED: the statements are not yours to turn. If you find one false, say at which input.
  Laid BY PROGRAM, IN A SANDBOX (cutbox-rows.mjs): the forced cells as the released guide's own fill.sh prints them over the translation b96204e410e49348… (all of the seat's roots in one cut). By AI agents, Wed Nov 11 2026. No macro, syntax, notation, axiom, sorry.
-/
import Derived.Test.YtindbplgbfjjcaaChecked
import GoSem.Claim
import GoSem.ClaimJoined
import GoSem.ClaimMapViews
import Derived.JoinedTies
import Derived.KernelRfl
namespace Go.Proofs.Ytindbplgbfjjcaa
/- THE CELL 'sum', in the pinned program and in every row, IS THE sha256 OF THE DUMP (.gsa) THAT YtindbplgbfjjcaaProg.lean LOADS. Nothing in Lean hashes anything: it is a label: what it is worth is what the hold of that sum in a sandbox is worth. -/
noncomputable def Try.pinned : Pinned := { name := "ytindbplgbfjjcaa", sum := "b96204e410e49348b81ce7b0cbd1b9360e63ea2cd31fdad634ba089edcc46c61", checked := Try.checked }
namespace Rows
def none {H : Type} : Left H := { results := [], args := [] }

/-- 'laws.FnExactValidSettings': WHATEVER THE INPUT: true; the input reads as it did. -/
def fnExactValidSettingsSpec : ChangeSpec := { name := "fnExactValidSettings", fn := fun _ => fun
  | [d] => { results := [.lit (.bool true)], args := [d] }
  | _ => none }
def fnExactValidSettingsRow : OpenClaim := { program := "ytindbplgbfjjcaa", sum := "b96204e410e49348b81ce7b0cbd1b9360e63ea2cd31fdad634ba089edcc46c61", func := "loop.example/connectionpool/laws.FnExactValidSettings", spec := "fnExactValidSettings", apart := false }
def FnExactValidSettingsSaid : Prop := fnExactValidSettingsRow.holds Try.pinned (OpenSpec.ofChange fnExactValidSettingsSpec)

/-- ITS FALSE NEIGHBOUR: 'it returns false'. Refute it at one input. -/
def fnExactValidSettingsWrong : ChangeSpec := { name := "fnExactValidSettings", fn := fun _ => fun
  | [d] => { results := [.lit (.bool false)], args := [d] }
  | _ => none }
def FnExactValidSettingsWrongFalsely : Prop := fnExactValidSettingsRow.holds Try.pinned (OpenSpec.ofChange fnExactValidSettingsWrong)

/-- 'laws.FnExactApplySettings': WHATEVER THE INPUT: true; the input reads as it did. -/
def fnExactApplySettingsSpec : ChangeSpec := { name := "fnExactApplySettings", fn := fun _ => fun
  | [d1, d2] => { results := [.lit (.bool true)], args := [d1, d2] }
  | _ => none }
def fnExactApplySettingsRow : OpenClaim := { program := "ytindbplgbfjjcaa", sum := "b96204e410e49348b81ce7b0cbd1b9360e63ea2cd31fdad634ba089edcc46c61", func := "loop.example/connectionpool/laws.FnExactApplySettings", spec := "fnExactApplySettings", apart := false }
def FnExactApplySettingsSaid : Prop := fnExactApplySettingsRow.holds Try.pinned (OpenSpec.ofChange fnExactApplySettingsSpec)

/-- ITS FALSE NEIGHBOUR: 'it returns false'. Refute it at one input. -/
def fnExactApplySettingsWrong : ChangeSpec := { name := "fnExactApplySettings", fn := fun _ => fun
  | [d1, d2] => { results := [.lit (.bool false)], args := [d1, d2] }
  | _ => none }
def FnExactApplySettingsWrongFalsely : Prop := fnExactApplySettingsRow.holds Try.pinned (OpenSpec.ofChange fnExactApplySettingsWrong)

/-- 'laws.FnExactResetPlan': WHATEVER THE INPUT: true; the input reads as it did. -/
def fnExactResetPlanSpec : ChangeSpec := { name := "fnExactResetPlan", fn := fun _ => fun
  | [d1, d2] => { results := [.lit (.bool true)], args := [d1, d2] }
  | _ => none }
def fnExactResetPlanRow : OpenClaim := { program := "ytindbplgbfjjcaa", sum := "b96204e410e49348b81ce7b0cbd1b9360e63ea2cd31fdad634ba089edcc46c61", func := "loop.example/connectionpool/laws.FnExactResetPlan", spec := "fnExactResetPlan", apart := false }
def FnExactResetPlanSaid : Prop := fnExactResetPlanRow.holds Try.pinned (OpenSpec.ofChange fnExactResetPlanSpec)

/-- ITS FALSE NEIGHBOUR: 'it returns false'. Refute it at one input. -/
def fnExactResetPlanWrong : ChangeSpec := { name := "fnExactResetPlan", fn := fun _ => fun
  | [d1, d2] => { results := [.lit (.bool false)], args := [d1, d2] }
  | _ => none }
def FnExactResetPlanWrongFalsely : Prop := fnExactResetPlanRow.holds Try.pinned (OpenSpec.ofChange fnExactResetPlanWrong)

/-- 'laws.FnExactCheapestReset': WHATEVER THE INPUT: true; the input reads as it did. -/
def fnExactCheapestResetSpec : ChangeSpec := { name := "fnExactCheapestReset", fn := fun _ => fun
  | [d1, d2] => { results := [.lit (.bool true)], args := [d1, d2] }
  | _ => none }
def fnExactCheapestResetRow : OpenClaim := { program := "ytindbplgbfjjcaa", sum := "b96204e410e49348b81ce7b0cbd1b9360e63ea2cd31fdad634ba089edcc46c61", func := "loop.example/connectionpool/laws.FnExactCheapestReset", spec := "fnExactCheapestReset", apart := false }
def FnExactCheapestResetSaid : Prop := fnExactCheapestResetRow.holds Try.pinned (OpenSpec.ofChange fnExactCheapestResetSpec)

/-- ITS FALSE NEIGHBOUR: 'it returns false'. Refute it at one input. -/
def fnExactCheapestResetWrong : ChangeSpec := { name := "fnExactCheapestReset", fn := fun _ => fun
  | [d1, d2] => { results := [.lit (.bool false)], args := [d1, d2] }
  | _ => none }
def FnExactCheapestResetWrongFalsely : Prop := fnExactCheapestResetRow.holds Try.pinned (OpenSpec.ofChange fnExactCheapestResetWrong)

/-- 'laws.FnValidSettings': WHATEVER THE INPUT: true; the input reads as it did. -/
def fnValidSettingsSpec : ChangeSpec := { name := "fnValidSettings", fn := fun _ => fun
  | [d] => { results := [.lit (.bool true)], args := [d] }
  | _ => none }
def fnValidSettingsRow : OpenClaim := { program := "ytindbplgbfjjcaa", sum := "b96204e410e49348b81ce7b0cbd1b9360e63ea2cd31fdad634ba089edcc46c61", func := "loop.example/connectionpool/laws.FnValidSettings", spec := "fnValidSettings", apart := false }
def FnValidSettingsSaid : Prop := fnValidSettingsRow.holds Try.pinned (OpenSpec.ofChange fnValidSettingsSpec)

/-- ITS FALSE NEIGHBOUR: 'it returns false'. Refute it at one input. -/
def fnValidSettingsWrong : ChangeSpec := { name := "fnValidSettings", fn := fun _ => fun
  | [d] => { results := [.lit (.bool false)], args := [d] }
  | _ => none }
def FnValidSettingsWrongFalsely : Prop := fnValidSettingsRow.holds Try.pinned (OpenSpec.ofChange fnValidSettingsWrong)

/-- 'laws.FnApplySettings': WHATEVER THE INPUT: true; the input reads as it did. -/
def fnApplySettingsSpec : ChangeSpec := { name := "fnApplySettings", fn := fun _ => fun
  | [d] => { results := [.lit (.bool true)], args := [d] }
  | _ => none }
def fnApplySettingsRow : OpenClaim := { program := "ytindbplgbfjjcaa", sum := "b96204e410e49348b81ce7b0cbd1b9360e63ea2cd31fdad634ba089edcc46c61", func := "loop.example/connectionpool/laws.FnApplySettings", spec := "fnApplySettings", apart := false }
def FnApplySettingsSaid : Prop := fnApplySettingsRow.holds Try.pinned (OpenSpec.ofChange fnApplySettingsSpec)

/-- ITS FALSE NEIGHBOUR: 'it returns false'. Refute it at one input. -/
def fnApplySettingsWrong : ChangeSpec := { name := "fnApplySettings", fn := fun _ => fun
  | [d] => { results := [.lit (.bool false)], args := [d] }
  | _ => none }
def FnApplySettingsWrongFalsely : Prop := fnApplySettingsRow.holds Try.pinned (OpenSpec.ofChange fnApplySettingsWrong)

/-- 'laws.FnApplySettingsParts': WHATEVER THE INPUT: true; the input reads as it did. -/
def fnApplySettingsPartsSpec : ChangeSpec := { name := "fnApplySettingsParts", fn := fun _ => fun
  | [d] => { results := [.lit (.bool true)], args := [d] }
  | _ => none }
def fnApplySettingsPartsRow : OpenClaim := { program := "ytindbplgbfjjcaa", sum := "b96204e410e49348b81ce7b0cbd1b9360e63ea2cd31fdad634ba089edcc46c61", func := "loop.example/connectionpool/laws.FnApplySettingsParts", spec := "fnApplySettingsParts", apart := false }
def FnApplySettingsPartsSaid : Prop := fnApplySettingsPartsRow.holds Try.pinned (OpenSpec.ofChange fnApplySettingsPartsSpec)

/-- ITS FALSE NEIGHBOUR: 'it returns false'. Refute it at one input. -/
def fnApplySettingsPartsWrong : ChangeSpec := { name := "fnApplySettingsParts", fn := fun _ => fun
  | [d] => { results := [.lit (.bool false)], args := [d] }
  | _ => none }
def FnApplySettingsPartsWrongFalsely : Prop := fnApplySettingsPartsRow.holds Try.pinned (OpenSpec.ofChange fnApplySettingsPartsWrong)

/- THE SECOND FORM. 'bulk': how many values and letters a reading holds, each counted each time it is reached (what is shared counts as often as it is met; a slice's spare places count too). A statement '..UptoSaid' is the law's where the arguments, and the package variables that the reading takes, are together of bulk at most 1048576: NARROWER than '..Said'. Prove '..Said' where nothing that the law and all that it calls make is longer than what came in: it says more and counts as full. Else prove '..UptoSaid'. A law counts once. -/
mutual
def uptoBulk {H : Type} : DataW H → Nat
  | .lit (.string bytes) => bytes.length + 1
  | .lit _ => 1
  | .nil => 1
  | .ptr d => uptoBulk d + 1
  | .slice elems spare => uptoBulkAll elems + uptoBulkAll spare + 1
  | .agg parts => uptoBulkAll parts + 1
  | .iface _ d => uptoBulk d + 1
  | .map entries => uptoBulkEntries entries + 1
  | .held _ => 1
def uptoBulkAll {H : Type} : List (DataW H) → Nat
  | [] => 0
  | d :: r => uptoBulk d + uptoBulkAll r
def uptoBulkEntries {H : Type} : List (Lit × DataW H) → Nat
  | [] => 0
  | x :: r => uptoBulkEntry x + uptoBulkEntries r
def uptoBulkEntry {H : Type} : Lit × DataW H → Nat
  | (.string bytes, d) => bytes.length + uptoBulk d + 1
  | (_, d) => uptoBulk d + 1
 end
def uptoSmall : (H : Type) → List (DataW H) → Bool := fun _ ds => decide (uptoBulkAll ds ≤ 1048576)
def OpenSpec.upto (s : _root_.Go.ChangeSpec) : _root_.Go.OpenSpec := { _root_.Go.OpenSpec.ofChange s with cond := some uptoSmall }

/-- 'laws.FnExactValidSettings', WHERE WHAT IT READS IS OF BULK AT MOST 1048576: true; the input reads as it did. -/
def fnExactValidSettingsUptoRow : OpenClaim := { program := "ytindbplgbfjjcaa", sum := "b96204e410e49348b81ce7b0cbd1b9360e63ea2cd31fdad634ba089edcc46c61", func := "loop.example/connectionpool/laws.FnExactValidSettings", spec := "fnExactValidSettings", apart := false, narrowed := true }
def FnExactValidSettingsUptoSaid : Prop := fnExactValidSettingsUptoRow.holds Try.pinned (OpenSpec.upto fnExactValidSettingsSpec)

/-- 'laws.FnExactApplySettings', WHERE WHAT IT READS IS OF BULK AT MOST 1048576: true; the input reads as it did. -/
def fnExactApplySettingsUptoRow : OpenClaim := { program := "ytindbplgbfjjcaa", sum := "b96204e410e49348b81ce7b0cbd1b9360e63ea2cd31fdad634ba089edcc46c61", func := "loop.example/connectionpool/laws.FnExactApplySettings", spec := "fnExactApplySettings", apart := false, narrowed := true }
def FnExactApplySettingsUptoSaid : Prop := fnExactApplySettingsUptoRow.holds Try.pinned (OpenSpec.upto fnExactApplySettingsSpec)

/-- 'laws.FnExactResetPlan', WHERE WHAT IT READS IS OF BULK AT MOST 1048576: true; the input reads as it did. -/
def fnExactResetPlanUptoRow : OpenClaim := { program := "ytindbplgbfjjcaa", sum := "b96204e410e49348b81ce7b0cbd1b9360e63ea2cd31fdad634ba089edcc46c61", func := "loop.example/connectionpool/laws.FnExactResetPlan", spec := "fnExactResetPlan", apart := false, narrowed := true }
def FnExactResetPlanUptoSaid : Prop := fnExactResetPlanUptoRow.holds Try.pinned (OpenSpec.upto fnExactResetPlanSpec)

/-- 'laws.FnExactCheapestReset', WHERE WHAT IT READS IS OF BULK AT MOST 1048576: true; the input reads as it did. -/
def fnExactCheapestResetUptoRow : OpenClaim := { program := "ytindbplgbfjjcaa", sum := "b96204e410e49348b81ce7b0cbd1b9360e63ea2cd31fdad634ba089edcc46c61", func := "loop.example/connectionpool/laws.FnExactCheapestReset", spec := "fnExactCheapestReset", apart := false, narrowed := true }
def FnExactCheapestResetUptoSaid : Prop := fnExactCheapestResetUptoRow.holds Try.pinned (OpenSpec.upto fnExactCheapestResetSpec)

/-- 'laws.FnValidSettings', WHERE WHAT IT READS IS OF BULK AT MOST 1048576: true; the input reads as it did. -/
def fnValidSettingsUptoRow : OpenClaim := { program := "ytindbplgbfjjcaa", sum := "b96204e410e49348b81ce7b0cbd1b9360e63ea2cd31fdad634ba089edcc46c61", func := "loop.example/connectionpool/laws.FnValidSettings", spec := "fnValidSettings", apart := false, narrowed := true }
def FnValidSettingsUptoSaid : Prop := fnValidSettingsUptoRow.holds Try.pinned (OpenSpec.upto fnValidSettingsSpec)

/-- 'laws.FnApplySettings', WHERE WHAT IT READS IS OF BULK AT MOST 1048576: true; the input reads as it did. -/
def fnApplySettingsUptoRow : OpenClaim := { program := "ytindbplgbfjjcaa", sum := "b96204e410e49348b81ce7b0cbd1b9360e63ea2cd31fdad634ba089edcc46c61", func := "loop.example/connectionpool/laws.FnApplySettings", spec := "fnApplySettings", apart := false, narrowed := true }
def FnApplySettingsUptoSaid : Prop := fnApplySettingsUptoRow.holds Try.pinned (OpenSpec.upto fnApplySettingsSpec)

/-- 'laws.FnApplySettingsParts', WHERE WHAT IT READS IS OF BULK AT MOST 1048576: true; the input reads as it did. -/
def fnApplySettingsPartsUptoRow : OpenClaim := { program := "ytindbplgbfjjcaa", sum := "b96204e410e49348b81ce7b0cbd1b9360e63ea2cd31fdad634ba089edcc46c61", func := "loop.example/connectionpool/laws.FnApplySettingsParts", spec := "fnApplySettingsParts", apart := false, narrowed := true }
def FnApplySettingsPartsUptoSaid : Prop := fnApplySettingsPartsUptoRow.holds Try.pinned (OpenSpec.upto fnApplySettingsPartsSpec)

end Rows
end Go.Proofs.Ytindbplgbfjjcaa

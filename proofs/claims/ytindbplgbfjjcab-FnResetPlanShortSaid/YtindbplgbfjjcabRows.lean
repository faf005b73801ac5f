/-
  No cell of these rows narrows 'for every input' (looked for: loops, veiled, ifaces, maps, wideKeys, modest, calm, conditions, laid).
  DERIVED. THE GIVEN ROWS OF THIS SEAT. 7 by the template 'for every input the law returns true; each argument reads behind the call as it read before'; 0 by the template 'total and deterministic' (their statements: YtindbplgbfjjcabTotals.lean).
  GIVEN WITH THE SEED: the statements are not yours to turn. If you find one false, say at which input.
  Laid BY PROGRAM, IN A SANDBOX (cutbox-rows.mjs): the forced cells as the released guide's own fill.sh prints them over the translation 26a0c24a0658a9d2… (all of the seat's roots in one cut). By AI agents, Wed Nov 11 2026. No macro, syntax, notation, axiom, sorry.
-/
import Derived.Test.YtindbplgbfjjcabChecked
import GoSem.Claim
import GoSem.ClaimJoined
import GoSem.ClaimMapViews
import Derived.JoinedTies
import Derived.KernelRfl
namespace Go.Proofs.Ytindbplgbfjjcab
/- THE CELL 'sum', in the pinned program and in every row, IS THE sha256 OF THE DUMP (.gsa) THAT YtindbplgbfjjcabProg.lean LOADS. Nothing in Lean hashes anything: it is a label: what it is worth is what the hold of that sum in a sandbox is worth. -/
noncomputable def Try.pinned : Pinned := { name := "ytindbplgbfjjcab", sum := "26a0c24a0658a9d2e422242f48fe7b6e36337c991ff027396c99db34b9e2a94e", checked := Try.checked }
namespace Rows
def none {H : Type} : Left H := { results := [], args := [] }

/-- 'laws.FnApplySettingsOther': WHATEVER THE INPUT: true; the input reads as it did. -/
def fnApplySettingsOtherSpec : ChangeSpec := { name := "fnApplySettingsOther", fn := fun _ => fun
  | [d] => { results := [.lit (.bool true)], args := [d] }
  | _ => none }
def fnApplySettingsOtherRow : OpenClaim := { program := "ytindbplgbfjjcab", sum := "26a0c24a0658a9d2e422242f48fe7b6e36337c991ff027396c99db34b9e2a94e", func := "loop.example/connectionpool/laws.FnApplySettingsOther", spec := "fnApplySettingsOther", apart := false }
def FnApplySettingsOtherSaid : Prop := fnApplySettingsOtherRow.holds Try.pinned (OpenSpec.ofChange fnApplySettingsOtherSpec)

/-- ITS FALSE NEIGHBOUR: 'it returns false'. Refute it at one input. -/
def fnApplySettingsOtherWrong : ChangeSpec := { name := "fnApplySettingsOther", fn := fun _ => fun
  | [d] => { results := [.lit (.bool false)], args := [d] }
  | _ => none }
def FnApplySettingsOtherWrongFalsely : Prop := fnApplySettingsOtherRow.holds Try.pinned (OpenSpec.ofChange fnApplySettingsOtherWrong)

/-- 'laws.FnApplySettingsNone': WHATEVER THE INPUT: true; the input reads as it did. -/
def fnApplySettingsNoneSpec : ChangeSpec := { name := "fnApplySettingsNone", fn := fun _ => fun
  | [d] => { results := [.lit (.bool true)], args := [d] }
  | _ => none }
def fnApplySettingsNoneRow : OpenClaim := { program := "ytindbplgbfjjcab", sum := "26a0c24a0658a9d2e422242f48fe7b6e36337c991ff027396c99db34b9e2a94e", func := "loop.example/connectionpool/laws.FnApplySettingsNone", spec := "fnApplySettingsNone", apart := false }
def FnApplySettingsNoneSaid : Prop := fnApplySettingsNoneRow.holds Try.pinned (OpenSpec.ofChange fnApplySettingsNoneSpec)

/-- ITS FALSE NEIGHBOUR: 'it returns false'. Refute it at one input. -/
def fnApplySettingsNoneWrong : ChangeSpec := { name := "fnApplySettingsNone", fn := fun _ => fun
  | [d] => { results := [.lit (.bool false)], args := [d] }
  | _ => none }
def FnApplySettingsNoneWrongFalsely : Prop := fnApplySettingsNoneRow.holds Try.pinned (OpenSpec.ofChange fnApplySettingsNoneWrong)

/-- 'laws.FnResetPlan': WHATEVER THE INPUT: true; the input reads as it did. -/
def fnResetPlanSpec : ChangeSpec := { name := "fnResetPlan", fn := fun _ => fun
  | [d] => { results := [.lit (.bool true)], args := [d] }
  | _ => none }
def fnResetPlanRow : OpenClaim := { program := "ytindbplgbfjjcab", sum := "26a0c24a0658a9d2e422242f48fe7b6e36337c991ff027396c99db34b9e2a94e", func := "loop.example/connectionpool/laws.FnResetPlan", spec := "fnResetPlan", apart := false }
def FnResetPlanSaid : Prop := fnResetPlanRow.holds Try.pinned (OpenSpec.ofChange fnResetPlanSpec)

/-- ITS FALSE NEIGHBOUR: 'it returns false'. Refute it at one input. -/
def fnResetPlanWrong : ChangeSpec := { name := "fnResetPlan", fn := fun _ => fun
  | [d] => { results := [.lit (.bool false)], args := [d] }
  | _ => none }
def FnResetPlanWrongFalsely : Prop := fnResetPlanRow.holds Try.pinned (OpenSpec.ofChange fnResetPlanWrong)

/-- 'laws.FnResetPlanNone': WHATEVER THE INPUT: true; the input reads as it did. -/
def fnResetPlanNoneSpec : ChangeSpec := { name := "fnResetPlanNone", fn := fun _ => fun
  | [d] => { results := [.lit (.bool true)], args := [d] }
  | _ => none }
def fnResetPlanNoneRow : OpenClaim := { program := "ytindbplgbfjjcab", sum := "26a0c24a0658a9d2e422242f48fe7b6e36337c991ff027396c99db34b9e2a94e", func := "loop.example/connectionpool/laws.FnResetPlanNone", spec := "fnResetPlanNone", apart := false }
def FnResetPlanNoneSaid : Prop := fnResetPlanNoneRow.holds Try.pinned (OpenSpec.ofChange fnResetPlanNoneSpec)

/-- ITS FALSE NEIGHBOUR: 'it returns false'. Refute it at one input. -/
def fnResetPlanNoneWrong : ChangeSpec := { name := "fnResetPlanNone", fn := fun _ => fun
  | [d] => { results := [.lit (.bool false)], args := [d] }
  | _ => none }
def FnResetPlanNoneWrongFalsely : Prop := fnResetPlanNoneRow.holds Try.pinned (OpenSpec.ofChange fnResetPlanNoneWrong)

/-- 'laws.FnResetPlanShort': WHATEVER THE INPUT: true; the input reads as it did. -/
def fnResetPlanShortSpec : ChangeSpec := { name := "fnResetPlanShort", fn := fun _ => fun
  | [d] => { results := [.lit (.bool true)], args := [d] }
  | _ => none }
def fnResetPlanShortRow : OpenClaim := { program := "ytindbplgbfjjcab", sum := "26a0c24a0658a9d2e422242f48fe7b6e36337c991ff027396c99db34b9e2a94e", func := "loop.example/connectionpool/laws.FnResetPlanShort", spec := "fnResetPlanShort", apart := false }
def FnResetPlanShortSaid : Prop := fnResetPlanShortRow.holds Try.pinned (OpenSpec.ofChange fnResetPlanShortSpec)

/-- ITS FALSE NEIGHBOUR: 'it returns false'. Refute it at one input. -/
def fnResetPlanShortWrong : ChangeSpec := { name := "fnResetPlanShort", fn := fun _ => fun
  | [d] => { results := [.lit (.bool false)], args := [d] }
  | _ => none }
def FnResetPlanShortWrongFalsely : Prop := fnResetPlanShortRow.holds Try.pinned (OpenSpec.ofChange fnResetPlanShortWrong)

/-- 'laws.FnCheapestReset': WHATEVER THE INPUT: true; the input reads as it did. -/
def fnCheapestResetSpec : ChangeSpec := { name := "fnCheapestReset", fn := fun _ => fun
  | [d] => { results := [.lit (.bool true)], args := [d] }
  | _ => none }
def fnCheapestResetRow : OpenClaim := { program := "ytindbplgbfjjcab", sum := "26a0c24a0658a9d2e422242f48fe7b6e36337c991ff027396c99db34b9e2a94e", func := "loop.example/connectionpool/laws.FnCheapestReset", spec := "fnCheapestReset", apart := false }
def FnCheapestResetSaid : Prop := fnCheapestResetRow.holds Try.pinned (OpenSpec.ofChange fnCheapestResetSpec)

/-- ITS FALSE NEIGHBOUR: 'it returns false'. Refute it at one input. -/
def fnCheapestResetWrong : ChangeSpec := { name := "fnCheapestReset", fn := fun _ => fun
  | [d] => { results := [.lit (.bool false)], args := [d] }
  | _ => none }
def FnCheapestResetWrongFalsely : Prop := fnCheapestResetRow.holds Try.pinned (OpenSpec.ofChange fnCheapestResetWrong)

/-- 'laws.FnCheapestResetOne': WHATEVER THE INPUT: true; the input reads as it did. -/
def fnCheapestResetOneSpec : ChangeSpec := { name := "fnCheapestResetOne", fn := fun _ => fun
  | [d] => { results := [.lit (.bool true)], args := [d] }
  | _ => none }
def fnCheapestResetOneRow : OpenClaim := { program := "ytindbplgbfjjcab", sum := "26a0c24a0658a9d2e422242f48fe7b6e36337c991ff027396c99db34b9e2a94e", func := "loop.example/connectionpool/laws.FnCheapestResetOne", spec := "fnCheapestResetOne", apart := false }
def FnCheapestResetOneSaid : Prop := fnCheapestResetOneRow.holds Try.pinned (OpenSpec.ofChange fnCheapestResetOneSpec)

/-- ITS FALSE NEIGHBOUR: 'it returns false'. Refute it at one input. -/
def fnCheapestResetOneWrong : ChangeSpec := { name := "fnCheapestResetOne", fn := fun _ => fun
  | [d] => { results := [.lit (.bool false)], args := [d] }
  | _ => none }
def FnCheapestResetOneWrongFalsely : Prop := fnCheapestResetOneRow.holds Try.pinned (OpenSpec.ofChange fnCheapestResetOneWrong)

/- THE SECOND FORM. 'bulk': how many values and letters a reading holds, each counted each time it is reached (what is shared counts as often as it is met; a slice's spare places count too). A statement '..UptoSaid' is the law's where the arguments, and the package variables that the reading takes, are together of bulk at most 1048576: NARROWER than '..Said'. Prove '..Said' where nothing that the law and all that it calls make is longer than what came in: it says more and counts as full. Else prove '..UptoSaid'. A law counts once. -/
mutual
def uptoBulk {H : Type} : DataW H → Nat
  | .lit (.string bytes) => bytes.length + 1
  | .lit _ => 1
  | .nil => 1
  | .ptr d => uptoBulk d + 1
  | .slice elems spare => uptoBulkAll elems + uptoBulkAll spare + 1
  | .agg parts => uptoBulkAll parts + 1
  | .iface _ d => uptoBulk d + 1
  | .map entries => uptoBulkEntries entries + 1
  | .held _ => 1
def uptoBulkAll {H : Type} : List (DataW H) → Nat
  | [] => 0
  | d :: r => uptoBulk d + uptoBulkAll r
def uptoBulkEntries {H : Type} : List (Lit × DataW H) → Nat
  | [] => 0
  | x :: r => uptoBulkEntry x + uptoBulkEntries r
def uptoBulkEntry {H : Type} : Lit × DataW H → Nat
  | (.string bytes, d) => bytes.length + uptoBulk d + 1
  | (_, d) => uptoBulk d + 1
 end
def uptoSmall : (H : Type) → List (DataW H) → Bool := fun _ ds => decide (uptoBulkAll ds ≤ 1048576)
def OpenSpec.upto (s : _root_.Go.ChangeSpec) : _root_.Go.OpenSpec := { _root_.Go.OpenSpec.ofChange s with cond := some uptoSmall }

/-- 'laws.FnApplySettingsOther', WHERE WHAT IT READS IS OF BULK AT MOST 1048576: true; the input reads as it did. -/
def fnApplySettingsOtherUptoRow : OpenClaim := { program := "ytindbplgbfjjcab", sum := "26a0c24a0658a9d2e422242f48fe7b6e36337c991ff027396c99db34b9e2a94e", func := "loop.example/connectionpool/laws.FnApplySettingsOther", spec := "fnApplySettingsOther", apart := false, narrowed := true }
def FnApplySettingsOtherUptoSaid : Prop := fnApplySettingsOtherUptoRow.holds Try.pinned (OpenSpec.upto fnApplySettingsOtherSpec)

/-- 'laws.FnApplySettingsNone', WHERE WHAT IT READS IS OF BULK AT MOST 1048576: true; the input reads as it did. -/
def fnApplySettingsNoneUptoRow : OpenClaim := { program := "ytindbplgbfjjcab", sum := "26a0c24a0658a9d2e422242f48fe7b6e36337c991ff027396c99db34b9e2a94e", func := "loop.example/connectionpool/laws.FnApplySettingsNone", spec := "fnApplySettingsNone", apart := false, narrowed := true }
def FnApplySettingsNoneUptoSaid : Prop := fnApplySettingsNoneUptoRow.holds Try.pinned (OpenSpec.upto fnApplySettingsNoneSpec)

/-- 'laws.FnResetPlan', WHERE WHAT IT READS IS OF BULK AT MOST 1048576: true; the input reads as it did. -/
def fnResetPlanUptoRow : OpenClaim := { program := "ytindbplgbfjjcab", sum := "26a0c24a0658a9d2e422242f48fe7b6e36337c991ff027396c99db34b9e2a94e", func := "loop.example/connectionpool/laws.FnResetPlan", spec := "fnResetPlan", apart := false, narrowed := true }
def FnResetPlanUptoSaid : Prop := fnResetPlanUptoRow.holds Try.pinned (OpenSpec.upto fnResetPlanSpec)

/-- 'laws.FnResetPlanNone', WHERE WHAT IT READS IS OF BULK AT MOST 1048576: true; the input reads as it did. -/
def fnResetPlanNoneUptoRow : OpenClaim := { program := "ytindbplgbfjjcab", sum := "26a0c24a0658a9d2e422242f48fe7b6e36337c991ff027396c99db34b9e2a94e", func := "loop.example/connectionpool/laws.FnResetPlanNone", spec := "fnResetPlanNone", apart := false, narrowed := true }
def FnResetPlanNoneUptoSaid : Prop := fnResetPlanNoneUptoRow.holds Try.pinned (OpenSpec.upto fnResetPlanNoneSpec)

/-- 'laws.FnResetPlanShort', WHERE WHAT IT READS IS OF BULK AT MOST 1048576: true; the input reads as it did. -/
def fnResetPlanShortUptoRow : OpenClaim := { program := "ytindbplgbfjjcab", sum := "26a0c24a0658a9d2e422242f48fe7b6e36337c991ff027396c99db34b9e2a94e", func := "loop.example/connectionpool/laws.FnResetPlanShort", spec := "fnResetPlanShort", apart := false, narrowed := true }
def FnResetPlanShortUptoSaid : Prop := fnResetPlanShortUptoRow.holds Try.pinned (OpenSpec.upto fnResetPlanShortSpec)

/-- 'laws.FnCheapestReset', WHERE WHAT IT READS IS OF BULK AT MOST 1048576: true; the input reads as it did. -/
def fnCheapestResetUptoRow : OpenClaim := { program := "ytindbplgbfjjcab", sum := "26a0c24a0658a9d2e422242f48fe7b6e36337c991ff027396c99db34b9e2a94e", func := "loop.example/connectionpool/laws.FnCheapestReset", spec := "fnCheapestReset", apart := false, narrowed := true }
def FnCheapestResetUptoSaid : Prop := fnCheapestResetUptoRow.holds Try.pinned (OpenSpec.upto fnCheapestResetSpec)

/-- 'laws.FnCheapestResetOne', WHERE WHAT IT READS IS OF BULK AT MOST 1048576: true; the input reads as it did. -/
def fnCheapestResetOneUptoRow : OpenClaim := { program := "ytindbplgbfjjcab", sum := "26a0c24a0658a9d2e422242f48fe7b6e36337c991ff027396c99db34b9e2a94e", func := "loop.example/connectionpool/laws.FnCheapestResetOne", spec := "fnCheapestResetOne", apart := false, narrowed := true }
def FnCheapestResetOneUptoSaid : Prop := fnCheapestResetOneUptoRow.holds Try.pinned (OpenSpec.upto fnCheapestResetOneSpec)

end Rows
end Go.Proofs.Ytindbplgbfjjcab

/-
  No cell of these rows narrows 'for every input' (looked for: loops, veiled, ifaces, maps, wideKeys, modest, calm, conditions, laid).
  DERIVED. THE GIVEN ROWS OF THIS SEAT. 5 by the template 'for every input the law returns true; each argument reads behind the call as it read before'; 0 by the template 'total and deterministic' (their statements: YtehdbllpiokbnaaTotals.lean).
  GIVEN WITH THE SEED: the statements are not yours to turn. If you find one false, say at which input.
  Laid BY PROGRAM, IN A SANDBOX (cutbox-rows.mjs): the forced cells as the released guide's own fill.sh prints them over the translation c2396656b4a282b9… (all of the seat's roots in one cut). By AI agents, Wed Nov 11 2026. No macro, syntax, notation, axiom, sorry.
-/
import Derived.Test.YtehdbllpiokbnaaChecked
import GoSem.Claim
import GoSem.ClaimJoined
import GoSem.ClaimMapViews
import Derived.JoinedTies
import Derived.KernelRfl
namespace Go.Proofs.Ytehdbllpiokbnaa
/- THE CELL 'sum', in the pinned program and in every row, IS THE sha256 OF THE DUMP (.gsa) THAT YtehdbllpiokbnaaProg.lean LOADS. Nothing in Lean hashes anything: it is a label: what it is worth is what the hold of that sum in a sandbox is worth. -/
noncomputable def Try.pinned : Pinned := { name := "ytehdbllpiokbnaa", sum := "c2396656b4a282b94e69ae14da446c36a3730482e1a593906b139207cea46a5d", checked := Try.checked }
namespace Rows
def none {H : Type} : Left H := { results := [], args := [] }

/-- 'laws.FnExactFormatPool': WHATEVER THE INPUT: true; the input reads as it did. -/
def fnExactFormatPoolSpec : ChangeSpec := { name := "fnExactFormatPool", fn := fun _ => fun
  | [d] => { results := [.lit (.bool true)], args := [d] }
  | _ => none }
def fnExactFormatPoolRow : OpenClaim := { program := "ytehdbllpiokbnaa", sum := "c2396656b4a282b94e69ae14da446c36a3730482e1a593906b139207cea46a5d", func := "loop.example/connectionpool/laws.FnExactFormatPool", spec := "fnExactFormatPool", recurses := true, apart := false }
def FnExactFormatPoolSaid : Prop := fnExactFormatPoolRow.holds Try.pinned (OpenSpec.ofChange fnExactFormatPoolSpec)

/-- ITS FALSE NEIGHBOUR: 'it returns false'. Refute it at one input. -/
def fnExactFormatPoolWrong : ChangeSpec := { name := "fnExactFormatPool", fn := fun _ => fun
  | [d] => { results := [.lit (.bool false)], args := [d] }
  | _ => none }
def FnExactFormatPoolWrongFalsely : Prop := fnExactFormatPoolRow.holds Try.pinned (OpenSpec.ofChange fnExactFormatPoolWrong)

/-- 'laws.FnExactParsePool': WHATEVER THE INPUT: true; the input reads as it did. -/
def fnExactParsePoolSpec : ChangeSpec := { name := "fnExactParsePool", fn := fun _ => fun
  | [d] => { results := [.lit (.bool true)], args := [d] }
  | _ => none }
def fnExactParsePoolRow : OpenClaim := { program := "ytehdbllpiokbnaa", sum := "c2396656b4a282b94e69ae14da446c36a3730482e1a593906b139207cea46a5d", func := "loop.example/connectionpool/laws.FnExactParsePool", spec := "fnExactParsePool", recurses := true, apart := false }
def FnExactParsePoolSaid : Prop := fnExactParsePoolRow.holds Try.pinned (OpenSpec.ofChange fnExactParsePoolSpec)

/-- ITS FALSE NEIGHBOUR: 'it returns false'. Refute it at one input. -/
def fnExactParsePoolWrong : ChangeSpec := { name := "fnExactParsePool", fn := fun _ => fun
  | [d] => { results := [.lit (.bool false)], args := [d] }
  | _ => none }
def FnExactParsePoolWrongFalsely : Prop := fnExactParsePoolRow.holds Try.pinned (OpenSpec.ofChange fnExactParsePoolWrong)

/-- 'laws.FnExactFormatSettings': WHATEVER THE INPUT: true; the input reads as it did. -/
def fnExactFormatSettingsSpec : ChangeSpec := { name := "fnExactFormatSettings", fn := fun _ => fun
  | [d] => { results := [.lit (.bool true)], args := [d] }
  | _ => none }
def fnExactFormatSettingsRow : OpenClaim := { program := "ytehdbllpiokbnaa", sum := "c2396656b4a282b94e69ae14da446c36a3730482e1a593906b139207cea46a5d", func := "loop.example/connectionpool/laws.FnExactFormatSettings", spec := "fnExactFormatSettings", recurses := true, apart := false }
def FnExactFormatSettingsSaid : Prop := fnExactFormatSettingsRow.holds Try.pinned (OpenSpec.ofChange fnExactFormatSettingsSpec)

/-- ITS FALSE NEIGHBOUR: 'it returns false'. Refute it at one input. -/
def fnExactFormatSettingsWrong : ChangeSpec := { name := "fnExactFormatSettings", fn := fun _ => fun
  | [d] => { results := [.lit (.bool false)], args := [d] }
  | _ => none }
def FnExactFormatSettingsWrongFalsely : Prop := fnExactFormatSettingsRow.holds Try.pinned (OpenSpec.ofChange fnExactFormatSettingsWrong)

/-- 'laws.FnExactParseSettings': WHATEVER THE INPUT: true; the input reads as it did. -/
def fnExactParseSettingsSpec : ChangeSpec := { name := "fnExactParseSettings", fn := fun _ => fun
  | [d] => { results := [.lit (.bool true)], args := [d] }
  | _ => none }
def fnExactParseSettingsRow : OpenClaim := { program := "ytehdbllpiokbnaa", sum := "c2396656b4a282b94e69ae14da446c36a3730482e1a593906b139207cea46a5d", func := "loop.example/connectionpool/laws.FnExactParseSettings", spec := "fnExactParseSettings", recurses := true, apart := false }
def FnExactParseSettingsSaid : Prop := fnExactParseSettingsRow.holds Try.pinned (OpenSpec.ofChange fnExactParseSettingsSpec)

/-- ITS FALSE NEIGHBOUR: 'it returns false'. Refute it at one input. -/
def fnExactParseSettingsWrong : ChangeSpec := { name := "fnExactParseSettings", fn := fun _ => fun
  | [d] => { results := [.lit (.bool false)], args := [d] }
  | _ => none }
def FnExactParseSettingsWrongFalsely : Prop := fnExactParseSettingsRow.holds Try.pinned (OpenSpec.ofChange fnExactParseSettingsWrong)

/-- 'laws.FnExactRunSession': WHATEVER THE INPUT: true; the input reads as it did. -/
def fnExactRunSessionSpec : ChangeSpec := { name := "fnExactRunSession", fn := fun _ => fun
  | [d] => { results := [.lit (.bool true)], args := [d] }
  | _ => none }
def fnExactRunSessionRow : OpenClaim := { program := "ytehdbllpiokbnaa", sum := "c2396656b4a282b94e69ae14da446c36a3730482e1a593906b139207cea46a5d", func := "loop.example/connectionpool/laws.FnExactRunSession", spec := "fnExactRunSession", recurses := true, apart := false }
def FnExactRunSessionSaid : Prop := fnExactRunSessionRow.holds Try.pinned (OpenSpec.ofChange fnExactRunSessionSpec)

/-- ITS FALSE NEIGHBOUR: 'it returns false'. Refute it at one input. -/
def fnExactRunSessionWrong : ChangeSpec := { name := "fnExactRunSession", fn := fun _ => fun
  | [d] => { results := [.lit (.bool false)], args := [d] }
  | _ => none }
def FnExactRunSessionWrongFalsely : Prop := fnExactRunSessionRow.holds Try.pinned (OpenSpec.ofChange fnExactRunSessionWrong)

/- THE SECOND FORM. 'bulk': how many values and letters a reading holds, each counted each time it is reached (what is shared counts as often as it is met; a slice's spare places count too). A statement '..UptoSaid' is the law's where the arguments, and the package variables that the reading takes, are together of bulk at most 1048576: NARROWER than '..Said'. Prove '..Said' where nothing that the law and all that it calls make is longer than what came in: it says more and counts as full. Else prove '..UptoSaid'. A law counts once. -/
mutual
def uptoBulk {H : Type} : DataW H → Nat
  | .lit (.string bytes) => bytes.length + 1
  | .lit _ => 1
  | .nil => 1
  | .ptr d => uptoBulk d + 1
  | .slice elems spare => uptoBulkAll elems + uptoBulkAll spare + 1
  | .agg parts => uptoBulkAll parts + 1
  | .iface _ d => uptoBulk d + 1
  | .map entries => uptoBulkEntries entries + 1
  | .held _ => 1
def uptoBulkAll {H : Type} : List (DataW H) → Nat
  | [] => 0
  | d :: r => uptoBulk d + uptoBulkAll r
def uptoBulkEntries {H : Type} : List (Lit × DataW H) → Nat
  | [] => 0
  | x :: r => uptoBulkEntry x + uptoBulkEntries r
def uptoBulkEntry {H : Type} : Lit × DataW H → Nat
  | (.string bytes, d) => bytes.length + uptoBulk d + 1
  | (_, d) => uptoBulk d + 1
 end
def uptoSmall : (H : Type) → List (DataW H) → Bool := fun _ ds => decide (uptoBulkAll ds ≤ 1048576)
def OpenSpec.upto (s : _root_.Go.ChangeSpec) : _root_.Go.OpenSpec := { _root_.Go.OpenSpec.ofChange s with cond := some uptoSmall }

/-- 'laws.FnExactFormatPool', WHERE WHAT IT READS IS OF BULK AT MOST 1048576: true; the input reads as it did. -/
def fnExactFormatPoolUptoRow : OpenClaim := { program := "ytehdbllpiokbnaa", sum := "c2396656b4a282b94e69ae14da446c36a3730482e1a593906b139207cea46a5d", func := "loop.example/connectionpool/laws.FnExactFormatPool", spec := "fnExactFormatPool", recurses := true, apart := false, narrowed := true }
def FnExactFormatPoolUptoSaid : Prop := fnExactFormatPoolUptoRow.holds Try.pinned (OpenSpec.upto fnExactFormatPoolSpec)

/-- 'laws.FnExactParsePool', WHERE WHAT IT READS IS OF BULK AT MOST 1048576: true; the input reads as it did. -/
def fnExactParsePoolUptoRow : OpenClaim := { program := "ytehdbllpiokbnaa", sum := "c2396656b4a282b94e69ae14da446c36a3730482e1a593906b139207cea46a5d", func := "loop.example/connectionpool/laws.FnExactParsePool", spec := "fnExactParsePool", recurses := true, apart := false, narrowed := true }
def FnExactParsePoolUptoSaid : Prop := fnExactParsePoolUptoRow.holds Try.pinned (OpenSpec.upto fnExactParsePoolSpec)

/-- 'laws.FnExactFormatSettings', WHERE WHAT IT READS IS OF BULK AT MOST 1048576: true; the input reads as it did. -/
def fnExactFormatSettingsUptoRow : OpenClaim := { program := "ytehdbllpiokbnaa", sum := "c2396656b4a282b94e69ae14da446c36a3730482e1a593906b139207cea46a5d", func := "loop.example/connectionpool/laws.FnExactFormatSettings", spec := "fnExactFormatSettings", recurses := true, apart := false, narrowed := true }
def FnExactFormatSettingsUptoSaid : Prop := fnExactFormatSettingsUptoRow.holds Try.pinned (OpenSpec.upto fnExactFormatSettingsSpec)

/-- 'laws.FnExactParseSettings', WHERE WHAT IT READS IS OF BULK AT MOST 1048576: true; the input reads as it did. -/
def fnExactParseSettingsUptoRow : OpenClaim := { program := "ytehdbllpiokbnaa", sum := "c2396656b4a282b94e69ae14da446c36a3730482e1a593906b139207cea46a5d", func := "loop.example/connectionpool/laws.FnExactParseSettings", spec := "fnExactParseSettings", recurses := true, apart := false, narrowed := true }
def FnExactParseSettingsUptoSaid : Prop := fnExactParseSettingsUptoRow.holds Try.pinned (OpenSpec.upto fnExactParseSettingsSpec)

/-- 'laws.FnExactRunSession', WHERE WHAT IT READS IS OF BULK AT MOST 1048576: true; the input reads as it did. -/
def fnExactRunSessionUptoRow : OpenClaim := { program := "ytehdbllpiokbnaa", sum := "c2396656b4a282b94e69ae14da446c36a3730482e1a593906b139207cea46a5d", func := "loop.example/connectionpool/laws.FnExactRunSession", spec := "fnExactRunSession", recurses := true, apart := false, narrowed := true }
def FnExactRunSessionUptoSaid : Prop := fnExactRunSessionUptoRow.holds Try.pinned (OpenSpec.upto fnExactRunSessionSpec)

end Rows
end Go.Proofs.Ytehdbllpiokbnaa

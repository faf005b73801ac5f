/-
  No cell of these rows narrows 'for every input' (looked for: loops, veiled, ifaces, maps, wideKeys, modest, calm, conditions, laid).
  DERIVED. THE GIVEN ROWS OF THIS SEAT. 5 by the template 'for every input the law returns true; each argument reads behind the call as it read before'; 0 by the template 'total and deterministic' (their statements: YtehdbllpiokbnabTotals.lean).
  GIVEN WITH THE SEED: the statements are not yours to turn. If you find one false, say at which input.
  Laid BY PROGRAM, IN A SANDBOX (cutbox-rows.mjs): the forced cells as the released guide's own fill.sh prints them over the translation 32a5163c15ce3315… (all of the seat's roots in one cut). By AI agents, Wed Nov 11 2026. No macro, syntax, notation, axiom, sorry.
-/
import Derived.Test.YtehdbllpiokbnabChecked
import GoSem.Claim
import GoSem.ClaimJoined
import GoSem.ClaimMapViews
import Derived.JoinedTies
import Derived.KernelRfl
namespace Go.Proofs.Ytehdbllpiokbnab
/- THE CELL 'sum', in the pinned program and in every row, IS THE sha256 OF THE DUMP (.gsa) THAT YtehdbllpiokbnabProg.lean LOADS. Nothing in Lean hashes anything: it is a label: what it is worth is what the hold of that sum in a sandbox is worth. -/
noncomputable def Try.pinned : Pinned := { name := "ytehdbllpiokbnab", sum := "32a5163c15ce3315004172e71716734736ecc2ba7bc6bb95219b365a895e122b", checked := Try.checked }
namespace Rows
def none {H : Type} : Left H := { results := [], args := [] }

/-- 'laws.FnPoolRoundTrip': WHATEVER THE INPUT: true; the input reads as it did. -/
def fnPoolRoundTripSpec : ChangeSpec := { name := "fnPoolRoundTrip", fn := fun _ => fun
  | [d] => { results := [.lit (.bool true)], args := [d] }
  | _ => none }
def fnPoolRoundTripRow : OpenClaim := { program := "ytehdbllpiokbnab", sum := "32a5163c15ce3315004172e71716734736ecc2ba7bc6bb95219b365a895e122b", func := "loop.example/connectionpool/laws.FnPoolRoundTrip", spec := "fnPoolRoundTrip", recurses := true, apart := false }
def FnPoolRoundTripSaid : Prop := fnPoolRoundTripRow.holds Try.pinned (OpenSpec.ofChange fnPoolRoundTripSpec)

/-- ITS FALSE NEIGHBOUR: 'it returns false'. Refute it at one input. -/
def fnPoolRoundTripWrong : ChangeSpec := { name := "fnPoolRoundTrip", fn := fun _ => fun
  | [d] => { results := [.lit (.bool false)], args := [d] }
  | _ => none }
def FnPoolRoundTripWrongFalsely : Prop := fnPoolRoundTripRow.holds Try.pinned (OpenSpec.ofChange fnPoolRoundTripWrong)

/-- 'laws.FnPoolCanonical': WHATEVER THE INPUT: true; the input reads as it did. -/
def fnPoolCanonicalSpec : ChangeSpec := { name := "fnPoolCanonical", fn := fun _ => fun
  | [d] => { results := [.lit (.bool true)], args := [d] }
  | _ => none }
def fnPoolCanonicalRow : OpenClaim := { program := "ytehdbllpiokbnab", sum := "32a5163c15ce3315004172e71716734736ecc2ba7bc6bb95219b365a895e122b", func := "loop.example/connectionpool/laws.FnPoolCanonical", spec := "fnPoolCanonical", recurses := true, apart := false }
def FnPoolCanonicalSaid : Prop := fnPoolCanonicalRow.holds Try.pinned (OpenSpec.ofChange fnPoolCanonicalSpec)

/-- ITS FALSE NEIGHBOUR: 'it returns false'. Refute it at one input. -/
def fnPoolCanonicalWrong : ChangeSpec := { name := "fnPoolCanonical", fn := fun _ => fun
  | [d] => { results := [.lit (.bool false)], args := [d] }
  | _ => none }
def FnPoolCanonicalWrongFalsely : Prop := fnPoolCanonicalRow.holds Try.pinned (OpenSpec.ofChange fnPoolCanonicalWrong)

/-- 'laws.FnPoolText': WHATEVER THE INPUT: true; the input reads as it did. -/
def fnPoolTextSpec : ChangeSpec := { name := "fnPoolText", fn := fun _ => fun
  | [d] => { results := [.lit (.bool true)], args := [d] }
  | _ => none }
def fnPoolTextRow : OpenClaim := { program := "ytehdbllpiokbnab", sum := "32a5163c15ce3315004172e71716734736ecc2ba7bc6bb95219b365a895e122b", func := "loop.example/connectionpool/laws.FnPoolText", spec := "fnPoolText", recurses := true, apart := false }
def FnPoolTextSaid : Prop := fnPoolTextRow.holds Try.pinned (OpenSpec.ofChange fnPoolTextSpec)

/-- ITS FALSE NEIGHBOUR: 'it returns false'. Refute it at one input. -/
def fnPoolTextWrong : ChangeSpec := { name := "fnPoolText", fn := fun _ => fun
  | [d] => { results := [.lit (.bool false)], args := [d] }
  | _ => none }
def FnPoolTextWrongFalsely : Prop := fnPoolTextRow.holds Try.pinned (OpenSpec.ofChange fnPoolTextWrong)

/-- 'laws.FnPoolTextMax': WHATEVER THE INPUT: true; the input reads as it did. -/
def fnPoolTextMaxSpec : ChangeSpec := { name := "fnPoolTextMax", fn := fun _ => fun
  | [d] => { results := [.lit (.bool true)], args := [d] }
  | _ => none }
def fnPoolTextMaxRow : OpenClaim := { program := "ytehdbllpiokbnab", sum := "32a5163c15ce3315004172e71716734736ecc2ba7bc6bb95219b365a895e122b", func := "loop.example/connectionpool/laws.FnPoolTextMax", spec := "fnPoolTextMax", recurses := true, apart := false }
def FnPoolTextMaxSaid : Prop := fnPoolTextMaxRow.holds Try.pinned (OpenSpec.ofChange fnPoolTextMaxSpec)

/-- ITS FALSE NEIGHBOUR: 'it returns false'. Refute it at one input. -/
def fnPoolTextMaxWrong : ChangeSpec := { name := "fnPoolTextMax", fn := fun _ => fun
  | [d] => { results := [.lit (.bool false)], args := [d] }
  | _ => none }
def FnPoolTextMaxWrongFalsely : Prop := fnPoolTextMaxRow.holds Try.pinned (OpenSpec.ofChange fnPoolTextMaxWrong)

/-- 'laws.FnSettingsRoundTrip': WHATEVER THE INPUT: true; the input reads as it did. -/
def fnSettingsRoundTripSpec : ChangeSpec := { name := "fnSettingsRoundTrip", fn := fun _ => fun
  | [d] => { results := [.lit (.bool true)], args := [d] }
  | _ => none }
def fnSettingsRoundTripRow : OpenClaim := { program := "ytehdbllpiokbnab", sum := "32a5163c15ce3315004172e71716734736ecc2ba7bc6bb95219b365a895e122b", func := "loop.example/connectionpool/laws.FnSettingsRoundTrip", spec := "fnSettingsRoundTrip", recurses := true, apart := false }
def FnSettingsRoundTripSaid : Prop := fnSettingsRoundTripRow.holds Try.pinned (OpenSpec.ofChange fnSettingsRoundTripSpec)

/-- ITS FALSE NEIGHBOUR: 'it returns false'. Refute it at one input. -/
def fnSettingsRoundTripWrong : ChangeSpec := { name := "fnSettingsRoundTrip", fn := fun _ => fun
  | [d] => { results := [.lit (.bool false)], args := [d] }
  | _ => none }
def FnSettingsRoundTripWrongFalsely : Prop := fnSettingsRoundTripRow.holds Try.pinned (OpenSpec.ofChange fnSettingsRoundTripWrong)

/- THE SECOND FORM. 'bulk': how many values and letters a reading holds, each counted each time it is reached (what is shared counts as often as it is met; a slice's spare places count too). A statement '..UptoSaid' is the law's where the arguments, and the package variables that the reading takes, are together of bulk at most 1048576: NARROWER than '..Said'. Prove '..Said' where nothing that the law and all that it calls make is longer than what came in: it says more and counts as full. Else prove '..UptoSaid'. A law counts once. -/
mutual
def uptoBulk {H : Type} : DataW H → Nat
  | .lit (.string bytes) => bytes.length + 1
  | .lit _ => 1
  | .nil => 1
  | .ptr d => uptoBulk d + 1
  | .slice elems spare => uptoBulkAll elems + uptoBulkAll spare + 1
  | .agg parts => uptoBulkAll parts + 1
  | .iface _ d => uptoBulk d + 1
  | .map entries => uptoBulkEntries entries + 1
  | .held _ => 1
def uptoBulkAll {H : Type} : List (DataW H) → Nat
  | [] => 0
  | d :: r => uptoBulk d + uptoBulkAll r
def uptoBulkEntries {H : Type} : List (Lit × DataW H) → Nat
  | [] => 0
  | x :: r => uptoBulkEntry x + uptoBulkEntries r
def uptoBulkEntry {H : Type} : Lit × DataW H → Nat
  | (.string bytes, d) => bytes.length + uptoBulk d + 1
  | (_, d) => uptoBulk d + 1
 end
def uptoSmall : (H : Type) → List (DataW H) → Bool := fun _ ds => decide (uptoBulkAll ds ≤ 1048576)
def OpenSpec.upto (s : _root_.Go.ChangeSpec) : _root_.Go.OpenSpec := { _root_.Go.OpenSpec.ofChange s with cond := some uptoSmall }

/-- 'laws.FnPoolRoundTrip', WHERE WHAT IT READS IS OF BULK AT MOST 1048576: true; the input reads as it did. -/
def fnPoolRoundTripUptoRow : OpenClaim := { program := "ytehdbllpiokbnab", sum := "32a5163c15ce3315004172e71716734736ecc2ba7bc6bb95219b365a895e122b", func := "loop.example/connectionpool/laws.FnPoolRoundTrip", spec := "fnPoolRoundTrip", recurses := true, apart := false, narrowed := true }
def FnPoolRoundTripUptoSaid : Prop := fnPoolRoundTripUptoRow.holds Try.pinned (OpenSpec.upto fnPoolRoundTripSpec)

/-- 'laws.FnPoolCanonical', WHERE WHAT IT READS IS OF BULK AT MOST 1048576: true; the input reads as it did. -/
def fnPoolCanonicalUptoRow : OpenClaim := { program := "ytehdbllpiokbnab", sum := "32a5163c15ce3315004172e71716734736ecc2ba7bc6bb95219b365a895e122b", func := "loop.example/connectionpool/laws.FnPoolCanonical", spec := "fnPoolCanonical", recurses := true, apart := false, narrowed := true }
def FnPoolCanonicalUptoSaid : Prop := fnPoolCanonicalUptoRow.holds Try.pinned (OpenSpec.upto fnPoolCanonicalSpec)

/-- 'laws.FnPoolText', WHERE WHAT IT READS IS OF BULK AT MOST 1048576: true; the input reads as it did. -/
def fnPoolTextUptoRow : OpenClaim := { program := "ytehdbllpiokbnab", sum := "32a5163c15ce3315004172e71716734736ecc2ba7bc6bb95219b365a895e122b", func := "loop.example/connectionpool/laws.FnPoolText", spec := "fnPoolText", recurses := true, apart := false, narrowed := true }
def FnPoolTextUptoSaid : Prop := fnPoolTextUptoRow.holds Try.pinned (OpenSpec.upto fnPoolTextSpec)

/-- 'laws.FnPoolTextMax', WHERE WHAT IT READS IS OF BULK AT MOST 1048576: true; the input reads as it did. -/
def fnPoolTextMaxUptoRow : OpenClaim := { program := "ytehdbllpiokbnab", sum := "32a5163c15ce3315004172e71716734736ecc2ba7bc6bb95219b365a895e122b", func := "loop.example/connectionpool/laws.FnPoolTextMax", spec := "fnPoolTextMax", recurses := true, apart := false, narrowed := true }
def FnPoolTextMaxUptoSaid : Prop := fnPoolTextMaxUptoRow.holds Try.pinned (OpenSpec.upto fnPoolTextMaxSpec)

/-- 'laws.FnSettingsRoundTrip', WHERE WHAT IT READS IS OF BULK AT MOST 1048576: true; the input reads as it did. -/
def fnSettingsRoundTripUptoRow : OpenClaim := { program := "ytehdbllpiokbnab", sum := "32a5163c15ce3315004172e71716734736ecc2ba7bc6bb95219b365a895e122b", func := "loop.example/connectionpool/laws.FnSettingsRoundTrip", spec := "fnSettingsRoundTrip", recurses := true, apart := false, narrowed := true }
def FnSettingsRoundTripUptoSaid : Prop := fnSettingsRoundTripUptoRow.holds Try.pinned (OpenSpec.upto fnSettingsRoundTripSpec)

end Rows
end Go.Proofs.Ytehdbllpiokbnab

/-
  No cell of these rows narrows 'for every input' (looked for: loops, veiled, ifaces, maps, wideKeys, modest, calm, conditions, laid).
  DERIVED. THE GIVEN ROWS OF THIS SEAT. 3 by the template 'for every input the law returns true; each argument reads behind the call as it read before'; 0 by the template 'total and deterministic' (their statements: YtfophplmdljhbaaTotals.lean).
  GIVEN WITH THE SEED: the statements are not yours to turn. If you find one false, say at which input.
  Laid BY PROGRAM, IN A SANDBOX (cutbox-rows.mjs): the forced cells as the released guide's own fill.sh prints them over the translation bf612b7dfd1af1f6… (all of the seat's roots in one cut). By AI agents, Wed Nov 11 2026. No macro, syntax, notation, axiom, sorry.
-/
import Derived.Test.YtfophplmdljhbaaChecked
import GoSem.Claim
import GoSem.ClaimJoined
import GoSem.ClaimMapViews
import Derived.JoinedTies
import Derived.KernelRfl
namespace Go.Proofs.Ytfophplmdljhbaa
/- THE CELL 'sum', in the pinned program and in every row, IS THE sha256 OF THE DUMP (.gsa) THAT YtfophplmdljhbaaProg.lean LOADS. Nothing in Lean hashes anything: it is a label: what it is worth is what the hold of that sum in a sandbox is worth. -/
noncomputable def Try.pinned : Pinned := { name := "ytfophplmdljhbaa", sum := "bf612b7dfd1af1f630c2c5769f6860aaef0e4841dd296315bd36946d744fc2e7", checked := Try.checked }
namespace Rows
def none {H : Type} : Left H := { results := [], args := [] }

/-- 'laws.FnExactBestCache': WHATEVER THE INPUT: true; the input reads as it did. -/
def fnExactBestCacheSpec : ChangeSpec := { name := "fnExactBestCache", fn := fun _ => fun
  | [d1, d2] => { results := [.lit (.bool true)], args := [d1, d2] }
  | _ => none }
def fnExactBestCacheRow : OpenClaim := { program := "ytfophplmdljhbaa", sum := "bf612b7dfd1af1f630c2c5769f6860aaef0e4841dd296315bd36946d744fc2e7", func := "loop.example/connectionpool/laws.FnExactBestCache", spec := "fnExactBestCache", apart := false }
def FnExactBestCacheSaid : Prop := fnExactBestCacheRow.holds Try.pinned (OpenSpec.ofChange fnExactBestCacheSpec)

/-- ITS FALSE NEIGHBOUR: 'it returns false'. Refute it at one input. -/
def fnExactBestCacheWrong : ChangeSpec := { name := "fnExactBestCache", fn := fun _ => fun
  | [d1, d2] => { results := [.lit (.bool false)], args := [d1, d2] }
  | _ => none }
def FnExactBestCacheWrongFalsely : Prop := fnExactBestCacheRow.holds Try.pinned (OpenSpec.ofChange fnExactBestCacheWrong)

/-- 'laws.FnBestCache': WHATEVER THE INPUT: true; the input reads as it did. -/
def fnBestCacheSpec : ChangeSpec := { name := "fnBestCache", fn := fun _ => fun
  | [d] => { results := [.lit (.bool true)], args := [d] }
  | _ => none }
def fnBestCacheRow : OpenClaim := { program := "ytfophplmdljhbaa", sum := "bf612b7dfd1af1f630c2c5769f6860aaef0e4841dd296315bd36946d744fc2e7", func := "loop.example/connectionpool/laws.FnBestCache", spec := "fnBestCache", apart := false }
def FnBestCacheSaid : Prop := fnBestCacheRow.holds Try.pinned (OpenSpec.ofChange fnBestCacheSpec)

/-- ITS FALSE NEIGHBOUR: 'it returns false'. Refute it at one input. -/
def fnBestCacheWrong : ChangeSpec := { name := "fnBestCache", fn := fun _ => fun
  | [d] => { results := [.lit (.bool false)], args := [d] }
  | _ => none }
def FnBestCacheWrongFalsely : Prop := fnBestCacheRow.holds Try.pinned (OpenSpec.ofChange fnBestCacheWrong)

/-- 'laws.FnBestCacheNone': WHATEVER THE INPUT: true; the input reads as it did. -/
def fnBestCacheNoneSpec : ChangeSpec := { name := "fnBestCacheNone", fn := fun _ => fun
  | [d] => { results := [.lit (.bool true)], args := [d] }
  | _ => none }
def fnBestCacheNoneRow : OpenClaim := { program := "ytfophplmdljhbaa", sum := "bf612b7dfd1af1f630c2c5769f6860aaef0e4841dd296315bd36946d744fc2e7", func := "loop.example/connectionpool/laws.FnBestCacheNone", spec := "fnBestCacheNone", apart := false }
def FnBestCacheNoneSaid : Prop := fnBestCacheNoneRow.holds Try.pinned (OpenSpec.ofChange fnBestCacheNoneSpec)

/-- ITS FALSE NEIGHBOUR: 'it returns false'. Refute it at one input. -/
def fnBestCacheNoneWrong : ChangeSpec := { name := "fnBestCacheNone", fn := fun _ => fun
  | [d] => { results := [.lit (.bool false)], args := [d] }
  | _ => none }
def FnBestCacheNoneWrongFalsely : Prop := fnBestCacheNoneRow.holds Try.pinned (OpenSpec.ofChange fnBestCacheNoneWrong)

/- THE SECOND FORM. 'bulk': how many values and letters a reading holds, each counted each time it is reached (what is shared counts as often as it is met; a slice's spare places count too). A statement '..UptoSaid' is the law's where the arguments, and the package variables that the reading takes, are together of bulk at most 1048576: NARROWER than '..Said'. Prove '..Said' where nothing that the law and all that it calls make is longer than what came in: it says more and counts as full. Else prove '..UptoSaid'. A law counts once. -/
mutual
def uptoBulk {H : Type} : DataW H → Nat
  | .lit (.string bytes) => bytes.length + 1
  | .lit _ => 1
  | .nil => 1
  | .ptr d => uptoBulk d + 1
  | .slice elems spare => uptoBulkAll elems + uptoBulkAll spare + 1
  | .agg parts => uptoBulkAll parts + 1
  | .iface _ d => uptoBulk d + 1
  | .map entries => uptoBulkEntries entries + 1
  | .held _ => 1
def uptoBulkAll {H : Type} : List (DataW H) → Nat
  | [] => 0
  | d :: r => uptoBulk d + uptoBulkAll r
def uptoBulkEntries {H : Type} : List (Lit × DataW H) → Nat
  | [] => 0
  | x :: r => uptoBulkEntry x + uptoBulkEntries r
def uptoBulkEntry {H : Type} : Lit × DataW H → Nat
  | (.string bytes, d) => bytes.length + uptoBulk d + 1
  | (_, d) => uptoBulk d + 1
 end
def uptoSmall : (H : Type) → List (DataW H) → Bool := fun _ ds => decide (uptoBulkAll ds ≤ 1048576)
def OpenSpec.upto (s : _root_.Go.ChangeSpec) : _root_.Go.OpenSpec := { _root_.Go.OpenSpec.ofChange s with cond := some uptoSmall }

/-- 'laws.FnExactBestCache', WHERE WHAT IT READS IS OF BULK AT MOST 1048576: true; the input reads as it did. -/
def fnExactBestCacheUptoRow : OpenClaim := { program := "ytfophplmdljhbaa", sum := "bf612b7dfd1af1f630c2c5769f6860aaef0e4841dd296315bd36946d744fc2e7", func := "loop.example/connectionpool/laws.FnExactBestCache", spec := "fnExactBestCache", apart := false, narrowed := true }
def FnExactBestCacheUptoSaid : Prop := fnExactBestCacheUptoRow.holds Try.pinned (OpenSpec.upto fnExactBestCacheSpec)

/-- 'laws.FnBestCache', WHERE WHAT IT READS IS OF BULK AT MOST 1048576: true; the input reads as it did. -/
def fnBestCacheUptoRow : OpenClaim := { program := "ytfophplmdljhbaa", sum := "bf612b7dfd1af1f630c2c5769f6860aaef0e4841dd296315bd36946d744fc2e7", func := "loop.example/connectionpool/laws.FnBestCache", spec := "fnBestCache", apart := false, narrowed := true }
def FnBestCacheUptoSaid : Prop := fnBestCacheUptoRow.holds Try.pinned (OpenSpec.upto fnBestCacheSpec)

/-- 'laws.FnBestCacheNone', WHERE WHAT IT READS IS OF BULK AT MOST 1048576: true; the input reads as it did. -/
def fnBestCacheNoneUptoRow : OpenClaim := { program := "ytfophplmdljhbaa", sum := "bf612b7dfd1af1f630c2c5769f6860aaef0e4841dd296315bd36946d744fc2e7", func := "loop.example/connectionpool/laws.FnBestCacheNone", spec := "fnBestCacheNone", apart := false, narrowed := true }
def FnBestCacheNoneUptoSaid : Prop := fnBestCacheNoneUptoRow.holds Try.pinned (OpenSpec.upto fnBestCacheNoneSpec)

end Rows
end Go.Proofs.Ytfophplmdljhbaa

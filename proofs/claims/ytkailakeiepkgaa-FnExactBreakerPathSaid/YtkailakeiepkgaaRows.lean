/-
  No cell of these rows narrows 'for every input' (looked for: loops, veiled, ifaces, maps, wideKeys, modest, calm, conditions, laid).
  DERIVED. THE GIVEN ROWS OF THIS SEAT. 6 by the template 'for every input the law returns true; each argument reads behind the call as it read before'; 0 by the template 'total and deterministic' (their statements: YtkailakeiepkgaaTotals.lean).
  GIVEN WITH THE SEED: the statements are not yours to turn. If you find one false, say at which input.
  Laid BY PROGRAM, IN A SANDBOX (cutbox-rows.mjs): the forced cells as the released guide's own fill.sh prints them over the translation 7ee2260feaad9f15… (all of the seat's roots in one cut). By AI agents, Wed Nov 11 2026. No macro, syntax, notation, axiom, sorry.
-/
import Derived.Test.YtkailakeiepkgaaChecked
import GoSem.Claim
import GoSem.ClaimJoined
import GoSem.ClaimMapViews
import Derived.JoinedTies
import Derived.KernelRfl
namespace Go.Proofs.Ytkailakeiepkgaa
/- THE CELL 'sum', in the pinned program and in every row, IS THE sha256 OF THE DUMP (.gsa) THAT YtkailakeiepkgaaProg.lean LOADS. Nothing in Lean hashes anything: it is a label: what it is worth is what the hold of that sum in a sandbox is worth. -/
noncomputable def Try.pinned : Pinned := { name := "ytkailakeiepkgaa", sum := "7ee2260feaad9f151d302767613235e143d07872c6bf8f70550f05669ea2f4df", checked := Try.checked }
namespace Rows
def none {H : Type} : Left H := { results := [], args := [] }

/-- 'laws.FnExactValidBreaker': WHATEVER THE INPUT: true; the input reads as it did. -/
def fnExactValidBreakerSpec : ChangeSpec := { name := "fnExactValidBreaker", fn := fun _ => fun
  | [d] => { results := [.lit (.bool true)], args := [d] }
  | _ => none }
def fnExactValidBreakerRow : OpenClaim := { program := "ytkailakeiepkgaa", sum := "7ee2260feaad9f151d302767613235e143d07872c6bf8f70550f05669ea2f4df", func := "loop.example/connectionpool/laws.FnExactValidBreaker", spec := "fnExactValidBreaker", apart := false }
def FnExactValidBreakerSaid : Prop := fnExactValidBreakerRow.holds Try.pinned (OpenSpec.ofChange fnExactValidBreakerSpec)

/-- ITS FALSE NEIGHBOUR: 'it returns false'. Refute it at one input. -/
def fnExactValidBreakerWrong : ChangeSpec := { name := "fnExactValidBreaker", fn := fun _ => fun
  | [d] => { results := [.lit (.bool false)], args := [d] }
  | _ => none }
def FnExactValidBreakerWrongFalsely : Prop := fnExactValidBreakerRow.holds Try.pinned (OpenSpec.ofChange fnExactValidBreakerWrong)

/-- 'laws.FnExactLetsCall': WHATEVER THE INPUT: true; the input reads as it did. -/
def fnExactLetsCallSpec : ChangeSpec := { name := "fnExactLetsCall", fn := fun _ => fun
  | [d1, d2] => { results := [.lit (.bool true)], args := [d1, d2] }
  | _ => none }
def fnExactLetsCallRow : OpenClaim := { program := "ytkailakeiepkgaa", sum := "7ee2260feaad9f151d302767613235e143d07872c6bf8f70550f05669ea2f4df", func := "loop.example/connectionpool/laws.FnExactLetsCall", spec := "fnExactLetsCall", apart := false }
def FnExactLetsCallSaid : Prop := fnExactLetsCallRow.holds Try.pinned (OpenSpec.ofChange fnExactLetsCallSpec)

/-- ITS FALSE NEIGHBOUR: 'it returns false'. Refute it at one input. -/
def fnExactLetsCallWrong : ChangeSpec := { name := "fnExactLetsCall", fn := fun _ => fun
  | [d1, d2] => { results := [.lit (.bool false)], args := [d1, d2] }
  | _ => none }
def FnExactLetsCallWrongFalsely : Prop := fnExactLetsCallRow.holds Try.pinned (OpenSpec.ofChange fnExactLetsCallWrong)

/-- 'laws.FnExactBeginCall': WHATEVER THE INPUT: true; the input reads as it did. -/
def fnExactBeginCallSpec : ChangeSpec := { name := "fnExactBeginCall", fn := fun _ => fun
  | [d1, d2] => { results := [.lit (.bool true)], args := [d1, d2] }
  | _ => none }
def fnExactBeginCallRow : OpenClaim := { program := "ytkailakeiepkgaa", sum := "7ee2260feaad9f151d302767613235e143d07872c6bf8f70550f05669ea2f4df", func := "loop.example/connectionpool/laws.FnExactBeginCall", spec := "fnExactBeginCall", apart := false }
def FnExactBeginCallSaid : Prop := fnExactBeginCallRow.holds Try.pinned (OpenSpec.ofChange fnExactBeginCallSpec)

/-- ITS FALSE NEIGHBOUR: 'it returns false'. Refute it at one input. -/
def fnExactBeginCallWrong : ChangeSpec := { name := "fnExactBeginCall", fn := fun _ => fun
  | [d1, d2] => { results := [.lit (.bool false)], args := [d1, d2] }
  | _ => none }
def FnExactBeginCallWrongFalsely : Prop := fnExactBeginCallRow.holds Try.pinned (OpenSpec.ofChange fnExactBeginCallWrong)

/-- 'laws.FnExactEndCall': WHATEVER THE INPUT: true; the input reads as it did. -/
def fnExactEndCallSpec : ChangeSpec := { name := "fnExactEndCall", fn := fun _ => fun
  | [d1, d2, d3] => { results := [.lit (.bool true)], args := [d1, d2, d3] }
  | _ => none }
def fnExactEndCallRow : OpenClaim := { program := "ytkailakeiepkgaa", sum := "7ee2260feaad9f151d302767613235e143d07872c6bf8f70550f05669ea2f4df", func := "loop.example/connectionpool/laws.FnExactEndCall", spec := "fnExactEndCall", apart := false }
def FnExactEndCallSaid : Prop := fnExactEndCallRow.holds Try.pinned (OpenSpec.ofChange fnExactEndCallSpec)

/-- ITS FALSE NEIGHBOUR: 'it returns false'. Refute it at one input. -/
def fnExactEndCallWrong : ChangeSpec := { name := "fnExactEndCall", fn := fun _ => fun
  | [d1, d2, d3] => { results := [.lit (.bool false)], args := [d1, d2, d3] }
  | _ => none }
def FnExactEndCallWrongFalsely : Prop := fnExactEndCallRow.holds Try.pinned (OpenSpec.ofChange fnExactEndCallWrong)

/-- 'laws.FnExactBreakerPath': WHATEVER THE INPUT: true; the input reads as it did. -/
def fnExactBreakerPathSpec : ChangeSpec := { name := "fnExactBreakerPath", fn := fun _ => fun
  | [d1, d2, d3] => { results := [.lit (.bool true)], args := [d1, d2, d3] }
  | _ => none }
def fnExactBreakerPathRow : OpenClaim := { program := "ytkailakeiepkgaa", sum := "7ee2260feaad9f151d302767613235e143d07872c6bf8f70550f05669ea2f4df", func := "loop.example/connectionpool/laws.FnExactBreakerPath", spec := "fnExactBreakerPath", apart := false }
def FnExactBreakerPathSaid : Prop := fnExactBreakerPathRow.holds Try.pinned (OpenSpec.ofChange fnExactBreakerPathSpec)

/-- ITS FALSE NEIGHBOUR: 'it returns false'. Refute it at one input. -/
def fnExactBreakerPathWrong : ChangeSpec := { name := "fnExactBreakerPath", fn := fun _ => fun
  | [d1, d2, d3] => { results := [.lit (.bool false)], args := [d1, d2, d3] }
  | _ => none }
def FnExactBreakerPathWrongFalsely : Prop := fnExactBreakerPathRow.holds Try.pinned (OpenSpec.ofChange fnExactBreakerPathWrong)

/-- 'laws.FnValidBreaker': WHATEVER THE INPUT: true; the input reads as it did. -/
def fnValidBreakerSpec : ChangeSpec := { name := "fnValidBreaker", fn := fun _ => fun
  | [d] => { results := [.lit (.bool true)], args := [d] }
  | _ => none }
def fnValidBreakerRow : OpenClaim := { program := "ytkailakeiepkgaa", sum := "7ee2260feaad9f151d302767613235e143d07872c6bf8f70550f05669ea2f4df", func := "loop.example/connectionpool/laws.FnValidBreaker", spec := "fnValidBreaker", apart := false }
def FnValidBreakerSaid : Prop := fnValidBreakerRow.holds Try.pinned (OpenSpec.ofChange fnValidBreakerSpec)

/-- ITS FALSE NEIGHBOUR: 'it returns false'. Refute it at one input. -/
def fnValidBreakerWrong : ChangeSpec := { name := "fnValidBreaker", fn := fun _ => fun
  | [d] => { results := [.lit (.bool false)], args := [d] }
  | _ => none }
def FnValidBreakerWrongFalsely : Prop := fnValidBreakerRow.holds Try.pinned (OpenSpec.ofChange fnValidBreakerWrong)

/- THE SECOND FORM. 'bulk': how many values and letters a reading holds, each counted each time it is reached (what is shared counts as often as it is met; a slice's spare places count too). A statement '..UptoSaid' is the law's where the arguments, and the package variables that the reading takes, are together of bulk at most 1048576: NARROWER than '..Said'. Prove '..Said' where nothing that the law and all that it calls make is longer than what came in: it says more and counts as full. Else prove '..UptoSaid'. A law counts once. -/
mutual
def uptoBulk {H : Type} : DataW H → Nat
  | .lit (.string bytes) => bytes.length + 1
  | .lit _ => 1
  | .nil => 1
  | .ptr d => uptoBulk d + 1
  | .slice elems spare => uptoBulkAll elems + uptoBulkAll spare + 1
  | .agg parts => uptoBulkAll parts + 1
  | .iface _ d => uptoBulk d + 1
  | .map entries => uptoBulkEntries entries + 1
  | .held _ => 1
def uptoBulkAll {H : Type} : List (DataW H) → Nat
  | [] => 0
  | d :: r => uptoBulk d + uptoBulkAll r
def uptoBulkEntries {H : Type} : List (Lit × DataW H) → Nat
  | [] => 0
  | x :: r => uptoBulkEntry x + uptoBulkEntries r
def uptoBulkEntry {H : Type} : Lit × DataW H → Nat
  | (.string bytes, d) => bytes.length + uptoBulk d + 1
  | (_, d) => uptoBulk d + 1
 end
def uptoSmall : (H : Type) → List (DataW H) → Bool := fun _ ds => decide (uptoBulkAll ds ≤ 1048576)
def OpenSpec.upto (s : _root_.Go.ChangeSpec) : _root_.Go.OpenSpec := { _root_.Go.OpenSpec.ofChange s with cond := some uptoSmall }

/-- 'laws.FnExactValidBreaker', WHERE WHAT IT READS IS OF BULK AT MOST 1048576: true; the input reads as it did. -/
def fnExactValidBreakerUptoRow : OpenClaim := { program := "ytkailakeiepkgaa", sum := "7ee2260feaad9f151d302767613235e143d07872c6bf8f70550f05669ea2f4df", func := "loop.example/connectionpool/laws.FnExactValidBreaker", spec := "fnExactValidBreaker", apart := false, narrowed := true }
def FnExactValidBreakerUptoSaid : Prop := fnExactValidBreakerUptoRow.holds Try.pinned (OpenSpec.upto fnExactValidBreakerSpec)

/-- 'laws.FnExactLetsCall', WHERE WHAT IT READS IS OF BULK AT MOST 1048576: true; the input reads as it did. -/
def fnExactLetsCallUptoRow : OpenClaim := { program := "ytkailakeiepkgaa", sum := "7ee2260feaad9f151d302767613235e143d07872c6bf8f70550f05669ea2f4df", func := "loop.example/connectionpool/laws.FnExactLetsCall", spec := "fnExactLetsCall", apart := false, narrowed := true }
def FnExactLetsCallUptoSaid : Prop := fnExactLetsCallUptoRow.holds Try.pinned (OpenSpec.upto fnExactLetsCallSpec)

/-- 'laws.FnExactBeginCall', WHERE WHAT IT READS IS OF BULK AT MOST 1048576: true; the input reads as it did. -/
def fnExactBeginCallUptoRow : OpenClaim := { program := "ytkailakeiepkgaa", sum := "7ee2260feaad9f151d302767613235e143d07872c6bf8f70550f05669ea2f4df", func := "loop.example/connectionpool/laws.FnExactBeginCall", spec := "fnExactBeginCall", apart := false, narrowed := true }
def FnExactBeginCallUptoSaid : Prop := fnExactBeginCallUptoRow.holds Try.pinned (OpenSpec.upto fnExactBeginCallSpec)

/-- 'laws.FnExactEndCall', WHERE WHAT IT READS IS OF BULK AT MOST 1048576: true; the input reads as it did. -/
def fnExactEndCallUptoRow : OpenClaim := { program := "ytkailakeiepkgaa", sum := "7ee2260feaad9f151d302767613235e143d07872c6bf8f70550f05669ea2f4df", func := "loop.example/connectionpool/laws.FnExactEndCall", spec := "fnExactEndCall", apart := false, narrowed := true }
def FnExactEndCallUptoSaid : Prop := fnExactEndCallUptoRow.holds Try.pinned (OpenSpec.upto fnExactEndCallSpec)

/-- 'laws.FnExactBreakerPath', WHERE WHAT IT READS IS OF BULK AT MOST 1048576: true; the input reads as it did. -/
def fnExactBreakerPathUptoRow : OpenClaim := { program := "ytkailakeiepkgaa", sum := "7ee2260feaad9f151d302767613235e143d07872c6bf8f70550f05669ea2f4df", func := "loop.example/connectionpool/laws.FnExactBreakerPath", spec := "fnExactBreakerPath", apart := false, narrowed := true }
def FnExactBreakerPathUptoSaid : Prop := fnExactBreakerPathUptoRow.holds Try.pinned (OpenSpec.upto fnExactBreakerPathSpec)

/-- 'laws.FnValidBreaker', WHERE WHAT IT READS IS OF BULK AT MOST 1048576: true; the input reads as it did. -/
def fnValidBreakerUptoRow : OpenClaim := { program := "ytkailakeiepkgaa", sum := "7ee2260feaad9f151d302767613235e143d07872c6bf8f70550f05669ea2f4df", func := "loop.example/connectionpool/laws.FnValidBreaker", spec := "fnValidBreaker", apart := false, narrowed := true }
def FnValidBreakerUptoSaid : Prop := fnValidBreakerUptoRow.holds Try.pinned (OpenSpec.upto fnValidBreakerSpec)

end Rows
end Go.Proofs.Ytkailakeiepkgaa

/-
  No cell of these rows narrows 'for every input' (looked for: loops, veiled, ifaces, maps, wideKeys, modest, calm, conditions, laid).
  DERIVED. THE GIVEN ROWS OF THIS SEAT. 6 by the template 'for every input the law returns true; each argument reads behind the call as it read before'; 0 by the template 'total and deterministic' (their statements: YtkailakeiepkgabTotals.lean).
  GIVEN WITH THE SEED: the statements are not yours to turn. If you find one false, say at which input.
  Laid BY PROGRAM, IN A SANDBOX (cutbox-rows.mjs): the forced cells as the released guide's own fill.sh prints them over the translation 52b73d9ccf808ecc… (all of the seat's roots in one cut). By AI agents, Wed Nov 11 2026. No macro, syntax, notation, axiom, sorry.
-/
import Derived.Test.YtkailakeiepkgabChecked
import GoSem.Claim
import GoSem.ClaimJoined
import GoSem.ClaimMapViews
import Derived.JoinedTies
import Derived.KernelRfl
namespace Go.Proofs.Ytkailakeiepkgab
/- THE CELL 'sum', in the pinned program and in every row, IS THE sha256 OF THE DUMP (.gsa) THAT YtkailakeiepkgabProg.lean LOADS. Nothing in Lean hashes anything: it is a label: what it is worth is what the hold of that sum in a sandbox is worth. -/
noncomputable def Try.pinned : Pinned := { name := "ytkailakeiepkgab", sum := "52b73d9ccf808eccd514239087cd9cadbc13542f2710123ce62b3c4b2874ef58", checked := Try.checked }
namespace Rows
def none {H : Type} : Left H := { results := [], args := [] }

/-- 'laws.FnLetsCall': WHATEVER THE INPUT: true; the input reads as it did. -/
def fnLetsCallSpec : ChangeSpec := { name := "fnLetsCall", fn := fun _ => fun
  | [d] => { results := [.lit (.bool true)], args := [d] }
  | _ => none }
def fnLetsCallRow : OpenClaim := { program := "ytkailakeiepkgab", sum := "52b73d9ccf808eccd514239087cd9cadbc13542f2710123ce62b3c4b2874ef58", func := "loop.example/connectionpool/laws.FnLetsCall", spec := "fnLetsCall", apart := false }
def FnLetsCallSaid : Prop := fnLetsCallRow.holds Try.pinned (OpenSpec.ofChange fnLetsCallSpec)

/-- ITS FALSE NEIGHBOUR: 'it returns false'. Refute it at one input. -/
def fnLetsCallWrong : ChangeSpec := { name := "fnLetsCall", fn := fun _ => fun
  | [d] => { results := [.lit (.bool false)], args := [d] }
  | _ => none }
def FnLetsCallWrongFalsely : Prop := fnLetsCallRow.holds Try.pinned (OpenSpec.ofChange fnLetsCallWrong)

/-- 'laws.FnBeginCall': WHATEVER THE INPUT: true; the input reads as it did. -/
def fnBeginCallSpec : ChangeSpec := { name := "fnBeginCall", fn := fun _ => fun
  | [d] => { results := [.lit (.bool true)], args := [d] }
  | _ => none }
def fnBeginCallRow : OpenClaim := { program := "ytkailakeiepkgab", sum := "52b73d9ccf808eccd514239087cd9cadbc13542f2710123ce62b3c4b2874ef58", func := "loop.example/connectionpool/laws.FnBeginCall", spec := "fnBeginCall", apart := false }
def FnBeginCallSaid : Prop := fnBeginCallRow.holds Try.pinned (OpenSpec.ofChange fnBeginCallSpec)

/-- ITS FALSE NEIGHBOUR: 'it returns false'. Refute it at one input. -/
def fnBeginCallWrong : ChangeSpec := { name := "fnBeginCall", fn := fun _ => fun
  | [d] => { results := [.lit (.bool false)], args := [d] }
  | _ => none }
def FnBeginCallWrongFalsely : Prop := fnBeginCallRow.holds Try.pinned (OpenSpec.ofChange fnBeginCallWrong)

/-- 'laws.FnBeginCallLets': WHATEVER THE INPUT: true; the input reads as it did. -/
def fnBeginCallLetsSpec : ChangeSpec := { name := "fnBeginCallLets", fn := fun _ => fun
  | [d] => { results := [.lit (.bool true)], args := [d] }
  | _ => none }
def fnBeginCallLetsRow : OpenClaim := { program := "ytkailakeiepkgab", sum := "52b73d9ccf808eccd514239087cd9cadbc13542f2710123ce62b3c4b2874ef58", func := "loop.example/connectionpool/laws.FnBeginCallLets", spec := "fnBeginCallLets", apart := false }
def FnBeginCallLetsSaid : Prop := fnBeginCallLetsRow.holds Try.pinned (OpenSpec.ofChange fnBeginCallLetsSpec)

/-- ITS FALSE NEIGHBOUR: 'it returns false'. Refute it at one input. -/
def fnBeginCallLetsWrong : ChangeSpec := { name := "fnBeginCallLets", fn := fun _ => fun
  | [d] => { results := [.lit (.bool false)], args := [d] }
  | _ => none }
def FnBeginCallLetsWrongFalsely : Prop := fnBeginCallLetsRow.holds Try.pinned (OpenSpec.ofChange fnBeginCallLetsWrong)

/-- 'laws.FnBeginCallTwice': WHATEVER THE INPUT: true; the input reads as it did. -/
def fnBeginCallTwiceSpec : ChangeSpec := { name := "fnBeginCallTwice", fn := fun _ => fun
  | [d] => { results := [.lit (.bool true)], args := [d] }
  | _ => none }
def fnBeginCallTwiceRow : OpenClaim := { program := "ytkailakeiepkgab", sum := "52b73d9ccf808eccd514239087cd9cadbc13542f2710123ce62b3c4b2874ef58", func := "loop.example/connectionpool/laws.FnBeginCallTwice", spec := "fnBeginCallTwice", apart := false }
def FnBeginCallTwiceSaid : Prop := fnBeginCallTwiceRow.holds Try.pinned (OpenSpec.ofChange fnBeginCallTwiceSpec)

/-- ITS FALSE NEIGHBOUR: 'it returns false'. Refute it at one input. -/
def fnBeginCallTwiceWrong : ChangeSpec := { name := "fnBeginCallTwice", fn := fun _ => fun
  | [d] => { results := [.lit (.bool false)], args := [d] }
  | _ => none }
def FnBeginCallTwiceWrongFalsely : Prop := fnBeginCallTwiceRow.holds Try.pinned (OpenSpec.ofChange fnBeginCallTwiceWrong)

/-- 'laws.FnEndCall': WHATEVER THE INPUT: true; the input reads as it did. -/
def fnEndCallSpec : ChangeSpec := { name := "fnEndCall", fn := fun _ => fun
  | [d] => { results := [.lit (.bool true)], args := [d] }
  | _ => none }
def fnEndCallRow : OpenClaim := { program := "ytkailakeiepkgab", sum := "52b73d9ccf808eccd514239087cd9cadbc13542f2710123ce62b3c4b2874ef58", func := "loop.example/connectionpool/laws.FnEndCall", spec := "fnEndCall", apart := false }
def FnEndCallSaid : Prop := fnEndCallRow.holds Try.pinned (OpenSpec.ofChange fnEndCallSpec)

/-- ITS FALSE NEIGHBOUR: 'it returns false'. Refute it at one input. -/
def fnEndCallWrong : ChangeSpec := { name := "fnEndCall", fn := fun _ => fun
  | [d] => { results := [.lit (.bool false)], args := [d] }
  | _ => none }
def FnEndCallWrongFalsely : Prop := fnEndCallRow.holds Try.pinned (OpenSpec.ofChange fnEndCallWrong)

/-- 'laws.FnEndCallOpen': WHATEVER THE INPUT: true; the input reads as it did. -/
def fnEndCallOpenSpec : ChangeSpec := { name := "fnEndCallOpen", fn := fun _ => fun
  | [d] => { results := [.lit (.bool true)], args := [d] }
  | _ => none }
def fnEndCallOpenRow : OpenClaim := { program := "ytkailakeiepkgab", sum := "52b73d9ccf808eccd514239087cd9cadbc13542f2710123ce62b3c4b2874ef58", func := "loop.example/connectionpool/laws.FnEndCallOpen", spec := "fnEndCallOpen", apart := false }
def FnEndCallOpenSaid : Prop := fnEndCallOpenRow.holds Try.pinned (OpenSpec.ofChange fnEndCallOpenSpec)

/-- ITS FALSE NEIGHBOUR: 'it returns false'. Refute it at one input. -/
def fnEndCallOpenWrong : ChangeSpec := { name := "fnEndCallOpen", fn := fun _ => fun
  | [d] => { results := [.lit (.bool false)], args := [d] }
  | _ => none }
def FnEndCallOpenWrongFalsely : Prop := fnEndCallOpenRow.holds Try.pinned (OpenSpec.ofChange fnEndCallOpenWrong)

/- THE SECOND FORM. 'bulk': how many values and letters a reading holds, each counted each time it is reached (what is shared counts as often as it is met; a slice's spare places count too). A statement '..UptoSaid' is the law's where the arguments, and the package variables that the reading takes, are together of bulk at most 1048576: NARROWER than '..Said'. Prove '..Said' where nothing that the law and all that it calls make is longer than what came in: it says more and counts as full. Else prove '..UptoSaid'. A law counts once. -/
mutual
def uptoBulk {H : Type} : DataW H → Nat
  | .lit (.string bytes) => bytes.length + 1
  | .lit _ => 1
  | .nil => 1
  | .ptr d => uptoBulk d + 1
  | .slice elems spare => uptoBulkAll elems + uptoBulkAll spare + 1
  | .agg parts => uptoBulkAll parts + 1
  | .iface _ d => uptoBulk d + 1
  | .map entries => uptoBulkEntries entries + 1
  | .held _ => 1
def uptoBulkAll {H : Type} : List (DataW H) → Nat
  | [] => 0
  | d :: r => uptoBulk d + uptoBulkAll r
def uptoBulkEntries {H : Type} : List (Lit × DataW H) → Nat
  | [] => 0
  | x :: r => uptoBulkEntry x + uptoBulkEntries r
def uptoBulkEntry {H : Type} : Lit × DataW H → Nat
  | (.string bytes, d) => bytes.length + uptoBulk d + 1
  | (_, d) => uptoBulk d + 1
 end
def uptoSmall : (H : Type) → List (DataW H) → Bool := fun _ ds => decide (uptoBulkAll ds ≤ 1048576)
def OpenSpec.upto (s : _root_.Go.ChangeSpec) : _root_.Go.OpenSpec := { _root_.Go.OpenSpec.ofChange s with cond := some uptoSmall }

/-- 'laws.FnLetsCall', WHERE WHAT IT READS IS OF BULK AT MOST 1048576: true; the input reads as it did. -/
def fnLetsCallUptoRow : OpenClaim := { program := "ytkailakeiepkgab", sum := "52b73d9ccf808eccd514239087cd9cadbc13542f2710123ce62b3c4b2874ef58", func := "loop.example/connectionpool/laws.FnLetsCall", spec := "fnLetsCall", apart := false, narrowed := true }
def FnLetsCallUptoSaid : Prop := fnLetsCallUptoRow.holds Try.pinned (OpenSpec.upto fnLetsCallSpec)

/-- 'laws.FnBeginCall', WHERE WHAT IT READS IS OF BULK AT MOST 1048576: true; the input reads as it did. -/
def fnBeginCallUptoRow : OpenClaim := { program := "ytkailakeiepkgab", sum := "52b73d9ccf808eccd514239087cd9cadbc13542f2710123ce62b3c4b2874ef58", func := "loop.example/connectionpool/laws.FnBeginCall", spec := "fnBeginCall", apart := false, narrowed := true }
def FnBeginCallUptoSaid : Prop := fnBeginCallUptoRow.holds Try.pinned (OpenSpec.upto fnBeginCallSpec)

/-- 'laws.FnBeginCallLets', WHERE WHAT IT READS IS OF BULK AT MOST 1048576: true; the input reads as it did. -/
def fnBeginCallLetsUptoRow : OpenClaim := { program := "ytkailakeiepkgab", sum := "52b73d9ccf808eccd514239087cd9cadbc13542f2710123ce62b3c4b2874ef58", func := "loop.example/connectionpool/laws.FnBeginCallLets", spec := "fnBeginCallLets", apart := false, narrowed := true }
def FnBeginCallLetsUptoSaid : Prop := fnBeginCallLetsUptoRow.holds Try.pinned (OpenSpec.upto fnBeginCallLetsSpec)

/-- 'laws.FnBeginCallTwice', WHERE WHAT IT READS IS OF BULK AT MOST 1048576: true; the input reads as it did. -/
def fnBeginCallTwiceUptoRow : OpenClaim := { program := "ytkailakeiepkgab", sum := "52b73d9ccf808eccd514239087cd9cadbc13542f2710123ce62b3c4b2874ef58", func := "loop.example/connectionpool/laws.FnBeginCallTwice", spec := "fnBeginCallTwice", apart := false, narrowed := true }
def FnBeginCallTwiceUptoSaid : Prop := fnBeginCallTwiceUptoRow.holds Try.pinned (OpenSpec.upto fnBeginCallTwiceSpec)

/-- 'laws.FnEndCall', WHERE WHAT IT READS IS OF BULK AT MOST 1048576: true; the input reads as it did. -/
def fnEndCallUptoRow : OpenClaim := { program := "ytkailakeiepkgab", sum := "52b73d9ccf808eccd514239087cd9cadbc13542f2710123ce62b3c4b2874ef58", func := "loop.example/connectionpool/laws.FnEndCall", spec := "fnEndCall", apart := false, narrowed := true }
def FnEndCallUptoSaid : Prop := fnEndCallUptoRow.holds Try.pinned (OpenSpec.upto fnEndCallSpec)

/-- 'laws.FnEndCallOpen', WHERE WHAT IT READS IS OF BULK AT MOST 1048576: true; the input reads as it did. -/
def fnEndCallOpenUptoRow : OpenClaim := { program := "ytkailakeiepkgab", sum := "52b73d9ccf808eccd514239087cd9cadbc13542f2710123ce62b3c4b2874ef58", func := "loop.example/connectionpool/laws.FnEndCallOpen", spec := "fnEndCallOpen", apart := false, narrowed := true }
def FnEndCallOpenUptoSaid : Prop := fnEndCallOpenUptoRow.holds Try.pinned (OpenSpec.upto fnEndCallOpenSpec)

end Rows
end Go.Proofs.Ytkailakeiepkgab

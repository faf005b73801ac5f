/-
  No cell of these rows narrows 'for every input' (looked for: loops, veiled, ifaces, maps, wideKeys, modest, calm, conditions, laid).
  DERIVED. THE GIVEN ROWS OF THIS SEAT. 5 by the template 'for every input the law returns true; each argument reads behind the call as it read before'; 0 by the template 'total and deterministic' (their statements: YtlonmmkioaejmacTotals.lean).
  GIVEN WITH THE SEED: the statements are not yours to turn. If you find one false, say at which input.
  Laid BY PROGRAM, IN A SANDBOX (cutbox-rows.mjs): the forced cells as the released guide's own fill.sh prints them over the translation c229b734fb3ce7dc… (all of the seat's roots in one cut). By AI agents, Wed Nov 11 2026. No macro, syntax, notation, axiom, sorry.
-/
import Derived.Test.YtlonmmkioaejmacChecked
import GoSem.Claim
import GoSem.ClaimJoined
import GoSem.ClaimMapViews
import Derived.JoinedTies
import Derived.KernelRfl
namespace Go.Proofs.Ytlonmmkioaejmac
/- THE CELL 'sum', in the pinned program and in every row, IS THE sha256 OF THE DUMP (.gsa) THAT YtlonmmkioaejmacProg.lean LOADS. Nothing in Lean hashes anything: it is a label: what it is worth is what the hold of that sum in a sandbox is worth. -/
noncomputable def Try.pinned : Pinned := { name := "ytlonmmkioaejmac", sum := "c229b734fb3ce7dc30b2fa770050ae5b81fc70e32f8edd77ead0f6b811732a0f", checked := Try.checked }
namespace Rows
def none {H : Type} : Left H := { results := [], args := [] }

/-- 'laws.FnEndedConns': WHATEVER THE INPUT: true; the input reads as it did. -/
def fnEndedConnsSpec : ChangeSpec := { name := "fnEndedConns", fn := fun _ => fun
  | [d] => { results := [.lit (.bool true)], args := [d] }
  | _ => none }
def fnEndedConnsRow : OpenClaim := { program := "ytlonmmkioaejmac", sum := "c229b734fb3ce7dc30b2fa770050ae5b81fc70e32f8edd77ead0f6b811732a0f", func := "loop.example/connectionpool/laws.FnEndedConns", spec := "fnEndedConns", apart := false }
def FnEndedConnsSaid : Prop := fnEndedConnsRow.holds Try.pinned (OpenSpec.ofChange fnEndedConnsSpec)

/-- ITS FALSE NEIGHBOUR: 'it returns false'. Refute it at one input. -/
def fnEndedConnsWrong : ChangeSpec := { name := "fnEndedConns", fn := fun _ => fun
  | [d] => { results := [.lit (.bool false)], args := [d] }
  | _ => none }
def FnEndedConnsWrongFalsely : Prop := fnEndedConnsRow.holds Try.pinned (OpenSpec.ofChange fnEndedConnsWrong)

/-- 'laws.FnEndedConnsLater': WHATEVER THE INPUT: true; the input reads as it did. -/
def fnEndedConnsLaterSpec : ChangeSpec := { name := "fnEndedConnsLater", fn := fun _ => fun
  | [d] => { results := [.lit (.bool true)], args := [d] }
  | _ => none }
def fnEndedConnsLaterRow : OpenClaim := { program := "ytlonmmkioaejmac", sum := "c229b734fb3ce7dc30b2fa770050ae5b81fc70e32f8edd77ead0f6b811732a0f", func := "loop.example/connectionpool/laws.FnEndedConnsLater", spec := "fnEndedConnsLater", apart := false }
def FnEndedConnsLaterSaid : Prop := fnEndedConnsLaterRow.holds Try.pinned (OpenSpec.ofChange fnEndedConnsLaterSpec)

/-- ITS FALSE NEIGHBOUR: 'it returns false'. Refute it at one input. -/
def fnEndedConnsLaterWrong : ChangeSpec := { name := "fnEndedConnsLater", fn := fun _ => fun
  | [d] => { results := [.lit (.bool false)], args := [d] }
  | _ => none }
def FnEndedConnsLaterWrongFalsely : Prop := fnEndedConnsLaterRow.holds Try.pinned (OpenSpec.ofChange fnEndedConnsLaterWrong)

/-- 'laws.FnEndedConnsLife': WHATEVER THE INPUT: true; the input reads as it did. -/
def fnEndedConnsLifeSpec : ChangeSpec := { name := "fnEndedConnsLife", fn := fun _ => fun
  | [d] => { results := [.lit (.bool true)], args := [d] }
  | _ => none }
def fnEndedConnsLifeRow : OpenClaim := { program := "ytlonmmkioaejmac", sum := "c229b734fb3ce7dc30b2fa770050ae5b81fc70e32f8edd77ead0f6b811732a0f", func := "loop.example/connectionpool/laws.FnEndedConnsLife", spec := "fnEndedConnsLife", apart := false }
def FnEndedConnsLifeSaid : Prop := fnEndedConnsLifeRow.holds Try.pinned (OpenSpec.ofChange fnEndedConnsLifeSpec)

/-- ITS FALSE NEIGHBOUR: 'it returns false'. Refute it at one input. -/
def fnEndedConnsLifeWrong : ChangeSpec := { name := "fnEndedConnsLife", fn := fun _ => fun
  | [d] => { results := [.lit (.bool false)], args := [d] }
  | _ => none }
def FnEndedConnsLifeWrongFalsely : Prop := fnEndedConnsLifeRow.holds Try.pinned (OpenSpec.ofChange fnEndedConnsLifeWrong)

/-- 'laws.FnTouchConn': WHATEVER THE INPUT: true; the input reads as it did. -/
def fnTouchConnSpec : ChangeSpec := { name := "fnTouchConn", fn := fun _ => fun
  | [d] => { results := [.lit (.bool true)], args := [d] }
  | _ => none }
def fnTouchConnRow : OpenClaim := { program := "ytlonmmkioaejmac", sum := "c229b734fb3ce7dc30b2fa770050ae5b81fc70e32f8edd77ead0f6b811732a0f", func := "loop.example/connectionpool/laws.FnTouchConn", spec := "fnTouchConn", apart := false }
def FnTouchConnSaid : Prop := fnTouchConnRow.holds Try.pinned (OpenSpec.ofChange fnTouchConnSpec)

/-- ITS FALSE NEIGHBOUR: 'it returns false'. Refute it at one input. -/
def fnTouchConnWrong : ChangeSpec := { name := "fnTouchConn", fn := fun _ => fun
  | [d] => { results := [.lit (.bool false)], args := [d] }
  | _ => none }
def FnTouchConnWrongFalsely : Prop := fnTouchConnRow.holds Try.pinned (OpenSpec.ofChange fnTouchConnWrong)

/-- 'laws.FnTouchConnEnd': WHATEVER THE INPUT: true; the input reads as it did. -/
def fnTouchConnEndSpec : ChangeSpec := { name := "fnTouchConnEnd", fn := fun _ => fun
  | [d] => { results := [.lit (.bool true)], args := [d] }
  | _ => none }
def fnTouchConnEndRow : OpenClaim := { program := "ytlonmmkioaejmac", sum := "c229b734fb3ce7dc30b2fa770050ae5b81fc70e32f8edd77ead0f6b811732a0f", func := "loop.example/connectionpool/laws.FnTouchConnEnd", spec := "fnTouchConnEnd", apart := false }
def FnTouchConnEndSaid : Prop := fnTouchConnEndRow.holds Try.pinned (OpenSpec.ofChange fnTouchConnEndSpec)

/-- ITS FALSE NEIGHBOUR: 'it returns false'. Refute it at one input. -/
def fnTouchConnEndWrong : ChangeSpec := { name := "fnTouchConnEnd", fn := fun _ => fun
  | [d] => { results := [.lit (.bool false)], args := [d] }
  | _ => none }
def FnTouchConnEndWrongFalsely : Prop := fnTouchConnEndRow.holds Try.pinned (OpenSpec.ofChange fnTouchConnEndWrong)

/- THE SECOND FORM. 'bulk': how many values and letters a reading holds, each counted each time it is reached (what is shared counts as often as it is met; a slice's spare places count too). A statement '..UptoSaid' is the law's where the arguments, and the package variables that the reading takes, are together of bulk at most 1048576: NARROWER than '..Said'. Prove '..Said' where nothing that the law and all that it calls make is longer than what came in: it says more and counts as full. Else prove '..UptoSaid'. A law counts once. -/
mutual
def uptoBulk {H : Type} : DataW H → Nat
  | .lit (.string bytes) => bytes.length + 1
  | .lit _ => 1
  | .nil => 1
  | .ptr d => uptoBulk d + 1
  | .slice elems spare => uptoBulkAll elems + uptoBulkAll spare + 1
  | .agg parts => uptoBulkAll parts + 1
  | .iface _ d => uptoBulk d + 1
  | .map entries => uptoBulkEntries entries + 1
  | .held _ => 1
def uptoBulkAll {H : Type} : List (DataW H) → Nat
  | [] => 0
  | d :: r => uptoBulk d + uptoBulkAll r
def uptoBulkEntries {H : Type} : List (Lit × DataW H) → Nat
  | [] => 0
  | x :: r => uptoBulkEntry x + uptoBulkEntries r
def uptoBulkEntry {H : Type} : Lit × DataW H → Nat
  | (.string bytes, d) => bytes.length + uptoBulk d + 1
  | (_, d) => uptoBulk d + 1
 end
def uptoSmall : (H : Type) → List (DataW H) → Bool := fun _ ds => decide (uptoBulkAll ds ≤ 1048576)
def OpenSpec.upto (s : _root_.Go.ChangeSpec) : _root_.Go.OpenSpec := { _root_.Go.OpenSpec.ofChange s with cond := some uptoSmall }

/-- 'laws.FnEndedConns', WHERE WHAT IT READS IS OF BULK AT MOST 1048576: true; the input reads as it did. -/
def fnEndedConnsUptoRow : OpenClaim := { program := "ytlonmmkioaejmac", sum := "c229b734fb3ce7dc30b2fa770050ae5b81fc70e32f8edd77ead0f6b811732a0f", func := "loop.example/connectionpool/laws.FnEndedConns", spec := "fnEndedConns", apart := false, narrowed := true }
def FnEndedConnsUptoSaid : Prop := fnEndedConnsUptoRow.holds Try.pinned (OpenSpec.upto fnEndedConnsSpec)

/-- 'laws.FnEndedConnsLater', WHERE WHAT IT READS IS OF BULK AT MOST 1048576: true; the input reads as it did. -/
def fnEndedConnsLaterUptoRow : OpenClaim := { program := "ytlonmmkioaejmac", sum := "c229b734fb3ce7dc30b2fa770050ae5b81fc70e32f8edd77ead0f6b811732a0f", func := "loop.example/connectionpool/laws.FnEndedConnsLater", spec := "fnEndedConnsLater", apart := false, narrowed := true }
def FnEndedConnsLaterUptoSaid : Prop := fnEndedConnsLaterUptoRow.holds Try.pinned (OpenSpec.upto fnEndedConnsLaterSpec)

/-- 'laws.FnEndedConnsLife', WHERE WHAT IT READS IS OF BULK AT MOST 1048576: true; the input reads as it did. -/
def fnEndedConnsLifeUptoRow : OpenClaim := { program := "ytlonmmkioaejmac", sum := "c229b734fb3ce7dc30b2fa770050ae5b81fc70e32f8edd77ead0f6b811732a0f", func := "loop.example/connectionpool/laws.FnEndedConnsLife", spec := "fnEndedConnsLife", apart := false, narrowed := true }
def FnEndedConnsLifeUptoSaid : Prop := fnEndedConnsLifeUptoRow.holds Try.pinned (OpenSpec.upto fnEndedConnsLifeSpec)

/-- 'laws.FnTouchConn', WHERE WHAT IT READS IS OF BULK AT MOST 1048576: true; the input reads as it did. -/
def fnTouchConnUptoRow : OpenClaim := { program := "ytlonmmkioaejmac", sum := "c229b734fb3ce7dc30b2fa770050ae5b81fc70e32f8edd77ead0f6b811732a0f", func := "loop.example/connectionpool/laws.FnTouchConn", spec := "fnTouchConn", apart := false, narrowed := true }
def FnTouchConnUptoSaid : Prop := fnTouchConnUptoRow.holds Try.pinned (OpenSpec.upto fnTouchConnSpec)

/-- 'laws.FnTouchConnEnd', WHERE WHAT IT READS IS OF BULK AT MOST 1048576: true; the input reads as it did. -/
def fnTouchConnEndUptoRow : OpenClaim := { program := "ytlonmmkioaejmac", sum := "c229b734fb3ce7dc30b2fa770050ae5b81fc70e32f8edd77ead0f6b811732a0f", func := "loop.example/connectionpool/laws.FnTouchConnEnd", spec := "fnTouchConnEnd", apart := false, narrowed := true }
def FnTouchConnEndUptoSaid : Prop := fnTouchConnEndUptoRow.holds Try.pinned (OpenSpec.upto fnTouchConnEndSpec)

end Rows
end Go.Proofs.Ytlonmmkioaejmac

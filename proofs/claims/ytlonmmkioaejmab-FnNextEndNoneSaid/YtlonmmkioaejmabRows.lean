/-
  No cell of these rows narrows 'for every input' (looked for: loops, veiled, ifaces, maps, wideKeys, modest, calm, conditions, laid).
  DERIVED. THE GIVEN ROWS OF THIS SEAT. 6 by the template 'for every input the law returns true; each argument reads behind the call as it read before'; 0 by the template 'total and deterministic' (their statements: YtlonmmkioaejmabTotals.lean).
  GIVEN WITH THE SEED: the statements are not yours to turn. If you find one false, say at which input.
  Laid BY PROGRAM, IN A SANDBOX (cutbox-rows.mjs): the forced cells as the released guide's own fill.sh prints them over the translation cde9d2b5eab5054a… (all of the seat's roots in one cut). By AI agents, Wed Nov 11 2026. No macro, syntax, notation, axiom, sorry.
-/
import Derived.Test.YtlonmmkioaejmabChecked
import GoSem.Claim
import GoSem.ClaimJoined
import GoSem.ClaimMapViews
import Derived.JoinedTies
import Derived.KernelRfl
namespace Go.Proofs.Ytlonmmkioaejmab
/- THE CELL 'sum', in the pinned program and in every row, IS THE sha256 OF THE DUMP (.gsa) THAT YtlonmmkioaejmabProg.lean LOADS. Nothing in Lean hashes anything: it is a label: what it is worth is what the hold of that sum in a sandbox is worth. -/
noncomputable def Try.pinned : Pinned := { name := "ytlonmmkioaejmab", sum := "cde9d2b5eab5054a2ce9ffdaf0b34f9436082d86cc59139c960ef6677aff3eb8", checked := Try.checked }
namespace Rows
def none {H : Type} : Left H := { results := [], args := [] }

/-- 'laws.FnLifeOfMore': WHATEVER THE INPUT: true; the input reads as it did. -/
def fnLifeOfMoreSpec : ChangeSpec := { name := "fnLifeOfMore", fn := fun _ => fun
  | [d] => { results := [.lit (.bool true)], args := [d] }
  | _ => none }
def fnLifeOfMoreRow : OpenClaim := { program := "ytlonmmkioaejmab", sum := "cde9d2b5eab5054a2ce9ffdaf0b34f9436082d86cc59139c960ef6677aff3eb8", func := "loop.example/connectionpool/laws.FnLifeOfMore", spec := "fnLifeOfMore", apart := false }
def FnLifeOfMoreSaid : Prop := fnLifeOfMoreRow.holds Try.pinned (OpenSpec.ofChange fnLifeOfMoreSpec)

/-- ITS FALSE NEIGHBOUR: 'it returns false'. Refute it at one input. -/
def fnLifeOfMoreWrong : ChangeSpec := { name := "fnLifeOfMore", fn := fun _ => fun
  | [d] => { results := [.lit (.bool false)], args := [d] }
  | _ => none }
def FnLifeOfMoreWrongFalsely : Prop := fnLifeOfMoreRow.holds Try.pinned (OpenSpec.ofChange fnLifeOfMoreWrong)

/-- 'laws.FnValidAges': WHATEVER THE INPUT: true; the input reads as it did. -/
def fnValidAgesSpec : ChangeSpec := { name := "fnValidAges", fn := fun _ => fun
  | [d] => { results := [.lit (.bool true)], args := [d] }
  | _ => none }
def fnValidAgesRow : OpenClaim := { program := "ytlonmmkioaejmab", sum := "cde9d2b5eab5054a2ce9ffdaf0b34f9436082d86cc59139c960ef6677aff3eb8", func := "loop.example/connectionpool/laws.FnValidAges", spec := "fnValidAges", apart := false }
def FnValidAgesSaid : Prop := fnValidAgesRow.holds Try.pinned (OpenSpec.ofChange fnValidAgesSpec)

/-- ITS FALSE NEIGHBOUR: 'it returns false'. Refute it at one input. -/
def fnValidAgesWrong : ChangeSpec := { name := "fnValidAges", fn := fun _ => fun
  | [d] => { results := [.lit (.bool false)], args := [d] }
  | _ => none }
def FnValidAgesWrongFalsely : Prop := fnValidAgesRow.holds Try.pinned (OpenSpec.ofChange fnValidAgesWrong)

/-- 'laws.FnValidAgesTouch': WHATEVER THE INPUT: true; the input reads as it did. -/
def fnValidAgesTouchSpec : ChangeSpec := { name := "fnValidAgesTouch", fn := fun _ => fun
  | [d] => { results := [.lit (.bool true)], args := [d] }
  | _ => none }
def fnValidAgesTouchRow : OpenClaim := { program := "ytlonmmkioaejmab", sum := "cde9d2b5eab5054a2ce9ffdaf0b34f9436082d86cc59139c960ef6677aff3eb8", func := "loop.example/connectionpool/laws.FnValidAgesTouch", spec := "fnValidAgesTouch", apart := false }
def FnValidAgesTouchSaid : Prop := fnValidAgesTouchRow.holds Try.pinned (OpenSpec.ofChange fnValidAgesTouchSpec)

/-- ITS FALSE NEIGHBOUR: 'it returns false'. Refute it at one input. -/
def fnValidAgesTouchWrong : ChangeSpec := { name := "fnValidAgesTouch", fn := fun _ => fun
  | [d] => { results := [.lit (.bool false)], args := [d] }
  | _ => none }
def FnValidAgesTouchWrongFalsely : Prop := fnValidAgesTouchRow.holds Try.pinned (OpenSpec.ofChange fnValidAgesTouchWrong)

/-- 'laws.FnNextEnd': WHATEVER THE INPUT: true; the input reads as it did. -/
def fnNextEndSpec : ChangeSpec := { name := "fnNextEnd", fn := fun _ => fun
  | [d] => { results := [.lit (.bool true)], args := [d] }
  | _ => none }
def fnNextEndRow : OpenClaim := { program := "ytlonmmkioaejmab", sum := "cde9d2b5eab5054a2ce9ffdaf0b34f9436082d86cc59139c960ef6677aff3eb8", func := "loop.example/connectionpool/laws.FnNextEnd", spec := "fnNextEnd", apart := false }
def FnNextEndSaid : Prop := fnNextEndRow.holds Try.pinned (OpenSpec.ofChange fnNextEndSpec)

/-- ITS FALSE NEIGHBOUR: 'it returns false'. Refute it at one input. -/
def fnNextEndWrong : ChangeSpec := { name := "fnNextEnd", fn := fun _ => fun
  | [d] => { results := [.lit (.bool false)], args := [d] }
  | _ => none }
def FnNextEndWrongFalsely : Prop := fnNextEndRow.holds Try.pinned (OpenSpec.ofChange fnNextEndWrong)

/-- 'laws.FnNextEndNone': WHATEVER THE INPUT: true; the input reads as it did. -/
def fnNextEndNoneSpec : ChangeSpec := { name := "fnNextEndNone", fn := fun _ => fun
  | [d] => { results := [.lit (.bool true)], args := [d] }
  | _ => none }
def fnNextEndNoneRow : OpenClaim := { program := "ytlonmmkioaejmab", sum := "cde9d2b5eab5054a2ce9ffdaf0b34f9436082d86cc59139c960ef6677aff3eb8", func := "loop.example/connectionpool/laws.FnNextEndNone", spec := "fnNextEndNone", apart := false }
def FnNextEndNoneSaid : Prop := fnNextEndNoneRow.holds Try.pinned (OpenSpec.ofChange fnNextEndNoneSpec)

/-- ITS FALSE NEIGHBOUR: 'it returns false'. Refute it at one input. -/
def fnNextEndNoneWrong : ChangeSpec := { name := "fnNextEndNone", fn := fun _ => fun
  | [d] => { results := [.lit (.bool false)], args := [d] }
  | _ => none }
def FnNextEndNoneWrongFalsely : Prop := fnNextEndNoneRow.holds Try.pinned (OpenSpec.ofChange fnNextEndNoneWrong)

/-- 'laws.FnNextEndTouch': WHATEVER THE INPUT: true; the input reads as it did. -/
def fnNextEndTouchSpec : ChangeSpec := { name := "fnNextEndTouch", fn := fun _ => fun
  | [d] => { results := [.lit (.bool true)], args := [d] }
  | _ => none }
def fnNextEndTouchRow : OpenClaim := { program := "ytlonmmkioaejmab", sum := "cde9d2b5eab5054a2ce9ffdaf0b34f9436082d86cc59139c960ef6677aff3eb8", func := "loop.example/connectionpool/laws.FnNextEndTouch", spec := "fnNextEndTouch", apart := false }
def FnNextEndTouchSaid : Prop := fnNextEndTouchRow.holds Try.pinned (OpenSpec.ofChange fnNextEndTouchSpec)

/-- ITS FALSE NEIGHBOUR: 'it returns false'. Refute it at one input. -/
def fnNextEndTouchWrong : ChangeSpec := { name := "fnNextEndTouch", fn := fun _ => fun
  | [d] => { results := [.lit (.bool false)], args := [d] }
  | _ => none }
def FnNextEndTouchWrongFalsely : Prop := fnNextEndTouchRow.holds Try.pinned (OpenSpec.ofChange fnNextEndTouchWrong)

/- THE SECOND FORM. 'bulk': how many values and letters a reading holds, each counted each time it is reached (what is shared counts as often as it is met; a slice's spare places count too). A statement '..UptoSaid' is the law's where the arguments, and the package variables that the reading takes, are together of bulk at most 1048576: NARROWER than '..Said'. Prove '..Said' where nothing that the law and all that it calls make is longer than what came in: it says more and counts as full. Else prove '..UptoSaid'. A law counts once. -/
mutual
def uptoBulk {H : Type} : DataW H → Nat
  | .lit (.string bytes) => bytes.length + 1
  | .lit _ => 1
  | .nil => 1
  | .ptr d => uptoBulk d + 1
  | .slice elems spare => uptoBulkAll elems + uptoBulkAll spare + 1
  | .agg parts => uptoBulkAll parts + 1
  | .iface _ d => uptoBulk d + 1
  | .map entries => uptoBulkEntries entries + 1
  | .held _ => 1
def uptoBulkAll {H : Type} : List (DataW H) → Nat
  | [] => 0
  | d :: r => uptoBulk d + uptoBulkAll r
def uptoBulkEntries {H : Type} : List (Lit × DataW H) → Nat
  | [] => 0
  | x :: r => uptoBulkEntry x + uptoBulkEntries r
def uptoBulkEntry {H : Type} : Lit × DataW H → Nat
  | (.string bytes, d) => bytes.length + uptoBulk d + 1
  | (_, d) => uptoBulk d + 1
 end
def uptoSmall : (H : Type) → List (DataW H) → Bool := fun _ ds => decide (uptoBulkAll ds ≤ 1048576)
def OpenSpec.upto (s : _root_.Go.ChangeSpec) : _root_.Go.OpenSpec := { _root_.Go.OpenSpec.ofChange s with cond := some uptoSmall }

/-- 'laws.FnLifeOfMore', WHERE WHAT IT READS IS OF BULK AT MOST 1048576: true; the input reads as it did. -/
def fnLifeOfMoreUptoRow : OpenClaim := { program := "ytlonmmkioaejmab", sum := "cde9d2b5eab5054a2ce9ffdaf0b34f9436082d86cc59139c960ef6677aff3eb8", func := "loop.example/connectionpool/laws.FnLifeOfMore", spec := "fnLifeOfMore", apart := false, narrowed := true }
def FnLifeOfMoreUptoSaid : Prop := fnLifeOfMoreUptoRow.holds Try.pinned (OpenSpec.upto fnLifeOfMoreSpec)

/-- 'laws.FnValidAges', WHERE WHAT IT READS IS OF BULK AT MOST 1048576: true; the input reads as it did. -/
def fnValidAgesUptoRow : OpenClaim := { program := "ytlonmmkioaejmab", sum := "cde9d2b5eab5054a2ce9ffdaf0b34f9436082d86cc59139c960ef6677aff3eb8", func := "loop.example/connectionpool/laws.FnValidAges", spec := "fnValidAges", apart := false, narrowed := true }
def FnValidAgesUptoSaid : Prop := fnValidAgesUptoRow.holds Try.pinned (OpenSpec.upto fnValidAgesSpec)

/-- 'laws.FnValidAgesTouch', WHERE WHAT IT READS IS OF BULK AT MOST 1048576: true; the input reads as it did. -/
def fnValidAgesTouchUptoRow : OpenClaim := { program := "ytlonmmkioaejmab", sum := "cde9d2b5eab5054a2ce9ffdaf0b34f9436082d86cc59139c960ef6677aff3eb8", func := "loop.example/connectionpool/laws.FnValidAgesTouch", spec := "fnValidAgesTouch", apart := false, narrowed := true }
def FnValidAgesTouchUptoSaid : Prop := fnValidAgesTouchUptoRow.holds Try.pinned (OpenSpec.upto fnValidAgesTouchSpec)

/-- 'laws.FnNextEnd', WHERE WHAT IT READS IS OF BULK AT MOST 1048576: true; the input reads as it did. -/
def fnNextEndUptoRow : OpenClaim := { program := "ytlonmmkioaejmab", sum := "cde9d2b5eab5054a2ce9ffdaf0b34f9436082d86cc59139c960ef6677aff3eb8", func := "loop.example/connectionpool/laws.FnNextEnd", spec := "fnNextEnd", apart := false, narrowed := true }
def FnNextEndUptoSaid : Prop := fnNextEndUptoRow.holds Try.pinned (OpenSpec.upto fnNextEndSpec)

/-- 'laws.FnNextEndNone', WHERE WHAT IT READS IS OF BULK AT MOST 1048576: true; the input reads as it did. -/
def fnNextEndNoneUptoRow : OpenClaim := { program := "ytlonmmkioaejmab", sum := "cde9d2b5eab5054a2ce9ffdaf0b34f9436082d86cc59139c960ef6677aff3eb8", func := "loop.example/connectionpool/laws.FnNextEndNone", spec := "fnNextEndNone", apart := false, narrowed := true }
def FnNextEndNoneUptoSaid : Prop := fnNextEndNoneUptoRow.holds Try.pinned (OpenSpec.upto fnNextEndNoneSpec)

/-- 'laws.FnNextEndTouch', WHERE WHAT IT READS IS OF BULK AT MOST 1048576: true; the input reads as it did. -/
def fnNextEndTouchUptoRow : OpenClaim := { program := "ytlonmmkioaejmab", sum := "cde9d2b5eab5054a2ce9ffdaf0b34f9436082d86cc59139c960ef6677aff3eb8", func := "loop.example/connectionpool/laws.FnNextEndTouch", spec := "fnNextEndTouch", apart := false, narrowed := true }
def FnNextEndTouchUptoSaid : Prop := fnNextEndTouchUptoRow.holds Try.pinned (OpenSpec.upto fnNextEndTouchSpec)

end Rows
end Go.Proofs.Ytlonmmkioaejmab

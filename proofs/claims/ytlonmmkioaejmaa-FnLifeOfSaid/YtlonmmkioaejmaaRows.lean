/-
  No cell of these rows narrows 'for every input' (looked for: loops, veiled, ifaces, maps, wideKeys, modest, calm, conditions, laid).
  DERIVED. THE GIVEN ROWS OF THIS SEAT. 6 by the template 'for every input the law returns true; each argument reads behind the call as it read before'; 0 by the template 'total and deterministic' (their statements: YtlonmmkioaejmaaTotals.lean).
  GIVEN WITH THE SEED: the statements are not yours to turn. If you find one false, say at which input.
  Laid BY PROGRAM, IN A SANDBOX (cutbox-rows.mjs): the forced cells as the released guide's own fill.sh prints them over the translation 1118cb56baf8b8f5… (all of the seat's roots in one cut). By AI agents, Wed Nov 11 2026. No macro, syntax, notation, axiom, sorry.
-/
import Derived.Test.YtlonmmkioaejmaaChecked
import GoSem.Claim
import GoSem.ClaimJoined
import GoSem.ClaimMapViews
import Derived.JoinedTies
import Derived.KernelRfl
namespace Go.Proofs.Ytlonmmkioaejmaa
/- THE CELL 'sum', in the pinned program and in every row, IS THE sha256 OF THE DUMP (.gsa) THAT YtlonmmkioaejmaaProg.lean LOADS. Nothing in Lean hashes anything: it is a label: what it is worth is what the hold of that sum in a sandbox is worth. -/
noncomputable def Try.pinned : Pinned := { name := "ytlonmmkioaejmaa", sum := "1118cb56baf8b8f598698fe7339073d2f15b37b5518fa9dcda10d4ff882ce199", checked := Try.checked }
namespace Rows
def none {H : Type} : Left H := { results := [], args := [] }

/-- 'laws.FnExactValidAges': WHATEVER THE INPUT: true; the input reads as it did. -/
def fnExactValidAgesSpec : ChangeSpec := { name := "fnExactValidAges", fn := fun _ => fun
  | [d] => { results := [.lit (.bool true)], args := [d] }
  | _ => none }
def fnExactValidAgesRow : OpenClaim := { program := "ytlonmmkioaejmaa", sum := "1118cb56baf8b8f598698fe7339073d2f15b37b5518fa9dcda10d4ff882ce199", func := "loop.example/connectionpool/laws.FnExactValidAges", spec := "fnExactValidAges", apart := false }
def FnExactValidAgesSaid : Prop := fnExactValidAgesRow.holds Try.pinned (OpenSpec.ofChange fnExactValidAgesSpec)

/-- ITS FALSE NEIGHBOUR: 'it returns false'. Refute it at one input. -/
def fnExactValidAgesWrong : ChangeSpec := { name := "fnExactValidAges", fn := fun _ => fun
  | [d] => { results := [.lit (.bool false)], args := [d] }
  | _ => none }
def FnExactValidAgesWrongFalsely : Prop := fnExactValidAgesRow.holds Try.pinned (OpenSpec.ofChange fnExactValidAgesWrong)

/-- 'laws.FnExactLifeOf': WHATEVER THE INPUT: true; the input reads as it did. -/
def fnExactLifeOfSpec : ChangeSpec := { name := "fnExactLifeOf", fn := fun _ => fun
  | [d1, d2] => { results := [.lit (.bool true)], args := [d1, d2] }
  | _ => none }
def fnExactLifeOfRow : OpenClaim := { program := "ytlonmmkioaejmaa", sum := "1118cb56baf8b8f598698fe7339073d2f15b37b5518fa9dcda10d4ff882ce199", func := "loop.example/connectionpool/laws.FnExactLifeOf", spec := "fnExactLifeOf", apart := false }
def FnExactLifeOfSaid : Prop := fnExactLifeOfRow.holds Try.pinned (OpenSpec.ofChange fnExactLifeOfSpec)

/-- ITS FALSE NEIGHBOUR: 'it returns false'. Refute it at one input. -/
def fnExactLifeOfWrong : ChangeSpec := { name := "fnExactLifeOf", fn := fun _ => fun
  | [d1, d2] => { results := [.lit (.bool false)], args := [d1, d2] }
  | _ => none }
def FnExactLifeOfWrongFalsely : Prop := fnExactLifeOfRow.holds Try.pinned (OpenSpec.ofChange fnExactLifeOfWrong)

/-- 'laws.FnExactEndedConns': WHATEVER THE INPUT: true; the input reads as it did. -/
def fnExactEndedConnsSpec : ChangeSpec := { name := "fnExactEndedConns", fn := fun _ => fun
  | [d1, d2, d3, d4] => { results := [.lit (.bool true)], args := [d1, d2, d3, d4] }
  | _ => none }
def fnExactEndedConnsRow : OpenClaim := { program := "ytlonmmkioaejmaa", sum := "1118cb56baf8b8f598698fe7339073d2f15b37b5518fa9dcda10d4ff882ce199", func := "loop.example/connectionpool/laws.FnExactEndedConns", spec := "fnExactEndedConns", apart := false }
def FnExactEndedConnsSaid : Prop := fnExactEndedConnsRow.holds Try.pinned (OpenSpec.ofChange fnExactEndedConnsSpec)

/-- ITS FALSE NEIGHBOUR: 'it returns false'. Refute it at one input. -/
def fnExactEndedConnsWrong : ChangeSpec := { name := "fnExactEndedConns", fn := fun _ => fun
  | [d1, d2, d3, d4] => { results := [.lit (.bool false)], args := [d1, d2, d3, d4] }
  | _ => none }
def FnExactEndedConnsWrongFalsely : Prop := fnExactEndedConnsRow.holds Try.pinned (OpenSpec.ofChange fnExactEndedConnsWrong)

/-- 'laws.FnExactNextEnd': WHATEVER THE INPUT: true; the input reads as it did. -/
def fnExactNextEndSpec : ChangeSpec := { name := "fnExactNextEnd", fn := fun _ => fun
  | [d1, d2, d3] => { results := [.lit (.bool true)], args := [d1, d2, d3] }
  | _ => none }
def fnExactNextEndRow : OpenClaim := { program := "ytlonmmkioaejmaa", sum := "1118cb56baf8b8f598698fe7339073d2f15b37b5518fa9dcda10d4ff882ce199", func := "loop.example/connectionpool/laws.FnExactNextEnd", spec := "fnExactNextEnd", apart := false }
def FnExactNextEndSaid : Prop := fnExactNextEndRow.holds Try.pinned (OpenSpec.ofChange fnExactNextEndSpec)

/-- ITS FALSE NEIGHBOUR: 'it returns false'. Refute it at one input. -/
def fnExactNextEndWrong : ChangeSpec := { name := "fnExactNextEnd", fn := fun _ => fun
  | [d1, d2, d3] => { results := [.lit (.bool false)], args := [d1, d2, d3] }
  | _ => none }
def FnExactNextEndWrongFalsely : Prop := fnExactNextEndRow.holds Try.pinned (OpenSpec.ofChange fnExactNextEndWrong)

/-- 'laws.FnExactTouchConn': WHATEVER THE INPUT: true; the input reads as it did. -/
def fnExactTouchConnSpec : ChangeSpec := { name := "fnExactTouchConn", fn := fun _ => fun
  | [d1, d2, d3] => { results := [.lit (.bool true)], args := [d1, d2, d3] }
  | _ => none }
def fnExactTouchConnRow : OpenClaim := { program := "ytlonmmkioaejmaa", sum := "1118cb56baf8b8f598698fe7339073d2f15b37b5518fa9dcda10d4ff882ce199", func := "loop.example/connectionpool/laws.FnExactTouchConn", spec := "fnExactTouchConn", apart := false }
def FnExactTouchConnSaid : Prop := fnExactTouchConnRow.holds Try.pinned (OpenSpec.ofChange fnExactTouchConnSpec)

/-- ITS FALSE NEIGHBOUR: 'it returns false'. Refute it at one input. -/
def fnExactTouchConnWrong : ChangeSpec := { name := "fnExactTouchConn", fn := fun _ => fun
  | [d1, d2, d3] => { results := [.lit (.bool false)], args := [d1, d2, d3] }
  | _ => none }
def FnExactTouchConnWrongFalsely : Prop := fnExactTouchConnRow.holds Try.pinned (OpenSpec.ofChange fnExactTouchConnWrong)

/-- 'laws.FnLifeOf': WHATEVER THE INPUT: true; the input reads as it did. -/
def fnLifeOfSpec : ChangeSpec := { name := "fnLifeOf", fn := fun _ => fun
  | [d] => { results := [.lit (.bool true)], args := [d] }
  | _ => none }
def fnLifeOfRow : OpenClaim := { program := "ytlonmmkioaejmaa", sum := "1118cb56baf8b8f598698fe7339073d2f15b37b5518fa9dcda10d4ff882ce199", func := "loop.example/connectionpool/laws.FnLifeOf", spec := "fnLifeOf", apart := false }
def FnLifeOfSaid : Prop := fnLifeOfRow.holds Try.pinned (OpenSpec.ofChange fnLifeOfSpec)

/-- ITS FALSE NEIGHBOUR: 'it returns false'. Refute it at one input. -/
def fnLifeOfWrong : ChangeSpec := { name := "fnLifeOf", fn := fun _ => fun
  | [d] => { results := [.lit (.bool false)], args := [d] }
  | _ => none }
def FnLifeOfWrongFalsely : Prop := fnLifeOfRow.holds Try.pinned (OpenSpec.ofChange fnLifeOfWrong)

/- THE SECOND FORM. 'bulk': how many values and letters a reading holds, each counted each time it is reached (what is shared counts as often as it is met; a slice's spare places count too). A statement '..UptoSaid' is the law's where the arguments, and the package variables that the reading takes, are together of bulk at most 1048576: NARROWER than '..Said'. Prove '..Said' where nothing that the law and all that it calls make is longer than what came in: it says more and counts as full. Else prove '..UptoSaid'. A law counts once. -/
mutual
def uptoBulk {H : Type} : DataW H → Nat
  | .lit (.string bytes) => bytes.length + 1
  | .lit _ => 1
  | .nil => 1
  | .ptr d => uptoBulk d + 1
  | .slice elems spare => uptoBulkAll elems + uptoBulkAll spare + 1
  | .agg parts => uptoBulkAll parts + 1
  | .iface _ d => uptoBulk d + 1
  | .map entries => uptoBulkEntries entries + 1
  | .held _ => 1
def uptoBulkAll {H : Type} : List (DataW H) → Nat
  | [] => 0
  | d :: r => uptoBulk d + uptoBulkAll r
def uptoBulkEntries {H : Type} : List (Lit × DataW H) → Nat
  | [] => 0
  | x :: r => uptoBulkEntry x + uptoBulkEntries r
def uptoBulkEntry {H : Type} : Lit × DataW H → Nat
  | (.string bytes, d) => bytes.length + uptoBulk d + 1
  | (_, d) => uptoBulk d + 1
 end
def uptoSmall : (H : Type) → List (DataW H) → Bool := fun _ ds => decide (uptoBulkAll ds ≤ 1048576)
def OpenSpec.upto (s : _root_.Go.ChangeSpec) : _root_.Go.OpenSpec := { _root_.Go.OpenSpec.ofChange s with cond := some uptoSmall }

/-- 'laws.FnExactValidAges', WHERE WHAT IT READS IS OF BULK AT MOST 1048576: true; the input reads as it did. -/
def fnExactValidAgesUptoRow : OpenClaim := { program := "ytlonmmkioaejmaa", sum := "1118cb56baf8b8f598698fe7339073d2f15b37b5518fa9dcda10d4ff882ce199", func := "loop.example/connectionpool/laws.FnExactValidAges", spec := "fnExactValidAges", apart := false, narrowed := true }
def FnExactValidAgesUptoSaid : Prop := fnExactValidAgesUptoRow.holds Try.pinned (OpenSpec.upto fnExactValidAgesSpec)

/-- 'laws.FnExactLifeOf', WHERE WHAT IT READS IS OF BULK AT MOST 1048576: true; the input reads as it did. -/
def fnExactLifeOfUptoRow : OpenClaim := { program := "ytlonmmkioaejmaa", sum := "1118cb56baf8b8f598698fe7339073d2f15b37b5518fa9dcda10d4ff882ce199", func := "loop.example/connectionpool/laws.FnExactLifeOf", spec := "fnExactLifeOf", apart := false, narrowed := true }
def FnExactLifeOfUptoSaid : Prop := fnExactLifeOfUptoRow.holds Try.pinned (OpenSpec.upto fnExactLifeOfSpec)

/-- 'laws.FnExactEndedConns', WHERE WHAT IT READS IS OF BULK AT MOST 1048576: true; the input reads as it did. -/
def fnExactEndedConnsUptoRow : OpenClaim := { program := "ytlonmmkioaejmaa", sum := "1118cb56baf8b8f598698fe7339073d2f15b37b5518fa9dcda10d4ff882ce199", func := "loop.example/connectionpool/laws.FnExactEndedConns", spec := "fnExactEndedConns", apart := false, narrowed := true }
def FnExactEndedConnsUptoSaid : Prop := fnExactEndedConnsUptoRow.holds Try.pinned (OpenSpec.upto fnExactEndedConnsSpec)

/-- 'laws.FnExactNextEnd', WHERE WHAT IT READS IS OF BULK AT MOST 1048576: true; the input reads as it did. -/
def fnExactNextEndUptoRow : OpenClaim := { program := "ytlonmmkioaejmaa", sum := "1118cb56baf8b8f598698fe7339073d2f15b37b5518fa9dcda10d4ff882ce199", func := "loop.example/connectionpool/laws.FnExactNextEnd", spec := "fnExactNextEnd", apart := false, narrowed := true }
def FnExactNextEndUptoSaid : Prop := fnExactNextEndUptoRow.holds Try.pinned (OpenSpec.upto fnExactNextEndSpec)

/-- 'laws.FnExactTouchConn', WHERE WHAT IT READS IS OF BULK AT MOST 1048576: true; the input reads as it did. -/
def fnExactTouchConnUptoRow : OpenClaim := { program := "ytlonmmkioaejmaa", sum := "1118cb56baf8b8f598698fe7339073d2f15b37b5518fa9dcda10d4ff882ce199", func := "loop.example/connectionpool/laws.FnExactTouchConn", spec := "fnExactTouchConn", apart := false, narrowed := true }
def FnExactTouchConnUptoSaid : Prop := fnExactTouchConnUptoRow.holds Try.pinned (OpenSpec.upto fnExactTouchConnSpec)

/-- 'laws.FnLifeOf', WHERE WHAT IT READS IS OF BULK AT MOST 1048576: true; the input reads as it did. -/
def fnLifeOfUptoRow : OpenClaim := { program := "ytlonmmkioaejmaa", sum := "1118cb56baf8b8f598698fe7339073d2f15b37b5518fa9dcda10d4ff882ce199", func := "loop.example/connectionpool/laws.FnLifeOf", spec := "fnLifeOf", apart := false, narrowed := true }
def FnLifeOfUptoSaid : Prop := fnLifeOfUptoRow.holds Try.pinned (OpenSpec.upto fnLifeOfSpec)

end Rows
end Go.Proofs.Ytlonmmkioaejmaa

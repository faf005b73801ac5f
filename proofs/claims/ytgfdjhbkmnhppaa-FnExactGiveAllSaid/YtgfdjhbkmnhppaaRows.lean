/-
  No cell of these rows narrows 'for every input' (looked for: loops, veiled, ifaces, maps, wideKeys, modest, calm, conditions, laid).
  DERIVED. THE GIVEN ROWS OF THIS SEAT. 8 by the template 'for every input the law returns true; each argument reads behind the call as it read before'; 0 by the template 'total and deterministic' (their statements: YtgfdjhbkmnhppaaTotals.lean).
  GIVEN WITH THE SEED: the statements are not yours to turn. If you find one false, say at which input.
  Laid BY PROGRAM, IN A SANDBOX (cutbox-rows.mjs): the forced cells as the released guide's own fill.sh prints them over the translation 89d072a8a9e6642e… (all of the seat's roots in one cut). By AI agents, Wed Nov 11 2026. No macro, syntax, notation, axiom, sorry.
-/
import Derived.Test.YtgfdjhbkmnhppaaChecked
import GoSem.Claim
import GoSem.ClaimJoined
import GoSem.ClaimMapViews
import Derived.JoinedTies
import Derived.KernelRfl
namespace Go.Proofs.Ytgfdjhbkmnhppaa
/- THE CELL 'sum', in the pinned program and in every row, IS THE sha256 OF THE DUMP (.gsa) THAT YtgfdjhbkmnhppaaProg.lean LOADS. Nothing in Lean hashes anything: it is a label: what it is worth is what the hold of that sum in a sandbox is worth. -/
noncomputable def Try.pinned : Pinned := { name := "ytgfdjhbkmnhppaa", sum := "89d072a8a9e6642ef05681bdf442086b4ebb341dc01fd1d182bbd5e0e2219a49", checked := Try.checked }
namespace Rows
def none {H : Type} : Left H := { results := [], args := [] }

/-- 'laws.FnExactValidShare': WHATEVER THE INPUT: true; the input reads as it did. -/
def fnExactValidShareSpec : ChangeSpec := { name := "fnExactValidShare", fn := fun _ => fun
  | [d] => { results := [.lit (.bool true)], args := [d] }
  | _ => none }
def fnExactValidShareRow : OpenClaim := { program := "ytgfdjhbkmnhppaa", sum := "89d072a8a9e6642ef05681bdf442086b4ebb341dc01fd1d182bbd5e0e2219a49", func := "loop.example/connectionpool/laws.FnExactValidShare", spec := "fnExactValidShare", apart := false }
def FnExactValidShareSaid : Prop := fnExactValidShareRow.holds Try.pinned (OpenSpec.ofChange fnExactValidShareSpec)

/-- ITS FALSE NEIGHBOUR: 'it returns false'. Refute it at one input. -/
def fnExactValidShareWrong : ChangeSpec := { name := "fnExactValidShare", fn := fun _ => fun
  | [d] => { results := [.lit (.bool false)], args := [d] }
  | _ => none }
def FnExactValidShareWrongFalsely : Prop := fnExactValidShareRow.holds Try.pinned (OpenSpec.ofChange fnExactValidShareWrong)

/-- 'laws.FnExactNextOwner': WHATEVER THE INPUT: true; the input reads as it did. -/
def fnExactNextOwnerSpec : ChangeSpec := { name := "fnExactNextOwner", fn := fun _ => fun
  | [d1, d2] => { results := [.lit (.bool true)], args := [d1, d2] }
  | _ => none }
def fnExactNextOwnerRow : OpenClaim := { program := "ytgfdjhbkmnhppaa", sum := "89d072a8a9e6642ef05681bdf442086b4ebb341dc01fd1d182bbd5e0e2219a49", func := "loop.example/connectionpool/laws.FnExactNextOwner", spec := "fnExactNextOwner", apart := false }
def FnExactNextOwnerSaid : Prop := fnExactNextOwnerRow.holds Try.pinned (OpenSpec.ofChange fnExactNextOwnerSpec)

/-- ITS FALSE NEIGHBOUR: 'it returns false'. Refute it at one input. -/
def fnExactNextOwnerWrong : ChangeSpec := { name := "fnExactNextOwner", fn := fun _ => fun
  | [d1, d2] => { results := [.lit (.bool false)], args := [d1, d2] }
  | _ => none }
def FnExactNextOwnerWrongFalsely : Prop := fnExactNextOwnerRow.holds Try.pinned (OpenSpec.ofChange fnExactNextOwnerWrong)

/-- 'laws.FnExactGiveShare': WHATEVER THE INPUT: true; the input reads as it did. -/
def fnExactGiveShareSpec : ChangeSpec := { name := "fnExactGiveShare", fn := fun _ => fun
  | [d1, d2] => { results := [.lit (.bool true)], args := [d1, d2] }
  | _ => none }
def fnExactGiveShareRow : OpenClaim := { program := "ytgfdjhbkmnhppaa", sum := "89d072a8a9e6642ef05681bdf442086b4ebb341dc01fd1d182bbd5e0e2219a49", func := "loop.example/connectionpool/laws.FnExactGiveShare", spec := "fnExactGiveShare", apart := false }
def FnExactGiveShareSaid : Prop := fnExactGiveShareRow.holds Try.pinned (OpenSpec.ofChange fnExactGiveShareSpec)

/-- ITS FALSE NEIGHBOUR: 'it returns false'. Refute it at one input. -/
def fnExactGiveShareWrong : ChangeSpec := { name := "fnExactGiveShare", fn := fun _ => fun
  | [d1, d2] => { results := [.lit (.bool false)], args := [d1, d2] }
  | _ => none }
def FnExactGiveShareWrongFalsely : Prop := fnExactGiveShareRow.holds Try.pinned (OpenSpec.ofChange fnExactGiveShareWrong)

/-- 'laws.FnExactTakeShare': WHATEVER THE INPUT: true; the input reads as it did. -/
def fnExactTakeShareSpec : ChangeSpec := { name := "fnExactTakeShare", fn := fun _ => fun
  | [d1, d2] => { results := [.lit (.bool true)], args := [d1, d2] }
  | _ => none }
def fnExactTakeShareRow : OpenClaim := { program := "ytgfdjhbkmnhppaa", sum := "89d072a8a9e6642ef05681bdf442086b4ebb341dc01fd1d182bbd5e0e2219a49", func := "loop.example/connectionpool/laws.FnExactTakeShare", spec := "fnExactTakeShare", apart := false }
def FnExactTakeShareSaid : Prop := fnExactTakeShareRow.holds Try.pinned (OpenSpec.ofChange fnExactTakeShareSpec)

/-- ITS FALSE NEIGHBOUR: 'it returns false'. Refute it at one input. -/
def fnExactTakeShareWrong : ChangeSpec := { name := "fnExactTakeShare", fn := fun _ => fun
  | [d1, d2] => { results := [.lit (.bool false)], args := [d1, d2] }
  | _ => none }
def FnExactTakeShareWrongFalsely : Prop := fnExactTakeShareRow.holds Try.pinned (OpenSpec.ofChange fnExactTakeShareWrong)

/-- 'laws.FnExactGiveAll': WHATEVER THE INPUT: true; the input reads as it did. -/
def fnExactGiveAllSpec : ChangeSpec := { name := "fnExactGiveAll", fn := fun _ => fun
  | [d1, d2] => { results := [.lit (.bool true)], args := [d1, d2] }
  | _ => none }
def fnExactGiveAllRow : OpenClaim := { program := "ytgfdjhbkmnhppaa", sum := "89d072a8a9e6642ef05681bdf442086b4ebb341dc01fd1d182bbd5e0e2219a49", func := "loop.example/connectionpool/laws.FnExactGiveAll", spec := "fnExactGiveAll", apart := false }
def FnExactGiveAllSaid : Prop := fnExactGiveAllRow.holds Try.pinned (OpenSpec.ofChange fnExactGiveAllSpec)

/-- ITS FALSE NEIGHBOUR: 'it returns false'. Refute it at one input. -/
def fnExactGiveAllWrong : ChangeSpec := { name := "fnExactGiveAll", fn := fun _ => fun
  | [d1, d2] => { results := [.lit (.bool false)], args := [d1, d2] }
  | _ => none }
def FnExactGiveAllWrongFalsely : Prop := fnExactGiveAllRow.holds Try.pinned (OpenSpec.ofChange fnExactGiveAllWrong)

/-- 'laws.FnValidShare': WHATEVER THE INPUT: true; the input reads as it did. -/
def fnValidShareSpec : ChangeSpec := { name := "fnValidShare", fn := fun _ => fun
  | [d] => { results := [.lit (.bool true)], args := [d] }
  | _ => none }
def fnValidShareRow : OpenClaim := { program := "ytgfdjhbkmnhppaa", sum := "89d072a8a9e6642ef05681bdf442086b4ebb341dc01fd1d182bbd5e0e2219a49", func := "loop.example/connectionpool/laws.FnValidShare", spec := "fnValidShare", apart := false }
def FnValidShareSaid : Prop := fnValidShareRow.holds Try.pinned (OpenSpec.ofChange fnValidShareSpec)

/-- ITS FALSE NEIGHBOUR: 'it returns false'. Refute it at one input. -/
def fnValidShareWrong : ChangeSpec := { name := "fnValidShare", fn := fun _ => fun
  | [d] => { results := [.lit (.bool false)], args := [d] }
  | _ => none }
def FnValidShareWrongFalsely : Prop := fnValidShareRow.holds Try.pinned (OpenSpec.ofChange fnValidShareWrong)

/-- 'laws.FnValidShareLess': WHATEVER THE INPUT: true; the input reads as it did. -/
def fnValidShareLessSpec : ChangeSpec := { name := "fnValidShareLess", fn := fun _ => fun
  | [d] => { results := [.lit (.bool true)], args := [d] }
  | _ => none }
def fnValidShareLessRow : OpenClaim := { program := "ytgfdjhbkmnhppaa", sum := "89d072a8a9e6642ef05681bdf442086b4ebb341dc01fd1d182bbd5e0e2219a49", func := "loop.example/connectionpool/laws.FnValidShareLess", spec := "fnValidShareLess", apart := false }
def FnValidShareLessSaid : Prop := fnValidShareLessRow.holds Try.pinned (OpenSpec.ofChange fnValidShareLessSpec)

/-- ITS FALSE NEIGHBOUR: 'it returns false'. Refute it at one input. -/
def fnValidShareLessWrong : ChangeSpec := { name := "fnValidShareLess", fn := fun _ => fun
  | [d] => { results := [.lit (.bool false)], args := [d] }
  | _ => none }
def FnValidShareLessWrongFalsely : Prop := fnValidShareLessRow.holds Try.pinned (OpenSpec.ofChange fnValidShareLessWrong)

/-- 'laws.FnTakeShare': WHATEVER THE INPUT: true; the input reads as it did. -/
def fnTakeShareSpec : ChangeSpec := { name := "fnTakeShare", fn := fun _ => fun
  | [d] => { results := [.lit (.bool true)], args := [d] }
  | _ => none }
def fnTakeShareRow : OpenClaim := { program := "ytgfdjhbkmnhppaa", sum := "89d072a8a9e6642ef05681bdf442086b4ebb341dc01fd1d182bbd5e0e2219a49", func := "loop.example/connectionpool/laws.FnTakeShare", spec := "fnTakeShare", apart := false }
def FnTakeShareSaid : Prop := fnTakeShareRow.holds Try.pinned (OpenSpec.ofChange fnTakeShareSpec)

/-- ITS FALSE NEIGHBOUR: 'it returns false'. Refute it at one input. -/
def fnTakeShareWrong : ChangeSpec := { name := "fnTakeShare", fn := fun _ => fun
  | [d] => { results := [.lit (.bool false)], args := [d] }
  | _ => none }
def FnTakeShareWrongFalsely : Prop := fnTakeShareRow.holds Try.pinned (OpenSpec.ofChange fnTakeShareWrong)

/- THE SECOND FORM. 'bulk': how many values and letters a reading holds, each counted each time it is reached (what is shared counts as often as it is met; a slice's spare places count too). A statement '..UptoSaid' is the law's where the arguments, and the package variables that the reading takes, are together of bulk at most 1048576: NARROWER than '..Said'. Prove '..Said' where nothing that the law and all that it calls make is longer than what came in: it says more and counts as full. Else prove '..UptoSaid'. A law counts once. -/
mutual
def uptoBulk {H : Type} : DataW H → Nat
  | .lit (.string bytes) => bytes.length + 1
  | .lit _ => 1
  | .nil => 1
  | .ptr d => uptoBulk d + 1
  | .slice elems spare => uptoBulkAll elems + uptoBulkAll spare + 1
  | .agg parts => uptoBulkAll parts + 1
  | .iface _ d => uptoBulk d + 1
  | .map entries => uptoBulkEntries entries + 1
  | .held _ => 1
def uptoBulkAll {H : Type} : List (DataW H) → Nat
  | [] => 0
  | d :: r => uptoBulk d + uptoBulkAll r
def uptoBulkEntries {H : Type} : List (Lit × DataW H) → Nat
  | [] => 0
  | x :: r => uptoBulkEntry x + uptoBulkEntries r
def uptoBulkEntry {H : Type} : Lit × DataW H → Nat
  | (.string bytes, d) => bytes.length + uptoBulk d + 1
  | (_, d) => uptoBulk d + 1
 end
def uptoSmall : (H : Type) → List (DataW H) → Bool := fun _ ds => decide (uptoBulkAll ds ≤ 1048576)
def OpenSpec.upto (s : _root_.Go.ChangeSpec) : _root_.Go.OpenSpec := { _root_.Go.OpenSpec.ofChange s with cond := some uptoSmall }

/-- 'laws.FnExactValidShare', WHERE WHAT IT READS IS OF BULK AT MOST 1048576: true; the input reads as it did. -/
def fnExactValidShareUptoRow : OpenClaim := { program := "ytgfdjhbkmnhppaa", sum := "89d072a8a9e6642ef05681bdf442086b4ebb341dc01fd1d182bbd5e0e2219a49", func := "loop.example/connectionpool/laws.FnExactValidShare", spec := "fnExactValidShare", apart := false, narrowed := true }
def FnExactValidShareUptoSaid : Prop := fnExactValidShareUptoRow.holds Try.pinned (OpenSpec.upto fnExactValidShareSpec)

/-- 'laws.FnExactNextOwner', WHERE WHAT IT READS IS OF BULK AT MOST 1048576: true; the input reads as it did. -/
def fnExactNextOwnerUptoRow : OpenClaim := { program := "ytgfdjhbkmnhppaa", sum := "89d072a8a9e6642ef05681bdf442086b4ebb341dc01fd1d182bbd5e0e2219a49", func := "loop.example/connectionpool/laws.FnExactNextOwner", spec := "fnExactNextOwner", apart := false, narrowed := true }
def FnExactNextOwnerUptoSaid : Prop := fnExactNextOwnerUptoRow.holds Try.pinned (OpenSpec.upto fnExactNextOwnerSpec)

/-- 'laws.FnExactGiveShare', WHERE WHAT IT READS IS OF BULK AT MOST 1048576: true; the input reads as it did. -/
def fnExactGiveShareUptoRow : OpenClaim := { program := "ytgfdjhbkmnhppaa", sum := "89d072a8a9e6642ef05681bdf442086b4ebb341dc01fd1d182bbd5e0e2219a49", func := "loop.example/connectionpool/laws.FnExactGiveShare", spec := "fnExactGiveShare", apart := false, narrowed := true }
def FnExactGiveShareUptoSaid : Prop := fnExactGiveShareUptoRow.holds Try.pinned (OpenSpec.upto fnExactGiveShareSpec)

/-- 'laws.FnExactTakeShare', WHERE WHAT IT READS IS OF BULK AT MOST 1048576: true; the input reads as it did. -/
def fnExactTakeShareUptoRow : OpenClaim := { program := "ytgfdjhbkmnhppaa", sum := "89d072a8a9e6642ef05681bdf442086b4ebb341dc01fd1d182bbd5e0e2219a49", func := "loop.example/connectionpool/laws.FnExactTakeShare", spec := "fnExactTakeShare", apart := false, narrowed := true }
def FnExactTakeShareUptoSaid : Prop := fnExactTakeShareUptoRow.holds Try.pinned (OpenSpec.upto fnExactTakeShareSpec)

/-- 'laws.FnExactGiveAll', WHERE WHAT IT READS IS OF BULK AT MOST 1048576: true; the input reads as it did. -/
def fnExactGiveAllUptoRow : OpenClaim := { program := "ytgfdjhbkmnhppaa", sum := "89d072a8a9e6642ef05681bdf442086b4ebb341dc01fd1d182bbd5e0e2219a49", func := "loop.example/connectionpool/laws.FnExactGiveAll", spec := "fnExactGiveAll", apart := false, narrowed := true }
def FnExactGiveAllUptoSaid : Prop := fnExactGiveAllUptoRow.holds Try.pinned (OpenSpec.upto fnExactGiveAllSpec)

/-- 'laws.FnValidShare', WHERE WHAT IT READS IS OF BULK AT MOST 1048576: true; the input reads as it did. -/
def fnValidShareUptoRow : OpenClaim := { program := "ytgfdjhbkmnhppaa", sum := "89d072a8a9e6642ef05681bdf442086b4ebb341dc01fd1d182bbd5e0e2219a49", func := "loop.example/connectionpool/laws.FnValidShare", spec := "fnValidShare", apart := false, narrowed := true }
def FnValidShareUptoSaid : Prop := fnValidShareUptoRow.holds Try.pinned (OpenSpec.upto fnValidShareSpec)

/-- 'laws.FnValidShareLess', WHERE WHAT IT READS IS OF BULK AT MOST 1048576: true; the input reads as it did. -/
def fnValidShareLessUptoRow : OpenClaim := { program := "ytgfdjhbkmnhppaa", sum := "89d072a8a9e6642ef05681bdf442086b4ebb341dc01fd1d182bbd5e0e2219a49", func := "loop.example/connectionpool/laws.FnValidShareLess", spec := "fnValidShareLess", apart := false, narrowed := true }
def FnValidShareLessUptoSaid : Prop := fnValidShareLessUptoRow.holds Try.pinned (OpenSpec.upto fnValidShareLessSpec)

/-- 'laws.FnTakeShare', WHERE WHAT IT READS IS OF BULK AT MOST 1048576: true; the input reads as it did. -/
def fnTakeShareUptoRow : OpenClaim := { program := "ytgfdjhbkmnhppaa", sum := "89d072a8a9e6642ef05681bdf442086b4ebb341dc01fd1d182bbd5e0e2219a49", func := "loop.example/connectionpool/laws.FnTakeShare", spec := "fnTakeShare", apart := false, narrowed := true }
def FnTakeShareUptoSaid : Prop := fnTakeShareUptoRow.holds Try.pinned (OpenSpec.upto fnTakeShareSpec)

end Rows
end Go.Proofs.Ytgfdjhbkmnhppaa

/-
  No cell of these rows narrows 'for every input' (looked for: loops, veiled, ifaces, maps, wideKeys, modest, calm, conditions, laid).
  DERIVED. THE GIVEN ROWS OF THIS SEAT. 6 by the template 'for every input the law returns true; each argument reads behind the call as it read before'; 0 by the template 'total and deterministic' (their statements: YtimjalhhigekpaaTotals.lean).
  GIVEN WITH THE SEED: the statements are not yours to turn. If you find one false, say at which input.
  Laid BY PROGRAM, IN A SANDBOX (cutbox-rows.mjs): the forced cells as the released guide's own fill.sh prints them over the translation a610fb0cfb198513… (all of the seat's roots in one cut). By AI agents, Wed Nov 11 2026. No macro, syntax, notation, axiom, sorry.
-/
import Derived.Test.YtimjalhhigekpaaChecked
import GoSem.Claim
import GoSem.ClaimJoined
import GoSem.ClaimMapViews
import Derived.JoinedTies
import Derived.KernelRfl
namespace Go.Proofs.Ytimjalhhigekpaa
/- THE CELL 'sum', in the pinned program and in every row, IS THE sha256 OF THE DUMP (.gsa) THAT YtimjalhhigekpaaProg.lean LOADS. Nothing in Lean hashes anything: it is a label: what it is worth is what the hold of that sum in a sandbox is worth. -/
noncomputable def Try.pinned : Pinned := { name := "ytimjalhhigekpaa", sum := "a610fb0cfb198513754364fd5052be1592a912dc5a651bd3f50b555359fb8423", checked := Try.checked }
namespace Rows
def none {H : Type} : Left H := { results := [], args := [] }

/-- 'laws.FnValidShare': WHATEVER THE INPUT: true; the input reads as it did. -/
def fnValidShareSpec : ChangeSpec := { name := "fnValidShare", fn := fun _ => fun
  | [d] => { results := [.lit (.bool true)], args := [d] }
  | _ => none }
def fnValidShareRow : OpenClaim := { program := "ytimjalhhigekpaa", sum := "a610fb0cfb198513754364fd5052be1592a912dc5a651bd3f50b555359fb8423", func := "loop.example/connectionpool/laws.FnValidShare", spec := "fnValidShare", apart := false }
def FnValidShareSaid : Prop := fnValidShareRow.holds Try.pinned (OpenSpec.ofChange fnValidShareSpec)

/-- ITS FALSE NEIGHBOUR: 'it returns false'. Refute it at one input. -/
def fnValidShareWrong : ChangeSpec := { name := "fnValidShare", fn := fun _ => fun
  | [d] => { results := [.lit (.bool false)], args := [d] }
  | _ => none }
def FnValidShareWrongFalsely : Prop := fnValidShareRow.holds Try.pinned (OpenSpec.ofChange fnValidShareWrong)

/-- 'laws.FnValidShareLess': WHATEVER THE INPUT: true; the input reads as it did. -/
def fnValidShareLessSpec : ChangeSpec := { name := "fnValidShareLess", fn := fun _ => fun
  | [d] => { results := [.lit (.bool true)], args := [d] }
  | _ => none }
def fnValidShareLessRow : OpenClaim := { program := "ytimjalhhigekpaa", sum := "a610fb0cfb198513754364fd5052be1592a912dc5a651bd3f50b555359fb8423", func := "loop.example/connectionpool/laws.FnValidShareLess", spec := "fnValidShareLess", apart := false }
def FnValidShareLessSaid : Prop := fnValidShareLessRow.holds Try.pinned (OpenSpec.ofChange fnValidShareLessSpec)

/-- ITS FALSE NEIGHBOUR: 'it returns false'. Refute it at one input. -/
def fnValidShareLessWrong : ChangeSpec := { name := "fnValidShareLess", fn := fun _ => fun
  | [d] => { results := [.lit (.bool false)], args := [d] }
  | _ => none }
def FnValidShareLessWrongFalsely : Prop := fnValidShareLessRow.holds Try.pinned (OpenSpec.ofChange fnValidShareLessWrong)

/-- 'laws.FnTakeShare': WHATEVER THE INPUT: true; the input reads as it did. -/
def fnTakeShareSpec : ChangeSpec := { name := "fnTakeShare", fn := fun _ => fun
  | [d] => { results := [.lit (.bool true)], args := [d] }
  | _ => none }
def fnTakeShareRow : OpenClaim := { program := "ytimjalhhigekpaa", sum := "a610fb0cfb198513754364fd5052be1592a912dc5a651bd3f50b555359fb8423", func := "loop.example/connectionpool/laws.FnTakeShare", spec := "fnTakeShare", apart := false }
def FnTakeShareSaid : Prop := fnTakeShareRow.holds Try.pinned (OpenSpec.ofChange fnTakeShareSpec)

/-- ITS FALSE NEIGHBOUR: 'it returns false'. Refute it at one input. -/
def fnTakeShareWrong : ChangeSpec := { name := "fnTakeShare", fn := fun _ => fun
  | [d] => { results := [.lit (.bool false)], args := [d] }
  | _ => none }
def FnTakeShareWrongFalsely : Prop := fnTakeShareRow.holds Try.pinned (OpenSpec.ofChange fnTakeShareWrong)

/-- 'laws.FnGiveShare': WHATEVER THE INPUT: true; the input reads as it did. -/
def fnGiveShareSpec : ChangeSpec := { name := "fnGiveShare", fn := fun _ => fun
  | [d] => { results := [.lit (.bool true)], args := [d] }
  | _ => none }
def fnGiveShareRow : OpenClaim := { program := "ytimjalhhigekpaa", sum := "a610fb0cfb198513754364fd5052be1592a912dc5a651bd3f50b555359fb8423", func := "loop.example/connectionpool/laws.FnGiveShare", spec := "fnGiveShare", apart := false }
def FnGiveShareSaid : Prop := fnGiveShareRow.holds Try.pinned (OpenSpec.ofChange fnGiveShareSpec)

/-- ITS FALSE NEIGHBOUR: 'it returns false'. Refute it at one input. -/
def fnGiveShareWrong : ChangeSpec := { name := "fnGiveShare", fn := fun _ => fun
  | [d] => { results := [.lit (.bool false)], args := [d] }
  | _ => none }
def FnGiveShareWrongFalsely : Prop := fnGiveShareRow.holds Try.pinned (OpenSpec.ofChange fnGiveShareWrong)

/-- 'laws.FnGiveShareNone': WHATEVER THE INPUT: true; the input reads as it did. -/
def fnGiveShareNoneSpec : ChangeSpec := { name := "fnGiveShareNone", fn := fun _ => fun
  | [d] => { results := [.lit (.bool true)], args := [d] }
  | _ => none }
def fnGiveShareNoneRow : OpenClaim := { program := "ytimjalhhigekpaa", sum := "a610fb0cfb198513754364fd5052be1592a912dc5a651bd3f50b555359fb8423", func := "loop.example/connectionpool/laws.FnGiveShareNone", spec := "fnGiveShareNone", apart := false }
def FnGiveShareNoneSaid : Prop := fnGiveShareNoneRow.holds Try.pinned (OpenSpec.ofChange fnGiveShareNoneSpec)

/-- ITS FALSE NEIGHBOUR: 'it returns false'. Refute it at one input. -/
def fnGiveShareNoneWrong : ChangeSpec := { name := "fnGiveShareNone", fn := fun _ => fun
  | [d] => { results := [.lit (.bool false)], args := [d] }
  | _ => none }
def FnGiveShareNoneWrongFalsely : Prop := fnGiveShareNoneRow.holds Try.pinned (OpenSpec.ofChange fnGiveShareNoneWrong)

/-- 'laws.FnNextOwner': WHATEVER THE INPUT: true; the input reads as it did. -/
def fnNextOwnerSpec : ChangeSpec := { name := "fnNextOwner", fn := fun _ => fun
  | [d] => { results := [.lit (.bool true)], args := [d] }
  | _ => none }
def fnNextOwnerRow : OpenClaim := { program := "ytimjalhhigekpaa", sum := "a610fb0cfb198513754364fd5052be1592a912dc5a651bd3f50b555359fb8423", func := "loop.example/connectionpool/laws.FnNextOwner", spec := "fnNextOwner", apart := false }
def FnNextOwnerSaid : Prop := fnNextOwnerRow.holds Try.pinned (OpenSpec.ofChange fnNextOwnerSpec)

/-- ITS FALSE NEIGHBOUR: 'it returns false'. Refute it at one input. -/
def fnNextOwnerWrong : ChangeSpec := { name := "fnNextOwner", fn := fun _ => fun
  | [d] => { results := [.lit (.bool false)], args := [d] }
  | _ => none }
def FnNextOwnerWrongFalsely : Prop := fnNextOwnerRow.holds Try.pinned (OpenSpec.ofChange fnNextOwnerWrong)

/- THE SECOND FORM. 'bulk': how many values and letters a reading holds, each counted each time it is reached (what is shared counts as often as it is met; a slice's spare places count too). A statement '..UptoSaid' is the law's where the arguments, and the package variables that the reading takes, are together of bulk at most 1048576: NARROWER than '..Said'. Prove '..Said' where nothing that the law and all that it calls make is longer than what came in: it says more and counts as full. Else prove '..UptoSaid'. A law counts once. -/
mutual
def uptoBulk {H : Type} : DataW H → Nat
  | .lit (.string bytes) => bytes.length + 1
  | .lit _ => 1
  | .nil => 1
  | .ptr d => uptoBulk d + 1
  | .slice elems spare => uptoBulkAll elems + uptoBulkAll spare + 1
  | .agg parts => uptoBulkAll parts + 1
  | .iface _ d => uptoBulk d + 1
  | .map entries => uptoBulkEntries entries + 1
  | .held _ => 1
def uptoBulkAll {H : Type} : List (DataW H) → Nat
  | [] => 0
  | d :: r => uptoBulk d + uptoBulkAll r
def uptoBulkEntries {H : Type} : List (Lit × DataW H) → Nat
  | [] => 0
  | x :: r => uptoBulkEntry x + uptoBulkEntries r
def uptoBulkEntry {H : Type} : Lit × DataW H → Nat
  | (.string bytes, d) => bytes.length + uptoBulk d + 1
  | (_, d) => uptoBulk d + 1
 end
def uptoSmall : (H : Type) → List (DataW H) → Bool := fun _ ds => decide (uptoBulkAll ds ≤ 1048576)
def OpenSpec.upto (s : _root_.Go.ChangeSpec) : _root_.Go.OpenSpec := { _root_.Go.OpenSpec.ofChange s with cond := some uptoSmall }

/-- 'laws.FnValidShare', WHERE WHAT IT READS IS OF BULK AT MOST 1048576: true; the input reads as it did. -/
def fnValidShareUptoRow : OpenClaim := { program := "ytimjalhhigekpaa", sum := "a610fb0cfb198513754364fd5052be1592a912dc5a651bd3f50b555359fb8423", func := "loop.example/connectionpool/laws.FnValidShare", spec := "fnValidShare", apart := false, narrowed := true }
def FnValidShareUptoSaid : Prop := fnValidShareUptoRow.holds Try.pinned (OpenSpec.upto fnValidShareSpec)

/-- 'laws.FnValidShareLess', WHERE WHAT IT READS IS OF BULK AT MOST 1048576: true; the input reads as it did. -/
def fnValidShareLessUptoRow : OpenClaim := { program := "ytimjalhhigekpaa", sum := "a610fb0cfb198513754364fd5052be1592a912dc5a651bd3f50b555359fb8423", func := "loop.example/connectionpool/laws.FnValidShareLess", spec := "fnValidShareLess", apart := false, narrowed := true }
def FnValidShareLessUptoSaid : Prop := fnValidShareLessUptoRow.holds Try.pinned (OpenSpec.upto fnValidShareLessSpec)

/-- 'laws.FnTakeShare', WHERE WHAT IT READS IS OF BULK AT MOST 1048576: true; the input reads as it did. -/
def fnTakeShareUptoRow : OpenClaim := { program := "ytimjalhhigekpaa", sum := "a610fb0cfb198513754364fd5052be1592a912dc5a651bd3f50b555359fb8423", func := "loop.example/connectionpool/laws.FnTakeShare", spec := "fnTakeShare", apart := false, narrowed := true }
def FnTakeShareUptoSaid : Prop := fnTakeShareUptoRow.holds Try.pinned (OpenSpec.upto fnTakeShareSpec)

/-- 'laws.FnGiveShare', WHERE WHAT IT READS IS OF BULK AT MOST 1048576: true; the input reads as it did. -/
def fnGiveShareUptoRow : OpenClaim := { program := "ytimjalhhigekpaa", sum := "a610fb0cfb198513754364fd5052be1592a912dc5a651bd3f50b555359fb8423", func := "loop.example/connectionpool/laws.FnGiveShare", spec := "fnGiveShare", apart := false, narrowed := true }
def FnGiveShareUptoSaid : Prop := fnGiveShareUptoRow.holds Try.pinned (OpenSpec.upto fnGiveShareSpec)

/-- 'laws.FnGiveShareNone', WHERE WHAT IT READS IS OF BULK AT MOST 1048576: true; the input reads as it did. -/
def fnGiveShareNoneUptoRow : OpenClaim := { program := "ytimjalhhigekpaa", sum := "a610fb0cfb198513754364fd5052be1592a912dc5a651bd3f50b555359fb8423", func := "loop.example/connectionpool/laws.FnGiveShareNone", spec := "fnGiveShareNone", apart := false, narrowed := true }
def FnGiveShareNoneUptoSaid : Prop := fnGiveShareNoneUptoRow.holds Try.pinned (OpenSpec.upto fnGiveShareNoneSpec)

/-- 'laws.FnNextOwner', WHERE WHAT IT READS IS OF BULK AT MOST 1048576: true; the input reads as it did. -/
def fnNextOwnerUptoRow : OpenClaim := { program := "ytimjalhhigekpaa", sum := "a610fb0cfb198513754364fd5052be1592a912dc5a651bd3f50b555359fb8423", func := "loop.example/connectionpool/laws.FnNextOwner", spec := "fnNextOwner", apart := false, narrowed := true }
def FnNextOwnerUptoSaid : Prop := fnNextOwnerUptoRow.holds Try.pinned (OpenSpec.upto fnNextOwnerSpec)

end Rows
end Go.Proofs.Ytimjalhhigekpaa

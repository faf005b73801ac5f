/-
  No cell of these rows narrows 'for every input' (looked for: loops, veiled, ifaces, maps, wideKeys, modest, calm, conditions, laid).
  DERIVED. THE GIVEN ROWS OF THIS SEAT. 6 by the template 'for every input the law returns true; each argument reads behind the call as it read before'; 0 by the template 'total and deterministic' (their statements: YtolcnokmdohbaabTotals.lean).
  GIVEN WITH THE SEED: the statements are not yours to turn. If you find one false, say at which input.
  Laid BY PROGRAM, IN A SANDBOX (cutbox-rows.mjs): the forced cells as the released guide's own fill.sh prints them over the translation 3453cef431ccb01d… (all of the seat's roots in one cut). By AI agents, Wed Nov 11 2026. No macro, syntax, notation, axiom, sorry.
-/
import Derived.Test.YtolcnokmdohbaabChecked
import GoSem.Claim
import GoSem.ClaimJoined
import GoSem.ClaimMapViews
import Derived.JoinedTies
import Derived.KernelRfl
namespace Go.Proofs.Ytolcnokmdohbaab
/- THE CELL 'sum', in the pinned program and in every row, IS THE sha256 OF THE DUMP (.gsa) THAT YtolcnokmdohbaabProg.lean LOADS. Nothing in Lean hashes anything: it is a label: what it is worth is what the hold of that sum in a sandbox is worth. -/
noncomputable def Try.pinned : Pinned := { name := "ytolcnokmdohbaab", sum := "3453cef431ccb01d98374eb3b57afba1e8d292554efb3213953b5f471f93d988", checked := Try.checked }
namespace Rows
def none {H : Type} : Left H := { results := [], args := [] }

/-- 'laws.FnServeTimes': WHATEVER THE INPUT: true; the input reads as it did. -/
def fnServeTimesSpec : ChangeSpec := { name := "fnServeTimes", fn := fun _ => fun
  | [d] => { results := [.lit (.bool true)], args := [d] }
  | _ => none }
def fnServeTimesRow : OpenClaim := { program := "ytolcnokmdohbaab", sum := "3453cef431ccb01d98374eb3b57afba1e8d292554efb3213953b5f471f93d988", func := "loop.example/connectionpool/laws.FnServeTimes", spec := "fnServeTimes", apart := false }
def FnServeTimesSaid : Prop := fnServeTimesRow.holds Try.pinned (OpenSpec.ofChange fnServeTimesSpec)

/-- ITS FALSE NEIGHBOUR: 'it returns false'. Refute it at one input. -/
def fnServeTimesWrong : ChangeSpec := { name := "fnServeTimes", fn := fun _ => fun
  | [d] => { results := [.lit (.bool false)], args := [d] }
  | _ => none }
def FnServeTimesWrongFalsely : Prop := fnServeTimesRow.holds Try.pinned (OpenSpec.ofChange fnServeTimesWrong)

/-- 'laws.FnServeTimesMost': WHATEVER THE INPUT: true; the input reads as it did. -/
def fnServeTimesMostSpec : ChangeSpec := { name := "fnServeTimesMost", fn := fun _ => fun
  | [d] => { results := [.lit (.bool true)], args := [d] }
  | _ => none }
def fnServeTimesMostRow : OpenClaim := { program := "ytolcnokmdohbaab", sum := "3453cef431ccb01d98374eb3b57afba1e8d292554efb3213953b5f471f93d988", func := "loop.example/connectionpool/laws.FnServeTimesMost", spec := "fnServeTimesMost", apart := false }
def FnServeTimesMostSaid : Prop := fnServeTimesMostRow.holds Try.pinned (OpenSpec.ofChange fnServeTimesMostSpec)

/-- ITS FALSE NEIGHBOUR: 'it returns false'. Refute it at one input. -/
def fnServeTimesMostWrong : ChangeSpec := { name := "fnServeTimesMost", fn := fun _ => fun
  | [d] => { results := [.lit (.bool false)], args := [d] }
  | _ => none }
def FnServeTimesMostWrongFalsely : Prop := fnServeTimesMostRow.holds Try.pinned (OpenSpec.ofChange fnServeTimesMostWrong)

/-- 'laws.FnServeTimesShort': WHATEVER THE INPUT: true; the input reads as it did. -/
def fnServeTimesShortSpec : ChangeSpec := { name := "fnServeTimesShort", fn := fun _ => fun
  | [d] => { results := [.lit (.bool true)], args := [d] }
  | _ => none }
def fnServeTimesShortRow : OpenClaim := { program := "ytolcnokmdohbaab", sum := "3453cef431ccb01d98374eb3b57afba1e8d292554efb3213953b5f471f93d988", func := "loop.example/connectionpool/laws.FnServeTimesShort", spec := "fnServeTimesShort", apart := false }
def FnServeTimesShortSaid : Prop := fnServeTimesShortRow.holds Try.pinned (OpenSpec.ofChange fnServeTimesShortSpec)

/-- ITS FALSE NEIGHBOUR: 'it returns false'. Refute it at one input. -/
def fnServeTimesShortWrong : ChangeSpec := { name := "fnServeTimesShort", fn := fun _ => fun
  | [d] => { results := [.lit (.bool false)], args := [d] }
  | _ => none }
def FnServeTimesShortWrongFalsely : Prop := fnServeTimesShortRow.holds Try.pinned (OpenSpec.ofChange fnServeTimesShortWrong)

/-- 'laws.FnCountServed': WHATEVER THE INPUT: true; the input reads as it did. -/
def fnCountServedSpec : ChangeSpec := { name := "fnCountServed", fn := fun _ => fun
  | [d] => { results := [.lit (.bool true)], args := [d] }
  | _ => none }
def fnCountServedRow : OpenClaim := { program := "ytolcnokmdohbaab", sum := "3453cef431ccb01d98374eb3b57afba1e8d292554efb3213953b5f471f93d988", func := "loop.example/connectionpool/laws.FnCountServed", spec := "fnCountServed", apart := false }
def FnCountServedSaid : Prop := fnCountServedRow.holds Try.pinned (OpenSpec.ofChange fnCountServedSpec)

/-- ITS FALSE NEIGHBOUR: 'it returns false'. Refute it at one input. -/
def fnCountServedWrong : ChangeSpec := { name := "fnCountServed", fn := fun _ => fun
  | [d] => { results := [.lit (.bool false)], args := [d] }
  | _ => none }
def FnCountServedWrongFalsely : Prop := fnCountServedRow.holds Try.pinned (OpenSpec.ofChange fnCountServedWrong)

/-- 'laws.FnCountServedFirst': WHATEVER THE INPUT: true; the input reads as it did. -/
def fnCountServedFirstSpec : ChangeSpec := { name := "fnCountServedFirst", fn := fun _ => fun
  | [d] => { results := [.lit (.bool true)], args := [d] }
  | _ => none }
def fnCountServedFirstRow : OpenClaim := { program := "ytolcnokmdohbaab", sum := "3453cef431ccb01d98374eb3b57afba1e8d292554efb3213953b5f471f93d988", func := "loop.example/connectionpool/laws.FnCountServedFirst", spec := "fnCountServedFirst", apart := false }
def FnCountServedFirstSaid : Prop := fnCountServedFirstRow.holds Try.pinned (OpenSpec.ofChange fnCountServedFirstSpec)

/-- ITS FALSE NEIGHBOUR: 'it returns false'. Refute it at one input. -/
def fnCountServedFirstWrong : ChangeSpec := { name := "fnCountServedFirst", fn := fun _ => fun
  | [d] => { results := [.lit (.bool false)], args := [d] }
  | _ => none }
def FnCountServedFirstWrongFalsely : Prop := fnCountServedFirstRow.holds Try.pinned (OpenSpec.ofChange fnCountServedFirstWrong)

/-- 'laws.FnValidWishesMove': WHATEVER THE INPUT: true; the input reads as it did. -/
def fnValidWishesMoveSpec : ChangeSpec := { name := "fnValidWishesMove", fn := fun _ => fun
  | [d] => { results := [.lit (.bool true)], args := [d] }
  | _ => none }
def fnValidWishesMoveRow : OpenClaim := { program := "ytolcnokmdohbaab", sum := "3453cef431ccb01d98374eb3b57afba1e8d292554efb3213953b5f471f93d988", func := "loop.example/connectionpool/laws.FnValidWishesMove", spec := "fnValidWishesMove", apart := false }
def FnValidWishesMoveSaid : Prop := fnValidWishesMoveRow.holds Try.pinned (OpenSpec.ofChange fnValidWishesMoveSpec)

/-- ITS FALSE NEIGHBOUR: 'it returns false'. Refute it at one input. -/
def fnValidWishesMoveWrong : ChangeSpec := { name := "fnValidWishesMove", fn := fun _ => fun
  | [d] => { results := [.lit (.bool false)], args := [d] }
  | _ => none }
def FnValidWishesMoveWrongFalsely : Prop := fnValidWishesMoveRow.holds Try.pinned (OpenSpec.ofChange fnValidWishesMoveWrong)

/- THE SECOND FORM. 'bulk': how many values and letters a reading holds, each counted each time it is reached (what is shared counts as often as it is met; a slice's spare places count too). A statement '..UptoSaid' is the law's where the arguments, and the package variables that the reading takes, are together of bulk at most 1048576: NARROWER than '..Said'. Prove '..Said' where nothing that the law and all that it calls make is longer than what came in: it says more and counts as full. Else prove '..UptoSaid'. A law counts once. -/
mutual
def uptoBulk {H : Type} : DataW H → Nat
  | .lit (.string bytes) => bytes.length + 1
  | .lit _ => 1
  | .nil => 1
  | .ptr d => uptoBulk d + 1
  | .slice elems spare => uptoBulkAll elems + uptoBulkAll spare + 1
  | .agg parts => uptoBulkAll parts + 1
  | .iface _ d => uptoBulk d + 1
  | .map entries => uptoBulkEntries entries + 1
  | .held _ => 1
def uptoBulkAll {H : Type} : List (DataW H) → Nat
  | [] => 0
  | d :: r => uptoBulk d + uptoBulkAll r
def uptoBulkEntries {H : Type} : List (Lit × DataW H) → Nat
  | [] => 0
  | x :: r => uptoBulkEntry x + uptoBulkEntries r
def uptoBulkEntry {H : Type} : Lit × DataW H → Nat
  | (.string bytes, d) => bytes.length + uptoBulk d + 1
  | (_, d) => uptoBulk d + 1
 end
def uptoSmall : (H : Type) → List (DataW H) → Bool := fun _ ds => decide (uptoBulkAll ds ≤ 1048576)
def OpenSpec.upto (s : _root_.Go.ChangeSpec) : _root_.Go.OpenSpec := { _root_.Go.OpenSpec.ofChange s with cond := some uptoSmall }

/-- 'laws.FnServeTimes', WHERE WHAT IT READS IS OF BULK AT MOST 1048576: true; the input reads as it did. -/
def fnServeTimesUptoRow : OpenClaim := { program := "ytolcnokmdohbaab", sum := "3453cef431ccb01d98374eb3b57afba1e8d292554efb3213953b5f471f93d988", func := "loop.example/connectionpool/laws.FnServeTimes", spec := "fnServeTimes", apart := false, narrowed := true }
def FnServeTimesUptoSaid : Prop := fnServeTimesUptoRow.holds Try.pinned (OpenSpec.upto fnServeTimesSpec)

/-- 'laws.FnServeTimesMost', WHERE WHAT IT READS IS OF BULK AT MOST 1048576: true; the input reads as it did. -/
def fnServeTimesMostUptoRow : OpenClaim := { program := "ytolcnokmdohbaab", sum := "3453cef431ccb01d98374eb3b57afba1e8d292554efb3213953b5f471f93d988", func := "loop.example/connectionpool/laws.FnServeTimesMost", spec := "fnServeTimesMost", apart := false, narrowed := true }
def FnServeTimesMostUptoSaid : Prop := fnServeTimesMostUptoRow.holds Try.pinned (OpenSpec.upto fnServeTimesMostSpec)

/-- 'laws.FnServeTimesShort', WHERE WHAT IT READS IS OF BULK AT MOST 1048576: true; the input reads as it did. -/
def fnServeTimesShortUptoRow : OpenClaim := { program := "ytolcnokmdohbaab", sum := "3453cef431ccb01d98374eb3b57afba1e8d292554efb3213953b5f471f93d988", func := "loop.example/connectionpool/laws.FnServeTimesShort", spec := "fnServeTimesShort", apart := false, narrowed := true }
def FnServeTimesShortUptoSaid : Prop := fnServeTimesShortUptoRow.holds Try.pinned (OpenSpec.upto fnServeTimesShortSpec)

/-- 'laws.FnCountServed', WHERE WHAT IT READS IS OF BULK AT MOST 1048576: true; the input reads as it did. -/
def fnCountServedUptoRow : OpenClaim := { program := "ytolcnokmdohbaab", sum := "3453cef431ccb01d98374eb3b57afba1e8d292554efb3213953b5f471f93d988", func := "loop.example/connectionpool/laws.FnCountServed", spec := "fnCountServed", apart := false, narrowed := true }
def FnCountServedUptoSaid : Prop := fnCountServedUptoRow.holds Try.pinned (OpenSpec.upto fnCountServedSpec)

/-- 'laws.FnCountServedFirst', WHERE WHAT IT READS IS OF BULK AT MOST 1048576: true; the input reads as it did. -/
def fnCountServedFirstUptoRow : OpenClaim := { program := "ytolcnokmdohbaab", sum := "3453cef431ccb01d98374eb3b57afba1e8d292554efb3213953b5f471f93d988", func := "loop.example/connectionpool/laws.FnCountServedFirst", spec := "fnCountServedFirst", apart := false, narrowed := true }
def FnCountServedFirstUptoSaid : Prop := fnCountServedFirstUptoRow.holds Try.pinned (OpenSpec.upto fnCountServedFirstSpec)

/-- 'laws.FnValidWishesMove', WHERE WHAT IT READS IS OF BULK AT MOST 1048576: true; the input reads as it did. -/
def fnValidWishesMoveUptoRow : OpenClaim := { program := "ytolcnokmdohbaab", sum := "3453cef431ccb01d98374eb3b57afba1e8d292554efb3213953b5f471f93d988", func := "loop.example/connectionpool/laws.FnValidWishesMove", spec := "fnValidWishesMove", apart := false, narrowed := true }
def FnValidWishesMoveUptoSaid : Prop := fnValidWishesMoveUptoRow.holds Try.pinned (OpenSpec.upto fnValidWishesMoveSpec)

end Rows
end Go.Proofs.Ytolcnokmdohbaab

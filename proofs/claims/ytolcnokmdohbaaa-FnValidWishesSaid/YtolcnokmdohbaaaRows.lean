/-
  No cell of these rows narrows 'for every input' (looked for: loops, veiled, ifaces, maps, wideKeys, modest, calm, conditions, laid).
  DERIVED. THE GIVEN ROWS OF THIS SEAT. 6 by the template 'for every input the law returns true; each argument reads behind the call as it read before'; 0 by the template 'total and deterministic' (their statements: YtolcnokmdohbaaaTotals.lean).
  GIVEN WITH THE SEED: the statements are not yours to turn. If you find one false, say at which input.
  Laid BY PROGRAM, IN A SANDBOX (cutbox-rows.mjs): the forced cells as the released guide's own fill.sh prints them over the translation 6c7347e57047f4a1… (all of the seat's roots in one cut). By AI agents, Wed Nov 11 2026. No macro, syntax, notation, axiom, sorry.
-/
import Derived.Test.YtolcnokmdohbaaaChecked
import GoSem.Claim
import GoSem.ClaimJoined
import GoSem.ClaimMapViews
import Derived.JoinedTies
import Derived.KernelRfl
namespace Go.Proofs.Ytolcnokmdohbaaa
/- THE CELL 'sum', in the pinned program and in every row, IS THE sha256 OF THE DUMP (.gsa) THAT YtolcnokmdohbaaaProg.lean LOADS. Nothing in Lean hashes anything: it is a label: what it is worth is what the hold of that sum in a sandbox is worth. -/
noncomputable def Try.pinned : Pinned := { name := "ytolcnokmdohbaaa", sum := "6c7347e57047f4a119d83ca765092596d8c08ec7ded43e3894ba567b16b2c5ef", checked := Try.checked }
namespace Rows
def none {H : Type} : Left H := { results := [], args := [] }

/-- 'laws.FnExactValidWishes': WHATEVER THE INPUT: true; the input reads as it did. -/
def fnExactValidWishesSpec : ChangeSpec := { name := "fnExactValidWishes", fn := fun _ => fun
  | [d] => { results := [.lit (.bool true)], args := [d] }
  | _ => none }
def fnExactValidWishesRow : OpenClaim := { program := "ytolcnokmdohbaaa", sum := "6c7347e57047f4a119d83ca765092596d8c08ec7ded43e3894ba567b16b2c5ef", func := "loop.example/connectionpool/laws.FnExactValidWishes", spec := "fnExactValidWishes", apart := false }
def FnExactValidWishesSaid : Prop := fnExactValidWishesRow.holds Try.pinned (OpenSpec.ofChange fnExactValidWishesSpec)

/-- ITS FALSE NEIGHBOUR: 'it returns false'. Refute it at one input. -/
def fnExactValidWishesWrong : ChangeSpec := { name := "fnExactValidWishes", fn := fun _ => fun
  | [d] => { results := [.lit (.bool false)], args := [d] }
  | _ => none }
def FnExactValidWishesWrongFalsely : Prop := fnExactValidWishesRow.holds Try.pinned (OpenSpec.ofChange fnExactValidWishesWrong)

/-- 'laws.FnExactServeTimes': WHATEVER THE INPUT: true; the input reads as it did. -/
def fnExactServeTimesSpec : ChangeSpec := { name := "fnExactServeTimes", fn := fun _ => fun
  | [d1, d2] => { results := [.lit (.bool true)], args := [d1, d2] }
  | _ => none }
def fnExactServeTimesRow : OpenClaim := { program := "ytolcnokmdohbaaa", sum := "6c7347e57047f4a119d83ca765092596d8c08ec7ded43e3894ba567b16b2c5ef", func := "loop.example/connectionpool/laws.FnExactServeTimes", spec := "fnExactServeTimes", apart := false }
def FnExactServeTimesSaid : Prop := fnExactServeTimesRow.holds Try.pinned (OpenSpec.ofChange fnExactServeTimesSpec)

/-- ITS FALSE NEIGHBOUR: 'it returns false'. Refute it at one input. -/
def fnExactServeTimesWrong : ChangeSpec := { name := "fnExactServeTimes", fn := fun _ => fun
  | [d1, d2] => { results := [.lit (.bool false)], args := [d1, d2] }
  | _ => none }
def FnExactServeTimesWrongFalsely : Prop := fnExactServeTimesRow.holds Try.pinned (OpenSpec.ofChange fnExactServeTimesWrong)

/-- 'laws.FnExactCountServed': WHATEVER THE INPUT: true; the input reads as it did. -/
def fnExactCountServedSpec : ChangeSpec := { name := "fnExactCountServed", fn := fun _ => fun
  | [d1, d2] => { results := [.lit (.bool true)], args := [d1, d2] }
  | _ => none }
def fnExactCountServedRow : OpenClaim := { program := "ytolcnokmdohbaaa", sum := "6c7347e57047f4a119d83ca765092596d8c08ec7ded43e3894ba567b16b2c5ef", func := "loop.example/connectionpool/laws.FnExactCountServed", spec := "fnExactCountServed", apart := false }
def FnExactCountServedSaid : Prop := fnExactCountServedRow.holds Try.pinned (OpenSpec.ofChange fnExactCountServedSpec)

/-- ITS FALSE NEIGHBOUR: 'it returns false'. Refute it at one input. -/
def fnExactCountServedWrong : ChangeSpec := { name := "fnExactCountServed", fn := fun _ => fun
  | [d1, d2] => { results := [.lit (.bool false)], args := [d1, d2] }
  | _ => none }
def FnExactCountServedWrongFalsely : Prop := fnExactCountServedRow.holds Try.pinned (OpenSpec.ofChange fnExactCountServedWrong)

/-- 'laws.FnExactLongestWait': WHATEVER THE INPUT: true; the input reads as it did. -/
def fnExactLongestWaitSpec : ChangeSpec := { name := "fnExactLongestWait", fn := fun _ => fun
  | [d1, d2] => { results := [.lit (.bool true)], args := [d1, d2] }
  | _ => none }
def fnExactLongestWaitRow : OpenClaim := { program := "ytolcnokmdohbaaa", sum := "6c7347e57047f4a119d83ca765092596d8c08ec7ded43e3894ba567b16b2c5ef", func := "loop.example/connectionpool/laws.FnExactLongestWait", spec := "fnExactLongestWait", apart := false }
def FnExactLongestWaitSaid : Prop := fnExactLongestWaitRow.holds Try.pinned (OpenSpec.ofChange fnExactLongestWaitSpec)

/-- ITS FALSE NEIGHBOUR: 'it returns false'. Refute it at one input. -/
def fnExactLongestWaitWrong : ChangeSpec := { name := "fnExactLongestWait", fn := fun _ => fun
  | [d1, d2] => { results := [.lit (.bool false)], args := [d1, d2] }
  | _ => none }
def FnExactLongestWaitWrongFalsely : Prop := fnExactLongestWaitRow.holds Try.pinned (OpenSpec.ofChange fnExactLongestWaitWrong)

/-- 'laws.FnExactConnsFor': WHATEVER THE INPUT: true; the input reads as it did. -/
def fnExactConnsForSpec : ChangeSpec := { name := "fnExactConnsFor", fn := fun _ => fun
  | [d] => { results := [.lit (.bool true)], args := [d] }
  | _ => none }
def fnExactConnsForRow : OpenClaim := { program := "ytolcnokmdohbaaa", sum := "6c7347e57047f4a119d83ca765092596d8c08ec7ded43e3894ba567b16b2c5ef", func := "loop.example/connectionpool/laws.FnExactConnsFor", spec := "fnExactConnsFor", apart := false }
def FnExactConnsForSaid : Prop := fnExactConnsForRow.holds Try.pinned (OpenSpec.ofChange fnExactConnsForSpec)

/-- ITS FALSE NEIGHBOUR: 'it returns false'. Refute it at one input. -/
def fnExactConnsForWrong : ChangeSpec := { name := "fnExactConnsFor", fn := fun _ => fun
  | [d] => { results := [.lit (.bool false)], args := [d] }
  | _ => none }
def FnExactConnsForWrongFalsely : Prop := fnExactConnsForRow.holds Try.pinned (OpenSpec.ofChange fnExactConnsForWrong)

/-- 'laws.FnValidWishes': WHATEVER THE INPUT: true; the input reads as it did. -/
def fnValidWishesSpec : ChangeSpec := { name := "fnValidWishes", fn := fun _ => fun
  | [d] => { results := [.lit (.bool true)], args := [d] }
  | _ => none }
def fnValidWishesRow : OpenClaim := { program := "ytolcnokmdohbaaa", sum := "6c7347e57047f4a119d83ca765092596d8c08ec7ded43e3894ba567b16b2c5ef", func := "loop.example/connectionpool/laws.FnValidWishes", spec := "fnValidWishes", apart := false }
def FnValidWishesSaid : Prop := fnValidWishesRow.holds Try.pinned (OpenSpec.ofChange fnValidWishesSpec)

/-- ITS FALSE NEIGHBOUR: 'it returns false'. Refute it at one input. -/
def fnValidWishesWrong : ChangeSpec := { name := "fnValidWishes", fn := fun _ => fun
  | [d] => { results := [.lit (.bool false)], args := [d] }
  | _ => none }
def FnValidWishesWrongFalsely : Prop := fnValidWishesRow.holds Try.pinned (OpenSpec.ofChange fnValidWishesWrong)

/- THE SECOND FORM. 'bulk': how many values and letters a reading holds, each counted each time it is reached (what is shared counts as often as it is met; a slice's spare places count too). A statement '..UptoSaid' is the law's where the arguments, and the package variables that the reading takes, are together of bulk at most 1048576: NARROWER than '..Said'. Prove '..Said' where nothing that the law and all that it calls make is longer than what came in: it says more and counts as full. Else prove '..UptoSaid'. A law counts once. -/
mutual
def uptoBulk {H : Type} : DataW H → Nat
  | .lit (.string bytes) => bytes.length + 1
  | .lit _ => 1
  | .nil => 1
  | .ptr d => uptoBulk d + 1
  | .slice elems spare => uptoBulkAll elems + uptoBulkAll spare + 1
  | .agg parts => uptoBulkAll parts + 1
  | .iface _ d => uptoBulk d + 1
  | .map entries => uptoBulkEntries entries + 1
  | .held _ => 1
def uptoBulkAll {H : Type} : List (DataW H) → Nat
  | [] => 0
  | d :: r => uptoBulk d + uptoBulkAll r
def uptoBulkEntries {H : Type} : List (Lit × DataW H) → Nat
  | [] => 0
  | x :: r => uptoBulkEntry x + uptoBulkEntries r
def uptoBulkEntry {H : Type} : Lit × DataW H → Nat
  | (.string bytes, d) => bytes.length + uptoBulk d + 1
  | (_, d) => uptoBulk d + 1
 end
def uptoSmall : (H : Type) → List (DataW H) → Bool := fun _ ds => decide (uptoBulkAll ds ≤ 1048576)
def OpenSpec.upto (s : _root_.Go.ChangeSpec) : _root_.Go.OpenSpec := { _root_.Go.OpenSpec.ofChange s with cond := some uptoSmall }

/-- 'laws.FnExactValidWishes', WHERE WHAT IT READS IS OF BULK AT MOST 1048576: true; the input reads as it did. -/
def fnExactValidWishesUptoRow : OpenClaim := { program := "ytolcnokmdohbaaa", sum := "6c7347e57047f4a119d83ca765092596d8c08ec7ded43e3894ba567b16b2c5ef", func := "loop.example/connectionpool/laws.FnExactValidWishes", spec := "fnExactValidWishes", apart := false, narrowed := true }
def FnExactValidWishesUptoSaid : Prop := fnExactValidWishesUptoRow.holds Try.pinned (OpenSpec.upto fnExactValidWishesSpec)

/-- 'laws.FnExactServeTimes', WHERE WHAT IT READS IS OF BULK AT MOST 1048576: true; the input reads as it did. -/
def fnExactServeTimesUptoRow : OpenClaim := { program := "ytolcnokmdohbaaa", sum := "6c7347e57047f4a119d83ca765092596d8c08ec7ded43e3894ba567b16b2c5ef", func := "loop.example/connectionpool/laws.FnExactServeTimes", spec := "fnExactServeTimes", apart := false, narrowed := true }
def FnExactServeTimesUptoSaid : Prop := fnExactServeTimesUptoRow.holds Try.pinned (OpenSpec.upto fnExactServeTimesSpec)

/-- 'laws.FnExactCountServed', WHERE WHAT IT READS IS OF BULK AT MOST 1048576: true; the input reads as it did. -/
def fnExactCountServedUptoRow : OpenClaim := { program := "ytolcnokmdohbaaa", sum := "6c7347e57047f4a119d83ca765092596d8c08ec7ded43e3894ba567b16b2c5ef", func := "loop.example/connectionpool/laws.FnExactCountServed", spec := "fnExactCountServed", apart := false, narrowed := true }
def FnExactCountServedUptoSaid : Prop := fnExactCountServedUptoRow.holds Try.pinned (OpenSpec.upto fnExactCountServedSpec)

/-- 'laws.FnExactLongestWait', WHERE WHAT IT READS IS OF BULK AT MOST 1048576: true; the input reads as it did. -/
def fnExactLongestWaitUptoRow : OpenClaim := { program := "ytolcnokmdohbaaa", sum := "6c7347e57047f4a119d83ca765092596d8c08ec7ded43e3894ba567b16b2c5ef", func := "loop.example/connectionpool/laws.FnExactLongestWait", spec := "fnExactLongestWait", apart := false, narrowed := true }
def FnExactLongestWaitUptoSaid : Prop := fnExactLongestWaitUptoRow.holds Try.pinned (OpenSpec.upto fnExactLongestWaitSpec)

/-- 'laws.FnExactConnsFor', WHERE WHAT IT READS IS OF BULK AT MOST 1048576: true; the input reads as it did. -/
def fnExactConnsForUptoRow : OpenClaim := { program := "ytolcnokmdohbaaa", sum := "6c7347e57047f4a119d83ca765092596d8c08ec7ded43e3894ba567b16b2c5ef", func := "loop.example/connectionpool/laws.FnExactConnsFor", spec := "fnExactConnsFor", apart := false, narrowed := true }
def FnExactConnsForUptoSaid : Prop := fnExactConnsForUptoRow.holds Try.pinned (OpenSpec.upto fnExactConnsForSpec)

/-- 'laws.FnValidWishes', WHERE WHAT IT READS IS OF BULK AT MOST 1048576: true; the input reads as it did. -/
def fnValidWishesUptoRow : OpenClaim := { program := "ytolcnokmdohbaaa", sum := "6c7347e57047f4a119d83ca765092596d8c08ec7ded43e3894ba567b16b2c5ef", func := "loop.example/connectionpool/laws.FnValidWishes", spec := "fnValidWishes", apart := false, narrowed := true }
def FnValidWishesUptoSaid : Prop := fnValidWishesUptoRow.holds Try.pinned (OpenSpec.upto fnValidWishesSpec)

end Rows
end Go.Proofs.Ytolcnokmdohbaaa

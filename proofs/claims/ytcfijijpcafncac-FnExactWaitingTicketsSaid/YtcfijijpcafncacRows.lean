/-
  No cell of these rows narrows 'for every input' (looked for: loops, veiled, ifaces, maps, wideKeys, modest, calm, conditions, laid).
  DERIVED. THE GIVEN ROWS OF THIS SEAT. 6 by the template 'for every input the law returns true; each argument reads behind the call as it read before'; 0 by the template 'total and deterministic' (their statements: YtcfijijpcafncacTotals.lean).
  GIVEN WITH THE SEED: the statements are not yours to turn. If you find one false, say at which input.
  Laid BY PROGRAM, IN A SANDBOX (cutbox-rows.mjs): the forced cells as the released guide's own fill.sh prints them over the translation 0f24145c9d80f39e… (all of the seat's roots in one cut). By AI agents, Wed Nov 11 2026. No macro, syntax, notation, axiom, sorry.
-/
import Derived.Test.YtcfijijpcafncacChecked
import GoSem.Claim
import GoSem.ClaimJoined
import GoSem.ClaimMapViews
import Derived.JoinedTies
import Derived.KernelRfl
namespace Go.Proofs.Ytcfijijpcafncac
/- THE CELL 'sum', in the pinned program and in every row, IS THE sha256 OF THE DUMP (.gsa) THAT YtcfijijpcafncacProg.lean LOADS. Nothing in Lean hashes anything: it is a label: what it is worth is what the hold of that sum in a sandbox is worth. -/
noncomputable def Try.pinned : Pinned := { name := "ytcfijijpcafncac", sum := "0f24145c9d80f39eee0552ce4bb3abd6dd3ae015f5bdb1ca236c1cc587da2379", checked := Try.checked }
namespace Rows
def none {H : Type} : Left H := { results := [], args := [] }

/-- 'laws.FnExactValidLine': WHATEVER THE INPUT: true; the input reads as it did. -/
def fnExactValidLineSpec : ChangeSpec := { name := "fnExactValidLine", fn := fun _ => fun
  | [d] => { results := [.lit (.bool true)], args := [d] }
  | _ => none }
def fnExactValidLineRow : OpenClaim := { program := "ytcfijijpcafncac", sum := "0f24145c9d80f39eee0552ce4bb3abd6dd3ae015f5bdb1ca236c1cc587da2379", func := "loop.example/connectionpool/laws.FnExactValidLine", spec := "fnExactValidLine", apart := false }
def FnExactValidLineSaid : Prop := fnExactValidLineRow.holds Try.pinned (OpenSpec.ofChange fnExactValidLineSpec)

/-- ITS FALSE NEIGHBOUR: 'it returns false'. Refute it at one input. -/
def fnExactValidLineWrong : ChangeSpec := { name := "fnExactValidLine", fn := fun _ => fun
  | [d] => { results := [.lit (.bool false)], args := [d] }
  | _ => none }
def FnExactValidLineWrongFalsely : Prop := fnExactValidLineRow.holds Try.pinned (OpenSpec.ofChange fnExactValidLineWrong)

/-- 'laws.FnExactTakeTicket': WHATEVER THE INPUT: true; the input reads as it did. -/
def fnExactTakeTicketSpec : ChangeSpec := { name := "fnExactTakeTicket", fn := fun _ => fun
  | [d] => { results := [.lit (.bool true)], args := [d] }
  | _ => none }
def fnExactTakeTicketRow : OpenClaim := { program := "ytcfijijpcafncac", sum := "0f24145c9d80f39eee0552ce4bb3abd6dd3ae015f5bdb1ca236c1cc587da2379", func := "loop.example/connectionpool/laws.FnExactTakeTicket", spec := "fnExactTakeTicket", apart := false }
def FnExactTakeTicketSaid : Prop := fnExactTakeTicketRow.holds Try.pinned (OpenSpec.ofChange fnExactTakeTicketSpec)

/-- ITS FALSE NEIGHBOUR: 'it returns false'. Refute it at one input. -/
def fnExactTakeTicketWrong : ChangeSpec := { name := "fnExactTakeTicket", fn := fun _ => fun
  | [d] => { results := [.lit (.bool false)], args := [d] }
  | _ => none }
def FnExactTakeTicketWrongFalsely : Prop := fnExactTakeTicketRow.holds Try.pinned (OpenSpec.ofChange fnExactTakeTicketWrong)

/-- 'laws.FnExactWaitingTickets': WHATEVER THE INPUT: true; the input reads as it did. -/
def fnExactWaitingTicketsSpec : ChangeSpec := { name := "fnExactWaitingTickets", fn := fun _ => fun
  | [d] => { results := [.lit (.bool true)], args := [d] }
  | _ => none }
def fnExactWaitingTicketsRow : OpenClaim := { program := "ytcfijijpcafncac", sum := "0f24145c9d80f39eee0552ce4bb3abd6dd3ae015f5bdb1ca236c1cc587da2379", func := "loop.example/connectionpool/laws.FnExactWaitingTickets", spec := "fnExactWaitingTickets", apart := false }
def FnExactWaitingTicketsSaid : Prop := fnExactWaitingTicketsRow.holds Try.pinned (OpenSpec.ofChange fnExactWaitingTicketsSpec)

/-- ITS FALSE NEIGHBOUR: 'it returns false'. Refute it at one input. -/
def fnExactWaitingTicketsWrong : ChangeSpec := { name := "fnExactWaitingTickets", fn := fun _ => fun
  | [d] => { results := [.lit (.bool false)], args := [d] }
  | _ => none }
def FnExactWaitingTicketsWrongFalsely : Prop := fnExactWaitingTicketsRow.holds Try.pinned (OpenSpec.ofChange fnExactWaitingTicketsWrong)

/-- 'laws.FnExactLeaveLine': WHATEVER THE INPUT: true; the input reads as it did. -/
def fnExactLeaveLineSpec : ChangeSpec := { name := "fnExactLeaveLine", fn := fun _ => fun
  | [d1, d2] => { results := [.lit (.bool true)], args := [d1, d2] }
  | _ => none }
def fnExactLeaveLineRow : OpenClaim := { program := "ytcfijijpcafncac", sum := "0f24145c9d80f39eee0552ce4bb3abd6dd3ae015f5bdb1ca236c1cc587da2379", func := "loop.example/connectionpool/laws.FnExactLeaveLine", spec := "fnExactLeaveLine", apart := false }
def FnExactLeaveLineSaid : Prop := fnExactLeaveLineRow.holds Try.pinned (OpenSpec.ofChange fnExactLeaveLineSpec)

/-- ITS FALSE NEIGHBOUR: 'it returns false'. Refute it at one input. -/
def fnExactLeaveLineWrong : ChangeSpec := { name := "fnExactLeaveLine", fn := fun _ => fun
  | [d1, d2] => { results := [.lit (.bool false)], args := [d1, d2] }
  | _ => none }
def FnExactLeaveLineWrongFalsely : Prop := fnExactLeaveLineRow.holds Try.pinned (OpenSpec.ofChange fnExactLeaveLineWrong)

/-- 'laws.FnExactCallNext': WHATEVER THE INPUT: true; the input reads as it did. -/
def fnExactCallNextSpec : ChangeSpec := { name := "fnExactCallNext", fn := fun _ => fun
  | [d] => { results := [.lit (.bool true)], args := [d] }
  | _ => none }
def fnExactCallNextRow : OpenClaim := { program := "ytcfijijpcafncac", sum := "0f24145c9d80f39eee0552ce4bb3abd6dd3ae015f5bdb1ca236c1cc587da2379", func := "loop.example/connectionpool/laws.FnExactCallNext", spec := "fnExactCallNext", apart := false }
def FnExactCallNextSaid : Prop := fnExactCallNextRow.holds Try.pinned (OpenSpec.ofChange fnExactCallNextSpec)

/-- ITS FALSE NEIGHBOUR: 'it returns false'. Refute it at one input. -/
def fnExactCallNextWrong : ChangeSpec := { name := "fnExactCallNext", fn := fun _ => fun
  | [d] => { results := [.lit (.bool false)], args := [d] }
  | _ => none }
def FnExactCallNextWrongFalsely : Prop := fnExactCallNextRow.holds Try.pinned (OpenSpec.ofChange fnExactCallNextWrong)

/-- 'laws.FnExactPlaceInLine': WHATEVER THE INPUT: true; the input reads as it did. -/
def fnExactPlaceInLineSpec : ChangeSpec := { name := "fnExactPlaceInLine", fn := fun _ => fun
  | [d1, d2] => { results := [.lit (.bool true)], args := [d1, d2] }
  | _ => none }
def fnExactPlaceInLineRow : OpenClaim := { program := "ytcfijijpcafncac", sum := "0f24145c9d80f39eee0552ce4bb3abd6dd3ae015f5bdb1ca236c1cc587da2379", func := "loop.example/connectionpool/laws.FnExactPlaceInLine", spec := "fnExactPlaceInLine", apart := false }
def FnExactPlaceInLineSaid : Prop := fnExactPlaceInLineRow.holds Try.pinned (OpenSpec.ofChange fnExactPlaceInLineSpec)

/-- ITS FALSE NEIGHBOUR: 'it returns false'. Refute it at one input. -/
def fnExactPlaceInLineWrong : ChangeSpec := { name := "fnExactPlaceInLine", fn := fun _ => fun
  | [d1, d2] => { results := [.lit (.bool false)], args := [d1, d2] }
  | _ => none }
def FnExactPlaceInLineWrongFalsely : Prop := fnExactPlaceInLineRow.holds Try.pinned (OpenSpec.ofChange fnExactPlaceInLineWrong)

/- THE SECOND FORM. 'bulk': how many values and letters a reading holds, each counted each time it is reached (what is shared counts as often as it is met; a slice's spare places count too). A statement '..UptoSaid' is the law's where the arguments, and the package variables that the reading takes, are together of bulk at most 1048576: NARROWER than '..Said'. Prove '..Said' where nothing that the law and all that it calls make is longer than what came in: it says more and counts as full. Else prove '..UptoSaid'. A law counts once. -/
mutual
def uptoBulk {H : Type} : DataW H → Nat
  | .lit (.string bytes) => bytes.length + 1
  | .lit _ => 1
  | .nil => 1
  | .ptr d => uptoBulk d + 1
  | .slice elems spare => uptoBulkAll elems + uptoBulkAll spare + 1
  | .agg parts => uptoBulkAll parts + 1
  | .iface _ d => uptoBulk d + 1
  | .map entries => uptoBulkEntries entries + 1
  | .held _ => 1
def uptoBulkAll {H : Type} : List (DataW H) → Nat
  | [] => 0
  | d :: r => uptoBulk d + uptoBulkAll r
def uptoBulkEntries {H : Type} : List (Lit × DataW H) → Nat
  | [] => 0
  | x :: r => uptoBulkEntry x + uptoBulkEntries r
def uptoBulkEntry {H : Type} : Lit × DataW H → Nat
  | (.string bytes, d) => bytes.length + uptoBulk d + 1
  | (_, d) => uptoBulk d + 1
 end
def uptoSmall : (H : Type) → List (DataW H) → Bool := fun _ ds => decide (uptoBulkAll ds ≤ 1048576)
def OpenSpec.upto (s : _root_.Go.ChangeSpec) : _root_.Go.OpenSpec := { _root_.Go.OpenSpec.ofChange s with cond := some uptoSmall }

/-- 'laws.FnExactValidLine', WHERE WHAT IT READS IS OF BULK AT MOST 1048576: true; the input reads as it did. -/
def fnExactValidLineUptoRow : OpenClaim := { program := "ytcfijijpcafncac", sum := "0f24145c9d80f39eee0552ce4bb3abd6dd3ae015f5bdb1ca236c1cc587da2379", func := "loop.example/connectionpool/laws.FnExactValidLine", spec := "fnExactValidLine", apart := false, narrowed := true }
def FnExactValidLineUptoSaid : Prop := fnExactValidLineUptoRow.holds Try.pinned (OpenSpec.upto fnExactValidLineSpec)

/-- 'laws.FnExactTakeTicket', WHERE WHAT IT READS IS OF BULK AT MOST 1048576: true; the input reads as it did. -/
def fnExactTakeTicketUptoRow : OpenClaim := { program := "ytcfijijpcafncac", sum := "0f24145c9d80f39eee0552ce4bb3abd6dd3ae015f5bdb1ca236c1cc587da2379", func := "loop.example/connectionpool/laws.FnExactTakeTicket", spec := "fnExactTakeTicket", apart := false, narrowed := true }
def FnExactTakeTicketUptoSaid : Prop := fnExactTakeTicketUptoRow.holds Try.pinned (OpenSpec.upto fnExactTakeTicketSpec)

/-- 'laws.FnExactWaitingTickets', WHERE WHAT IT READS IS OF BULK AT MOST 1048576: true; the input reads as it did. -/
def fnExactWaitingTicketsUptoRow : OpenClaim := { program := "ytcfijijpcafncac", sum := "0f24145c9d80f39eee0552ce4bb3abd6dd3ae015f5bdb1ca236c1cc587da2379", func := "loop.example/connectionpool/laws.FnExactWaitingTickets", spec := "fnExactWaitingTickets", apart := false, narrowed := true }
def FnExactWaitingTicketsUptoSaid : Prop := fnExactWaitingTicketsUptoRow.holds Try.pinned (OpenSpec.upto fnExactWaitingTicketsSpec)

/-- 'laws.FnExactLeaveLine', WHERE WHAT IT READS IS OF BULK AT MOST 1048576: true; the input reads as it did. -/
def fnExactLeaveLineUptoRow : OpenClaim := { program := "ytcfijijpcafncac", sum := "0f24145c9d80f39eee0552ce4bb3abd6dd3ae015f5bdb1ca236c1cc587da2379", func := "loop.example/connectionpool/laws.FnExactLeaveLine", spec := "fnExactLeaveLine", apart := false, narrowed := true }
def FnExactLeaveLineUptoSaid : Prop := fnExactLeaveLineUptoRow.holds Try.pinned (OpenSpec.upto fnExactLeaveLineSpec)

/-- 'laws.FnExactCallNext', WHERE WHAT IT READS IS OF BULK AT MOST 1048576: true; the input reads as it did. -/
def fnExactCallNextUptoRow : OpenClaim := { program := "ytcfijijpcafncac", sum := "0f24145c9d80f39eee0552ce4bb3abd6dd3ae015f5bdb1ca236c1cc587da2379", func := "loop.example/connectionpool/laws.FnExactCallNext", spec := "fnExactCallNext", apart := false, narrowed := true }
def FnExactCallNextUptoSaid : Prop := fnExactCallNextUptoRow.holds Try.pinned (OpenSpec.upto fnExactCallNextSpec)

/-- 'laws.FnExactPlaceInLine', WHERE WHAT IT READS IS OF BULK AT MOST 1048576: true; the input reads as it did. -/
def fnExactPlaceInLineUptoRow : OpenClaim := { program := "ytcfijijpcafncac", sum := "0f24145c9d80f39eee0552ce4bb3abd6dd3ae015f5bdb1ca236c1cc587da2379", func := "loop.example/connectionpool/laws.FnExactPlaceInLine", spec := "fnExactPlaceInLine", apart := false, narrowed := true }
def FnExactPlaceInLineUptoSaid : Prop := fnExactPlaceInLineUptoRow.holds Try.pinned (OpenSpec.upto fnExactPlaceInLineSpec)

end Rows
end Go.Proofs.Ytcfijijpcafncac

/-
  No cell of these rows narrows 'for every input' (looked for: loops, veiled, ifaces, maps, wideKeys, modest, calm, conditions, laid).
  DERIVED. THE GIVEN ROWS OF THIS SEAT. 7 by the template 'for every input the law returns true; each argument reads behind the call as it read before'; 0 by the template 'total and deterministic' (their statements: YtcfijijpcafncaaTotals.lean).
  GIVEN WITH THE SEED: the statements are not yours to turn. If you find one false, say at which input.
  Laid BY PROGRAM, IN A SANDBOX (cutbox-rows.mjs): the forced cells as the released guide's own fill.sh prints them over the translation d05745848b412783… (all of the seat's roots in one cut). By AI agents, Wed Nov 11 2026. No macro, syntax, notation, axiom, sorry.
-/
import Derived.Test.YtcfijijpcafncaaChecked
import GoSem.Claim
import GoSem.ClaimJoined
import GoSem.ClaimMapViews
import Derived.JoinedTies
import Derived.KernelRfl
namespace Go.Proofs.Ytcfijijpcafncaa
/- THE CELL 'sum', in the pinned program and in every row, IS THE sha256 OF THE DUMP (.gsa) THAT YtcfijijpcafncaaProg.lean LOADS. Nothing in Lean hashes anything: it is a label: what it is worth is what the hold of that sum in a sandbox is worth. -/
noncomputable def Try.pinned : Pinned := { name := "ytcfijijpcafncaa", sum := "d05745848b412783bd407a883b985b228012207c19168c682d51d72c9f47f03d", checked := Try.checked }
namespace Rows
def none {H : Type} : Left H := { results := [], args := [] }

/-- 'laws.FnValidLine': WHATEVER THE INPUT: true; the input reads as it did. -/
def fnValidLineSpec : ChangeSpec := { name := "fnValidLine", fn := fun _ => fun
  | [d] => { results := [.lit (.bool true)], args := [d] }
  | _ => none }
def fnValidLineRow : OpenClaim := { program := "ytcfijijpcafncaa", sum := "d05745848b412783bd407a883b985b228012207c19168c682d51d72c9f47f03d", func := "loop.example/connectionpool/laws.FnValidLine", spec := "fnValidLine", apart := false }
def FnValidLineSaid : Prop := fnValidLineRow.holds Try.pinned (OpenSpec.ofChange fnValidLineSpec)

/-- ITS FALSE NEIGHBOUR: 'it returns false'. Refute it at one input. -/
def fnValidLineWrong : ChangeSpec := { name := "fnValidLine", fn := fun _ => fun
  | [d] => { results := [.lit (.bool false)], args := [d] }
  | _ => none }
def FnValidLineWrongFalsely : Prop := fnValidLineRow.holds Try.pinned (OpenSpec.ofChange fnValidLineWrong)

/-- 'laws.FnTakeTicket': WHATEVER THE INPUT: true; the input reads as it did. -/
def fnTakeTicketSpec : ChangeSpec := { name := "fnTakeTicket", fn := fun _ => fun
  | [d] => { results := [.lit (.bool true)], args := [d] }
  | _ => none }
def fnTakeTicketRow : OpenClaim := { program := "ytcfijijpcafncaa", sum := "d05745848b412783bd407a883b985b228012207c19168c682d51d72c9f47f03d", func := "loop.example/connectionpool/laws.FnTakeTicket", spec := "fnTakeTicket", apart := false }
def FnTakeTicketSaid : Prop := fnTakeTicketRow.holds Try.pinned (OpenSpec.ofChange fnTakeTicketSpec)

/-- ITS FALSE NEIGHBOUR: 'it returns false'. Refute it at one input. -/
def fnTakeTicketWrong : ChangeSpec := { name := "fnTakeTicket", fn := fun _ => fun
  | [d] => { results := [.lit (.bool false)], args := [d] }
  | _ => none }
def FnTakeTicketWrongFalsely : Prop := fnTakeTicketRow.holds Try.pinned (OpenSpec.ofChange fnTakeTicketWrong)

/-- 'laws.FnTakeTicketLeave': WHATEVER THE INPUT: true; the input reads as it did. -/
def fnTakeTicketLeaveSpec : ChangeSpec := { name := "fnTakeTicketLeave", fn := fun _ => fun
  | [d] => { results := [.lit (.bool true)], args := [d] }
  | _ => none }
def fnTakeTicketLeaveRow : OpenClaim := { program := "ytcfijijpcafncaa", sum := "d05745848b412783bd407a883b985b228012207c19168c682d51d72c9f47f03d", func := "loop.example/connectionpool/laws.FnTakeTicketLeave", spec := "fnTakeTicketLeave", apart := false }
def FnTakeTicketLeaveSaid : Prop := fnTakeTicketLeaveRow.holds Try.pinned (OpenSpec.ofChange fnTakeTicketLeaveSpec)

/-- ITS FALSE NEIGHBOUR: 'it returns false'. Refute it at one input. -/
def fnTakeTicketLeaveWrong : ChangeSpec := { name := "fnTakeTicketLeave", fn := fun _ => fun
  | [d] => { results := [.lit (.bool false)], args := [d] }
  | _ => none }
def FnTakeTicketLeaveWrongFalsely : Prop := fnTakeTicketLeaveRow.holds Try.pinned (OpenSpec.ofChange fnTakeTicketLeaveWrong)

/-- 'laws.FnWaitingTickets': WHATEVER THE INPUT: true; the input reads as it did. -/
def fnWaitingTicketsSpec : ChangeSpec := { name := "fnWaitingTickets", fn := fun _ => fun
  | [d] => { results := [.lit (.bool true)], args := [d] }
  | _ => none }
def fnWaitingTicketsRow : OpenClaim := { program := "ytcfijijpcafncaa", sum := "d05745848b412783bd407a883b985b228012207c19168c682d51d72c9f47f03d", func := "loop.example/connectionpool/laws.FnWaitingTickets", spec := "fnWaitingTickets", apart := false }
def FnWaitingTicketsSaid : Prop := fnWaitingTicketsRow.holds Try.pinned (OpenSpec.ofChange fnWaitingTicketsSpec)

/-- ITS FALSE NEIGHBOUR: 'it returns false'. Refute it at one input. -/
def fnWaitingTicketsWrong : ChangeSpec := { name := "fnWaitingTickets", fn := fun _ => fun
  | [d] => { results := [.lit (.bool false)], args := [d] }
  | _ => none }
def FnWaitingTicketsWrongFalsely : Prop := fnWaitingTicketsRow.holds Try.pinned (OpenSpec.ofChange fnWaitingTicketsWrong)

/-- 'laws.FnLeaveLine': WHATEVER THE INPUT: true; the input reads as it did. -/
def fnLeaveLineSpec : ChangeSpec := { name := "fnLeaveLine", fn := fun _ => fun
  | [d] => { results := [.lit (.bool true)], args := [d] }
  | _ => none }
def fnLeaveLineRow : OpenClaim := { program := "ytcfijijpcafncaa", sum := "d05745848b412783bd407a883b985b228012207c19168c682d51d72c9f47f03d", func := "loop.example/connectionpool/laws.FnLeaveLine", spec := "fnLeaveLine", apart := false }
def FnLeaveLineSaid : Prop := fnLeaveLineRow.holds Try.pinned (OpenSpec.ofChange fnLeaveLineSpec)

/-- ITS FALSE NEIGHBOUR: 'it returns false'. Refute it at one input. -/
def fnLeaveLineWrong : ChangeSpec := { name := "fnLeaveLine", fn := fun _ => fun
  | [d] => { results := [.lit (.bool false)], args := [d] }
  | _ => none }
def FnLeaveLineWrongFalsely : Prop := fnLeaveLineRow.holds Try.pinned (OpenSpec.ofChange fnLeaveLineWrong)

/-- 'laws.FnLeaveLineOrder': WHATEVER THE INPUT: true; the input reads as it did. -/
def fnLeaveLineOrderSpec : ChangeSpec := { name := "fnLeaveLineOrder", fn := fun _ => fun
  | [d] => { results := [.lit (.bool true)], args := [d] }
  | _ => none }
def fnLeaveLineOrderRow : OpenClaim := { program := "ytcfijijpcafncaa", sum := "d05745848b412783bd407a883b985b228012207c19168c682d51d72c9f47f03d", func := "loop.example/connectionpool/laws.FnLeaveLineOrder", spec := "fnLeaveLineOrder", apart := false }
def FnLeaveLineOrderSaid : Prop := fnLeaveLineOrderRow.holds Try.pinned (OpenSpec.ofChange fnLeaveLineOrderSpec)

/-- ITS FALSE NEIGHBOUR: 'it returns false'. Refute it at one input. -/
def fnLeaveLineOrderWrong : ChangeSpec := { name := "fnLeaveLineOrder", fn := fun _ => fun
  | [d] => { results := [.lit (.bool false)], args := [d] }
  | _ => none }
def FnLeaveLineOrderWrongFalsely : Prop := fnLeaveLineOrderRow.holds Try.pinned (OpenSpec.ofChange fnLeaveLineOrderWrong)

/-- 'laws.FnCallNext': WHATEVER THE INPUT: true; the input reads as it did. -/
def fnCallNextSpec : ChangeSpec := { name := "fnCallNext", fn := fun _ => fun
  | [d] => { results := [.lit (.bool true)], args := [d] }
  | _ => none }
def fnCallNextRow : OpenClaim := { program := "ytcfijijpcafncaa", sum := "d05745848b412783bd407a883b985b228012207c19168c682d51d72c9f47f03d", func := "loop.example/connectionpool/laws.FnCallNext", spec := "fnCallNext", apart := false }
def FnCallNextSaid : Prop := fnCallNextRow.holds Try.pinned (OpenSpec.ofChange fnCallNextSpec)

/-- ITS FALSE NEIGHBOUR: 'it returns false'. Refute it at one input. -/
def fnCallNextWrong : ChangeSpec := { name := "fnCallNext", fn := fun _ => fun
  | [d] => { results := [.lit (.bool false)], args := [d] }
  | _ => none }
def FnCallNextWrongFalsely : Prop := fnCallNextRow.holds Try.pinned (OpenSpec.ofChange fnCallNextWrong)

/- THE SECOND FORM. 'bulk': how many values and letters a reading holds, each counted each time it is reached (what is shared counts as often as it is met; a slice's spare places count too). A statement '..UptoSaid' is the law's where the arguments, and the package variables that the reading takes, are together of bulk at most 1048576: NARROWER than '..Said'. Prove '..Said' where nothing that the law and all that it calls make is longer than what came in: it says more and counts as full. Else prove '..UptoSaid'. A law counts once. -/
mutual
def uptoBulk {H : Type} : DataW H → Nat
  | .lit (.string bytes) => bytes.length + 1
  | .lit _ => 1
  | .nil => 1
  | .ptr d => uptoBulk d + 1
  | .slice elems spare => uptoBulkAll elems + uptoBulkAll spare + 1
  | .agg parts => uptoBulkAll parts + 1
  | .iface _ d => uptoBulk d + 1
  | .map entries => uptoBulkEntries entries + 1
  | .held _ => 1
def uptoBulkAll {H : Type} : List (DataW H) → Nat
  | [] => 0
  | d :: r => uptoBulk d + uptoBulkAll r
def uptoBulkEntries {H : Type} : List (Lit × DataW H) → Nat
  | [] => 0
  | x :: r => uptoBulkEntry x + uptoBulkEntries r
def uptoBulkEntry {H : Type} : Lit × DataW H → Nat
  | (.string bytes, d) => bytes.length + uptoBulk d + 1
  | (_, d) => uptoBulk d + 1
 end
def uptoSmall : (H : Type) → List (DataW H) → Bool := fun _ ds => decide (uptoBulkAll ds ≤ 1048576)
def OpenSpec.upto (s : _root_.Go.ChangeSpec) : _root_.Go.OpenSpec := { _root_.Go.OpenSpec.ofChange s with cond := some uptoSmall }

/-- 'laws.FnValidLine', WHERE WHAT IT READS IS OF BULK AT MOST 1048576: true; the input reads as it did. -/
def fnValidLineUptoRow : OpenClaim := { program := "ytcfijijpcafncaa", sum := "d05745848b412783bd407a883b985b228012207c19168c682d51d72c9f47f03d", func := "loop.example/connectionpool/laws.FnValidLine", spec := "fnValidLine", apart := false, narrowed := true }
def FnValidLineUptoSaid : Prop := fnValidLineUptoRow.holds Try.pinned (OpenSpec.upto fnValidLineSpec)

/-- 'laws.FnTakeTicket', WHERE WHAT IT READS IS OF BULK AT MOST 1048576: true; the input reads as it did. -/
def fnTakeTicketUptoRow : OpenClaim := { program := "ytcfijijpcafncaa", sum := "d05745848b412783bd407a883b985b228012207c19168c682d51d72c9f47f03d", func := "loop.example/connectionpool/laws.FnTakeTicket", spec := "fnTakeTicket", apart := false, narrowed := true }
def FnTakeTicketUptoSaid : Prop := fnTakeTicketUptoRow.holds Try.pinned (OpenSpec.upto fnTakeTicketSpec)

/-- 'laws.FnTakeTicketLeave', WHERE WHAT IT READS IS OF BULK AT MOST 1048576: true; the input reads as it did. -/
def fnTakeTicketLeaveUptoRow : OpenClaim := { program := "ytcfijijpcafncaa", sum := "d05745848b412783bd407a883b985b228012207c19168c682d51d72c9f47f03d", func := "loop.example/connectionpool/laws.FnTakeTicketLeave", spec := "fnTakeTicketLeave", apart := false, narrowed := true }
def FnTakeTicketLeaveUptoSaid : Prop := fnTakeTicketLeaveUptoRow.holds Try.pinned (OpenSpec.upto fnTakeTicketLeaveSpec)

/-- 'laws.FnWaitingTickets', WHERE WHAT IT READS IS OF BULK AT MOST 1048576: true; the input reads as it did. -/
def fnWaitingTicketsUptoRow : OpenClaim := { program := "ytcfijijpcafncaa", sum := "d05745848b412783bd407a883b985b228012207c19168c682d51d72c9f47f03d", func := "loop.example/connectionpool/laws.FnWaitingTickets", spec := "fnWaitingTickets", apart := false, narrowed := true }
def FnWaitingTicketsUptoSaid : Prop := fnWaitingTicketsUptoRow.holds Try.pinned (OpenSpec.upto fnWaitingTicketsSpec)

/-- 'laws.FnLeaveLine', WHERE WHAT IT READS IS OF BULK AT MOST 1048576: true; the input reads as it did. -/
def fnLeaveLineUptoRow : OpenClaim := { program := "ytcfijijpcafncaa", sum := "d05745848b412783bd407a883b985b228012207c19168c682d51d72c9f47f03d", func := "loop.example/connectionpool/laws.FnLeaveLine", spec := "fnLeaveLine", apart := false, narrowed := true }
def FnLeaveLineUptoSaid : Prop := fnLeaveLineUptoRow.holds Try.pinned (OpenSpec.upto fnLeaveLineSpec)

/-- 'laws.FnLeaveLineOrder', WHERE WHAT IT READS IS OF BULK AT MOST 1048576: true; the input reads as it did. -/
def fnLeaveLineOrderUptoRow : OpenClaim := { program := "ytcfijijpcafncaa", sum := "d05745848b412783bd407a883b985b228012207c19168c682d51d72c9f47f03d", func := "loop.example/connectionpool/laws.FnLeaveLineOrder", spec := "fnLeaveLineOrder", apart := false, narrowed := true }
def FnLeaveLineOrderUptoSaid : Prop := fnLeaveLineOrderUptoRow.holds Try.pinned (OpenSpec.upto fnLeaveLineOrderSpec)

/-- 'laws.FnCallNext', WHERE WHAT IT READS IS OF BULK AT MOST 1048576: true; the input reads as it did. -/
def fnCallNextUptoRow : OpenClaim := { program := "ytcfijijpcafncaa", sum := "d05745848b412783bd407a883b985b228012207c19168c682d51d72c9f47f03d", func := "loop.example/connectionpool/laws.FnCallNext", spec := "fnCallNext", apart := false, narrowed := true }
def FnCallNextUptoSaid : Prop := fnCallNextUptoRow.holds Try.pinned (OpenSpec.upto fnCallNextSpec)

end Rows
end Go.Proofs.Ytcfijijpcafncaa

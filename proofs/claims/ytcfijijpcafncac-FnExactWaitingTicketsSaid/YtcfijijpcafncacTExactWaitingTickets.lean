/-
  The exact law FnExactWaitingTickets returns true for every argument, and changes nothing that was there: the given statement Rows.FnExactWaitingTicketsSaid, proved. Conditions: none.
-/
import Derived.Test.YtcfijijpcafncacRows
import Derived.WalkKit
import Derived.ProofKit
import Derived.OpenShut
import Derived.ShutString
import Derived.ChangeOld
import Derived.ChangeSlices
import Derived.Lib.SmallJoins
import Derived.Below
import Derived.Test.YtcfijijpcafncacXLawExactWaitingTickets
namespace Go.Proofs.Ytcfijijpcafncac.fnExactWaitingTickets
open Go.ChangeShapes Go.WideShapes Go.ChangeAt Go.RowKit
open Go.ChangeMaps (open_string shut_string)
open Go.Joins (open_agg3)
set_option linter.unusedVariables false

theorem own : ownKnob Try.prog.godebug = none := by kernel_rfl
theorem laidOut : laidOutB Try.prog = true := by kernel_rfl

/-- What the walk is told of the list. -/
theorem list_sees {W : World} {a : Addr} {len cap : Nat} {zs : List Int} (hl : len ≤ cap) (hz : zs.length = cap) (hc : ∀ i, i < zs.length → W.cell? (a.add i) = some (.int .i64 (zs.getD i 0))) :
    (zs.take len).length = len ∧ Sees W W.heap.size (some a) (ints (zs.take len)) := by
  refine ⟨by rw [List.length_take]; omega, fun hne => ?_⟩
  have h0 : 0 < zs.length := by
    rcases Nat.eq_zero_or_pos zs.length with e | e
    · rw [List.eq_nil_of_length_eq_zero e] at hne; simp [ints] at hne
    · exact e
  have hb := hc 0 h0
  obtain ⟨b, o, spot⟩ := a
  have hspot : spot = none := by simpa [Addr.add] using World.cell?_spot hb
  subst hspot
  refine ⟨b, o, rfl, ?_, ?_⟩
  · have := World.block_lt_of_cell? W _ hb
    simpa [Addr.add] using this
  · intro j u hu
    simp only [ints, List.map_take, List.getElem?_take] at hu
    split at hu
    · have hj : j < zs.length := by
        rcases Nat.lt_or_ge j zs.length with e | e
        · exact e
        · simp [List.getElem?_eq_none e] at hu
      have := hc j hj
      have e : (zs.map (Value.int .i64))[j]? = some (.int .i64 zs[j]) := by simp [hj]
      rw [e] at hu
      injection hu with hu
      subst hu
      have hadd : (⟨b, o, none⟩ : Addr).add j = ⟨b, o + j, none⟩ := by unfold Addr.add; split <;> simp_all
      rw [hadd] at this
      simpa [hj] using this
    · cases hu

set_option maxRecDepth 100000 in
theorem lifted (os : Os) (started : os.Started) (H : Type) (enc : TypeId × Value → H) :
    ReturnsInHanded {} Try.checked os 5 .any (Rows.fnExactWaitingTicketsSpec.pre6 enc Try.prog Try.f5 Rows.fnExactWaitingTicketsRow.domain false) (Rows.fnExactWaitingTicketsSpec.post enc Try.prog Try.f5 false true false false) := by
  refine returnsInHanded_of_change (C := Try.checked) own started (by kernel_rfl) Try.func5
    (ChangeSpec.witness6 (enc := enc) (C := Try.checked) false ⟨#[], #[.agg #[.int .i64 0, .int .i64 0, .slice none 0 0]], []⟩ 8 (by kernel_rfl) (by kernel_rfl) (by kernel_rfl) (by kernel_rfl)) ?_
  intro W base args ds gs before hval0 hW hcnd _
  have hval : ∀ (j : Nat) t v, Try.f5.params[j]? = some t → args[j]? = some v → Value.okWide Try.prog W .any base t v := hval0
  have hW' := hW
  obtain ⟨p, q, hA0, hV, rfl, hfz, hnd⟩ := hW
  have hA : DataW.TrodAll enc Try.prog W 0 (fun _ => true) true Try.f5.params.toList args.toList ds p := hA0
  rw [Try.params5] at hA hval
  obtain ⟨v0, vs0, d0, ds0, p0, q0, hargs, rfl, rfl, h0, r0⟩ := trodAll_cons hA
  obtain ⟨rfl, rfl, rfl⟩ := trodAll_nil r0
  obtain rfl : args = #[v0] := by cases args; simp_all
  obtain ⟨rfl, rfl⟩ := trodVars_none hV
  have k0 := h0
  have lt0 : ∀ x ∈ p0, x.block < W.heap.size := by obtain ⟨m, hm⟩ := k0; exact DataW.trod_lt m _ _ _ hm
  obtain ⟨c0, c1, c2, y0, y1, y2, m, rfl, rfl, rfl, hy0, hy1, hy2⟩ := open_agg3 Try.underlying24 (by kernel_rfl) (by kernel_rfl) (hval 0 24 v0 rfl rfl) h0
  obtain ⟨s, e0, _, _⟩ := DataW.trod_int Try.underlying3 hy0
  obtain ⟨n, e1, _, _⟩ := DataW.trod_int Try.underlying3 hy1
  simp at e0 e1
  subst e0 e1
  obtain ⟨A, c, xs, rfl, hm, hs⟩ : ∃ (A : Option Addr) (c : Nat) (xs : List Int), c2 = .slice A xs.length c ∧ xs.length ≤ maxLen ∧ Sees W W.heap.size A (ints xs) := by
    rcases open_ints Try.underlying22 Try.underlying3 (by kernel_rfl) hy2 with ⟨hcs, _⟩ | ⟨x, l, c, zs, hcs, _, hl, hm, hz, _, hcell, _⟩
    · simp at hcs
      subst hcs
      exact ⟨none, 0, [], rfl, by simp, Sees.nil⟩
    · simp at hcs
      subst hcs
      obtain ⟨e, hs⟩ := list_sees hl (by simpa using hz) hcell
      exact ⟨some x, c, zs.take l, by rw [e], by rw [e]; omega, hs⟩
  clear hA0 hval0
  refine (walkExactWaitingTickets A c s n xs W hm hs).mono fun e W' ⟨he, bel⟩ => ?_
  subst he
  exact ⟨_, rfl, _, _, _, [], _, [], hW', trodAll_mk1 (shut_bool Try.underlying4 _), (trodAll_cons_mk (Below.trod laidOut (by kernel_rfl) (of_decide_eq_true (by kernel_rfl)) k0 bel lt0) trodAll_mk0), rfl, bel.frame _, fun h => by cases h⟩

theorem over : Rows.fnExactWaitingTicketsRow.holds Try.pinned (OpenSpec.ofChange Rows.fnExactWaitingTicketsSpec) :=
  OpenClaim.holds_of_wide 5 Try.f5 rfl rfl rfl rfl rfl rfl rfl ⟨rfl, rfl, rfl, rfl, rfl⟩ rfl rfl rfl rfl rfl (by kernel_rfl) Try.func5 (by kernel_rfl)
    (of_decide_eq_true (by kernel_rfl)) (by unfold Func.isWrapper; first | (rw [if_pos (by decide +kernel)]; kernel_rfl) | (rw [if_neg (by decide +kernel)]; exact ⟨rfl, rfl⟩))
    (fun os started H enc _ => lifted os started H enc)

theorem proved : Rows.FnExactWaitingTicketsSaid := over
#print axioms proved
end Go.Proofs.Ytcfijijpcafncac.fnExactWaitingTickets

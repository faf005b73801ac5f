/-
  The exact law FnExactCleanUp returns true for every argument, and changes nothing that was there: the given statement Rows.FnExactCleanUpSaid, proved. Conditions: none.
-/
import Derived.Test.YthmpeahlddfpnaaRows
import Derived.WalkKit
import Derived.ProofKit
import Derived.OpenShut
import Derived.ShutString
import Derived.ChangeOld
import Derived.ChangeSlices
import Derived.Lib.SmallJoins
import Derived.Below
import Derived.Test.YthmpeahlddfpnaaOpen
import Derived.Test.YthmpeahlddfpnaaXLawExactCleanUp
namespace Go.Proofs.Ythmpeahlddfpnaa.fnExactCleanUp
open Go.ChangeShapes Go.WideShapes Go.ChangeAt Go.RowKit Go.Proofs.Ythmpeahlddfpnaa.Nes
open Go.ChangeMaps (open_string shut_string)
open Go.Joins (open_agg2 open_agg3 open_agg4)
set_option linter.unusedVariables false

theorem own : ownKnob Try.prog.godebug = none := by kernel_rfl
theorem laidOut : laidOutB Try.prog = true := by kernel_rfl

set_option maxRecDepth 100000 in
theorem lifted (os : Os) (started : os.Started) (H : Type) (enc : TypeId × Value → H) :
    ReturnsInHanded {} Try.checked os 7 .any (Rows.fnExactCleanUpSpec.pre6 enc Try.prog Try.f7 Rows.fnExactCleanUpRow.domain false) (Rows.fnExactCleanUpSpec.post enc Try.prog Try.f7 false true false false) := by
  refine returnsInHanded_of_change (C := Try.checked) own started (by kernel_rfl) Try.func7
    (ChangeSpec.witness6 (enc := enc) (C := Try.checked) false ⟨#[], #[.agg #[.int .i64 0, .int .i64 0, .slice none 0 0, .bool false]], []⟩ 8 (by kernel_rfl) (by kernel_rfl) (by kernel_rfl) (by kernel_rfl)) ?_
  intro W base args ds gs before hval0 hW hcnd _
  have hval : ∀ (j : Nat) t v, Try.f7.params[j]? = some t → args[j]? = some v → Value.okWide Try.prog W .any base t v := hval0
  have hW' := hW
  obtain ⟨p, q, hA0, hV, rfl, hfz, hnd⟩ := hW
  have hA : DataW.TrodAll enc Try.prog W 0 (fun _ => true) true Try.f7.params.toList args.toList ds p := hA0
  rw [Try.params7] at hA hval
  obtain ⟨v0, vs0, d0, ds0, p0, q0, hargs0, rfl, rfl, h0, r0⟩ := trodAll_cons hA
  obtain ⟨rfl, rfl, rfl⟩ := trodAll_nil r0
  obtain rfl : args = #[v0] := by cases args; simp_all
  obtain ⟨rfl, rfl⟩ := trodVars_none hV
  have k0 := h0
  have lt0 : ∀ x ∈ p0, x.block < W.heap.size := by obtain ⟨m, hm⟩ := k0; exact DataW.trod_lt m _ _ _ hm
  obtain ⟨pu0, pu1, pu2, pu3, py0, py1, py2, py3, pm, rfl, rfl, rfl, pz0, pz1, pz2, pz3⟩ := open_agg4 Try.underlying24 (by kernel_rfl) (by kernel_rfl) (hval 0 24 v0 rfl rfl) h0
  obtain ⟨pf0, pe0, _, _⟩ := DataW.trod_int Try.underlying3 pz0
  obtain ⟨pf1, pe1, _, _⟩ := DataW.trod_int Try.underlying3 pz1
  obtain ⟨pA2, pc2, pl2, pe2, phc2, phm2, phs2⟩ := open_ints4 Try.underlying22 Try.underlying3 (by kernel_rfl) pz2
  obtain ⟨pf3, pe3, _⟩ := DataW.trod_bool Try.underlying4 pz3
  simp at pe0 pe1 pe2 pe3
  subst pe0 pe1 pe2 pe3
  clear hA0 hval0
  refine (walkExactCleanUp pA2 pc2 ⟨pf0, pf1, pl2, pf3⟩ W (Nat.le_trans phc2 phm2) phs2 ).mono fun e W' ⟨he, bel⟩ => ?_
  subst he
  exact ⟨_, rfl, _, _, _, [], _, [], hW', trodAll_mk1 (shut_bool Try.underlying4 _), (trodAll_cons_mk (Below.trod laidOut (by kernel_rfl) (of_decide_eq_true (by kernel_rfl)) k0 bel lt0) trodAll_mk0), rfl, bel.frame _, fun h => by cases h⟩

theorem over : Rows.fnExactCleanUpRow.holds Try.pinned (OpenSpec.ofChange Rows.fnExactCleanUpSpec) :=
  OpenClaim.holds_of_wide 7 Try.f7 rfl rfl rfl rfl rfl rfl rfl ⟨rfl, rfl, rfl, rfl, rfl⟩ rfl rfl rfl rfl rfl (by kernel_rfl) Try.func7 (by kernel_rfl)
    (of_decide_eq_true (by kernel_rfl)) (by unfold Func.isWrapper; first | (rw [if_pos (by decide +kernel)]; kernel_rfl) | (rw [if_neg (by decide +kernel)]; exact ⟨rfl, rfl⟩))
    (fun os started H enc _ => lifted os started H enc)

theorem proved : Rows.FnExactCleanUpSaid := over
#print axioms proved
end Go.Proofs.Ythmpeahlddfpnaa.fnExactCleanUp

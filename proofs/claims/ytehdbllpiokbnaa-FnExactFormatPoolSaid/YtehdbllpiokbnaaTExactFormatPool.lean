/-
  The exact law FnExactFormatPool returns true for every argument, and changes nothing that was there: the given statement Rows.FnExactFormatPoolSaid, proved. Conditions: none.
-/
import Derived.Test.YtehdbllpiokbnaaRows
import Derived.WalkKit
import Derived.ProofKit
import Derived.OpenShut
import Derived.ShutString
import Derived.ChangeOld
import Derived.ChangeSlices
import Derived.Lib.SmallJoins
import Derived.Below
import Derived.Test.YtehdbllpiokbnaaOpen
import Derived.Test.YtehdbllpiokbnaaXLawExactFormatPool
namespace Go.Proofs.Ytehdbllpiokbnaa.fnExactFormatPool
open Go.ChangeShapes Go.WideShapes Go.ChangeAt Go.RowKit Go.Proofs.Ytehdbllpiokbnaa.Pol
open Go.ChangeMaps (open_string shut_string)
open Go.Joins (open_agg2 open_agg3 open_agg4)
set_option linter.unusedVariables false

theorem own : ownKnob Try.prog.godebug = none := by kernel_rfl
theorem laidOut : laidOutB Try.prog = true := by kernel_rfl

set_option maxRecDepth 100000 in
theorem lifted (os : Os) (started : os.Started) (H : Type) (enc : TypeId × Value → H) :
    ReturnsInHanded {} Try.checked os 3 .any (Rows.fnExactFormatPoolSpec.pre6 enc Try.prog Try.f3 Rows.fnExactFormatPoolRow.domain false) (Rows.fnExactFormatPoolSpec.post enc Try.prog Try.f3 false true false false) := by
  refine returnsInHanded_of_change (C := Try.checked) own started (by kernel_rfl) Try.func3
    (ChangeSpec.witness6 (enc := enc) (C := Try.checked) false ⟨#[], #[.agg #[.int .i64 0, .slice none 0 0, .slice none 0 0, .slice none 0 0]], []⟩ 8 (by kernel_rfl) (by kernel_rfl) (by kernel_rfl) (by kernel_rfl)) ?_
  intro W base args ds gs before hval0 hW hcnd _
  have hval : ∀ (j : Nat) t v, Try.f3.params[j]? = some t → args[j]? = some v → Value.okWide Try.prog W .any base t v := hval0
  have hW' := hW
  obtain ⟨p, q, hA0, hV, rfl, hfz, hnd⟩ := hW
  have hA : DataW.TrodAll enc Try.prog W 0 (fun _ => true) true Try.f3.params.toList args.toList ds p := hA0
  rw [Try.params3] at hA hval
  obtain ⟨v0, vs0, d0, ds0, p0, q0, hargs0, rfl, rfl, h0, r0⟩ := trodAll_cons hA
  obtain ⟨rfl, rfl, rfl⟩ := trodAll_nil r0
  obtain rfl : args = #[v0] := by cases args; simp_all
  obtain ⟨rfl, rfl⟩ := trodVars_none hV
  have k0 := h0
  have lt0 : ∀ x ∈ p0, x.block < W.heap.size := by obtain ⟨m, hm⟩ := k0; exact DataW.trod_lt m _ _ _ hm
  obtain ⟨pu0, pu1, pu2, pu3, py0, py1, py2, py3, pm, rfl, rfl, rfl, pz0, pz1, pz2, pz3⟩ := open_agg4 Try.underlying25 (by kernel_rfl) (by kernel_rfl) (hval 0 25 v0 rfl rfl) h0
  obtain ⟨pf0, pe0, _, _⟩ := DataW.trod_int Try.underlying3 pz0
  obtain ⟨pA1, pc1, pl1, pe1, phc1, phm1, phs1⟩ := open_ints4 Try.underlying22 Try.underlying3 (by kernel_rfl) pz1
  obtain ⟨pA2, pc2, pl2, pe2, phc2, phm2, phs2⟩ := open_strip (f := hcells) (s := 2) (fun g => (⟨g 0, g 1⟩ : Ho)) (by decide) hcells_len (fun g j hj => by match j, hj with | 0, _ => rfl | 1, _ => rfl) Try.underlying23 Try.underlying95 rfl (by kernel_rfl) (by kernel_rfl) Try.underlying3 (by kernel_rfl) pz2
  obtain ⟨pA3, pc3, pl3, pe3, phc3, phm3, phs3⟩ := open_ints4 Try.underlying22 Try.underlying3 (by kernel_rfl) pz3
  simp at pe0 pe1 pe2 pe3
  subst pe0 pe1 pe2 pe3
  clear hA0 hval0
  refine (walkExactFormatPool pA1 pA2 pA3 pc1 pc2 pc3 ⟨pf0, pl1, pl2, pl3⟩ W (Nat.le_trans phc1 phm1) (Nat.le_trans phc2 phm2) (Nat.le_trans phc3 phm3) ⟨phs1, phs2, phs3⟩ ).mono fun e W' ⟨he, bel⟩ => ?_
  subst he
  exact ⟨_, rfl, _, _, _, [], _, [], hW', trodAll_mk1 (shut_bool Try.underlying4 _), (trodAll_cons_mk (Below.trod laidOut (by kernel_rfl) (of_decide_eq_true (by kernel_rfl)) k0 bel lt0) trodAll_mk0), rfl, bel.frame _, fun h => by cases h⟩

theorem over : Rows.fnExactFormatPoolRow.holds Try.pinned (OpenSpec.ofChange Rows.fnExactFormatPoolSpec) :=
  OpenClaim.holds_of_wide 3 Try.f3 rfl rfl rfl rfl rfl rfl rfl ⟨rfl, rfl, rfl, rfl, rfl⟩ rfl rfl rfl rfl rfl (by kernel_rfl) Try.func3 (by kernel_rfl)
    (of_decide_eq_true (by kernel_rfl)) (by unfold Func.isWrapper; first | (rw [if_pos (by decide +kernel)]; kernel_rfl) | (rw [if_neg (by decide +kernel)]; exact ⟨rfl, rfl⟩))
    (fun os started H enc _ => lifted os started H enc)

theorem proved : Rows.FnExactFormatPoolSaid := over
#print axioms proved
end Go.Proofs.Ytehdbllpiokbnaa.fnExactFormatPool

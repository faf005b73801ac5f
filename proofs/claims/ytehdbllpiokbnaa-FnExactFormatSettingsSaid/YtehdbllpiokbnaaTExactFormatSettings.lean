/-
  The exact law FnExactFormatSettings returns true for every argument, and changes nothing that was there: the given statement Rows.FnExactFormatSettingsSaid, proved. Conditions: none.
-/
import Derived.Test.YtehdbllpiokbnaaRows
import Derived.WalkKit
import Derived.ProofKit
import Derived.OpenShut
import Derived.ShutString
import Derived.ChangeOld
import Derived.ChangeSlices
import Derived.Lib.SmallJoins
import Derived.Below
import Derived.Test.YtehdbllpiokbnaaOpen
import Derived.Test.YtehdbllpiokbnaaXLawExactFormatSettings
namespace Go.Proofs.Ytehdbllpiokbnaa.fnExactFormatSettings
open Go.ChangeShapes Go.WideShapes Go.ChangeAt Go.RowKit Go.Proofs.Ytehdbllpiokbnaa.Stt
open Go.ChangeMaps (open_string shut_string)
open Go.Joins (open_agg2 open_agg3 open_agg4)
set_option linter.unusedVariables false

theorem own : ownKnob Try.prog.godebug = none := by kernel_rfl
theorem laidOut : laidOutB Try.prog = true := by kernel_rfl

set_option maxRecDepth 100000 in
theorem lifted (os : Os) (started : os.Started) (H : Type) (enc : TypeId × Value → H) :
    ReturnsInHanded {} Try.checked os 5 .any (Rows.fnExactFormatSettingsSpec.pre6 enc Try.prog Try.f5 Rows.fnExactFormatSettingsRow.domain false) (Rows.fnExactFormatSettingsSpec.post enc Try.prog Try.f5 false true false false) := by
  refine returnsInHanded_of_change (C := Try.checked) own started (by kernel_rfl) Try.func5
    (ChangeSpec.witness6 (enc := enc) (C := Try.checked) false ⟨#[], #[.slice none 0 0], []⟩ 8 (by kernel_rfl) (by kernel_rfl) (by kernel_rfl) (by kernel_rfl)) ?_
  intro W base args ds gs before hval0 hW hcnd _
  have hval : ∀ (j : Nat) t v, Try.f5.params[j]? = some t → args[j]? = some v → Value.okWide Try.prog W .any base t v := hval0
  have hW' := hW
  obtain ⟨p, q, hA0, hV, rfl, hfz, hnd⟩ := hW
  have hA : DataW.TrodAll enc Try.prog W 0 (fun _ => true) true Try.f5.params.toList args.toList ds p := hA0
  rw [Try.params5] at hA hval
  obtain ⟨v0, vs0, d0, ds0, p0, q0, hargs0, rfl, rfl, h0, r0⟩ := trodAll_cons hA
  obtain ⟨rfl, rfl, rfl⟩ := trodAll_nil r0
  obtain rfl : args = #[v0] := by cases args; simp_all
  obtain ⟨rfl, rfl⟩ := trodVars_none hV
  have k0 := h0
  have lt0 : ∀ x ∈ p0, x.block < W.heap.size := by obtain ⟨m, hm⟩ := k0; exact DataW.trod_lt m _ _ _ hm
  obtain ⟨a0, n0, cc0, rfl⟩ := okWide_slice Try.underlying38 (hval 0 38 v0 rfl rfl)
  obtain ⟨A0, c0, l0, e0, hc0, hm0, hs0⟩ : ∃ (A : Option Addr) (c : Nat) (l : List Stg), Value.slice a0 n0 cc0 = .slice A l.length c ∧ l.length ≤ c ∧ c ≤ maxLen ∧ Sees W W.heap.size A (strip stcl l) := by
    obtain ⟨m, hm⟩ := h0
    obtain ⟨A, c, l, e, r1, r2, r3⟩ := open_strip (f := stcl) (s := 2) (fun g => ⟨g 0, g 1⟩) (by decide) stcl_len (fun g j hj => by match j, hj with | 0, _ => rfl | 1, _ => rfl) Try.underlying38 Try.underlying78 rfl (by kernel_rfl) (by kernel_rfl) Try.underlying3 (by kernel_rfl) hm
    exact ⟨A, c, l, by simpa [Value.cells] using e, r1, r2, r3⟩
  injection e0 with e1 e2 e3
  subst e1 e2 e3
  clear hA0 hval0
  refine (walkExactFormatSettings _ _ l0 W (Nat.le_trans hc0 hm0) hc0 hs0).mono fun e W' ⟨he, bel⟩ => ?_
  subst he
  exact ⟨_, rfl, _, _, _, [], _, [], hW', trodAll_mk1 (shut_bool Try.underlying4 _), (trodAll_cons_mk (Below.trod laidOut (by kernel_rfl) (of_decide_eq_true (by kernel_rfl)) k0 bel lt0) trodAll_mk0), rfl, bel.frame _, fun h => by cases h⟩

theorem over : Rows.fnExactFormatSettingsRow.holds Try.pinned (OpenSpec.ofChange Rows.fnExactFormatSettingsSpec) :=
  OpenClaim.holds_of_wide 5 Try.f5 rfl rfl rfl rfl rfl rfl rfl ⟨rfl, rfl, rfl, rfl, rfl⟩ rfl rfl rfl rfl rfl (by kernel_rfl) Try.func5 (by kernel_rfl)
    (of_decide_eq_true (by kernel_rfl)) (by unfold Func.isWrapper; first | (rw [if_pos (by decide +kernel)]; kernel_rfl) | (rw [if_neg (by decide +kernel)]; exact ⟨rfl, rfl⟩))
    (fun os started H enc _ => lifted os started H enc)

theorem proved : Rows.FnExactFormatSettingsSaid := over
#print axioms proved
end Go.Proofs.Ytehdbllpiokbnaa.fnExactFormatSettings

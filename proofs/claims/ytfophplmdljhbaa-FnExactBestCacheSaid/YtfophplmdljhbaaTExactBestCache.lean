/-
  The exact law FnExactBestCache returns true for every argument, and changes nothing that was there: the given statement Rows.FnExactBestCacheSaid, proved. Conditions: none.
-/
import Derived.Test.YtfophplmdljhbaaRows
import Derived.WalkKit
import Derived.ProofKit
import Derived.OpenShut
import Derived.ShutString
import Derived.ChangeOld
import Derived.ChangeSlices
import Derived.Lib.SmallJoins
import Derived.Below
import Derived.Test.YtfophplmdljhbaaOpenC
import Derived.Test.YtfophplmdljhbaaXLawExactBestCache
namespace Go.Proofs.Ytfophplmdljhbaa.fnExactBestCache
open Go.ChangeShapes Go.WideShapes Go.ChangeAt Go.RowKit Go.Proofs.Ytfophplmdljhbaa.Cac
open Go.ChangeMaps (open_string shut_string)
open Go.Joins (open_agg2 open_agg3 open_agg4)
set_option linter.unusedVariables false

theorem own : ownKnob Try.prog.godebug = none := by kernel_rfl
theorem laidOut : laidOutB Try.prog = true := by kernel_rfl

set_option maxRecDepth 100000 in
theorem lifted (os : Os) (started : os.Started) (H : Type) (enc : TypeId × Value → H) :
    ReturnsInHanded {} Try.checked os 3 .any (Rows.fnExactBestCacheSpec.pre6 enc Try.prog Try.f3 Rows.fnExactBestCacheRow.domain false) (Rows.fnExactBestCacheSpec.post enc Try.prog Try.f3 false true false false) := by
  refine returnsInHanded_of_change (C := Try.checked) own started (by kernel_rfl) Try.func3
    (ChangeSpec.witness6 (enc := enc) (C := Try.checked) false ⟨#[], #[.slice none 0 0, .slice none 0 0], []⟩ 8 (by kernel_rfl) (by kernel_rfl) (by kernel_rfl) (by kernel_rfl)) ?_
  intro W base args ds gs before hval0 hW hcnd _
  have hval : ∀ (j : Nat) t v, Try.f3.params[j]? = some t → args[j]? = some v → Value.okWide Try.prog W .any base t v := hval0
  have hW' := hW
  obtain ⟨p, q, hA0, hV, rfl, hfz, hnd⟩ := hW
  have hA : DataW.TrodAll enc Try.prog W 0 (fun _ => true) true Try.f3.params.toList args.toList ds p := hA0
  rw [Try.params3] at hA hval
  obtain ⟨v0, vs0, d0, ds0, p0, q0, hargs0, rfl, rfl, h0, r0⟩ := trodAll_cons hA
  obtain ⟨v1, vs1, d1, ds1, p1, q1, hargs1, rfl, rfl, h1, r1⟩ := trodAll_cons r0
  obtain ⟨rfl, rfl, rfl⟩ := trodAll_nil r1
  obtain rfl : args = #[v0, v1] := by cases args; simp_all
  obtain ⟨rfl, rfl⟩ := trodVars_none hV
  have k0 := h0
  have lt0 : ∀ x ∈ p0, x.block < W.heap.size := by obtain ⟨m, hm⟩ := k0; exact DataW.trod_lt m _ _ _ hm
  have k1 := h1
  have lt1 : ∀ x ∈ p1, x.block < W.heap.size := by obtain ⟨m, hm⟩ := k1; exact DataW.trod_lt m _ _ _ hm
  obtain ⟨a0, n0, cc0, rfl⟩ := okWide_slice Try.underlying22 (hval 0 22 v0 rfl rfl)
  obtain ⟨A0, c0, l0, e0, hc0, hm0, hs0, hr0⟩ : ∃ (A : Option Addr) (c : Nat) (l : List Rc), Value.slice a0 n0 cc0 = .slice A l.length c ∧ l.length ≤ c ∧ c ≤ maxLen ∧ SeesC W W.heap.size A l ∧ ∀ r ∈ l, r.m.n.length ≤ maxLen := by
    obtain ⟨m, hm⟩ := h0
    obtain ⟨A, c, l, e, r1, r2, r3, r4⟩ := open_caches Try.underlying22 Try.underlying40 (by kernel_rfl) (by kernel_rfl) rfl rfl Try.underlying3 Try.underlying23 (by kernel_rfl) hm
    exact ⟨A, c, l, by simpa [Value.cells] using e, r1, r2, r3, r4⟩
  injection e0 with e1 e2 e3
  subst e1 e2 e3
  obtain ⟨a1, n1, cc1, rfl⟩ := okWide_slice Try.underlying23 (hval 1 23 v1 rfl rfl)
  obtain ⟨A1, c1, l1, e1, hc1, hm1, hs1⟩ : ∃ (A : Option Addr) (c : Nat) (l : List Int), Value.slice a1 n1 cc1 = .slice A l.length c ∧ l.length ≤ c ∧ c ≤ maxLen ∧ Sees W W.heap.size A (ints l) := by
    obtain ⟨m, hm⟩ := h1
    obtain ⟨A, c, l, e, r1, r2, r3⟩ := open_ints4 Try.underlying23 Try.underlying3 (by kernel_rfl) hm
    exact ⟨A, c, l, by simpa [Value.cells] using e, r1, r2, r3⟩
  injection e1 with e1 e2 e3
  subst e1 e2 e3
  clear hA0 hval0
  refine (walkExactBestCache _ _ l0 _ _ l1 W (Nat.le_trans hc0 hm0) hc0 hs0 hr0 (Nat.le_trans hc1 hm1) hc1 hs1).mono fun e W' ⟨he, bel⟩ => ?_
  subst he
  exact ⟨_, rfl, _, _, _, [], _, [], hW', trodAll_mk1 (shut_bool Try.underlying4 _), (trodAll_cons_mk (Below.trod laidOut (by kernel_rfl) (of_decide_eq_true (by kernel_rfl)) k0 bel lt0) (trodAll_cons_mk (Below.trod laidOut (by kernel_rfl) (of_decide_eq_true (by kernel_rfl)) k1 bel lt1) trodAll_mk0)), rfl, bel.frame _, fun h => by cases h⟩

theorem over : Rows.fnExactBestCacheRow.holds Try.pinned (OpenSpec.ofChange Rows.fnExactBestCacheSpec) :=
  OpenClaim.holds_of_wide 3 Try.f3 rfl rfl rfl rfl rfl rfl rfl ⟨rfl, rfl, rfl, rfl, rfl⟩ rfl rfl rfl rfl rfl (by kernel_rfl) Try.func3 (by kernel_rfl)
    (of_decide_eq_true (by kernel_rfl)) (by unfold Func.isWrapper; first | (rw [if_pos (by decide +kernel)]; kernel_rfl) | (rw [if_neg (by decide +kernel)]; exact ⟨rfl, rfl⟩))
    (fun os started H enc _ => lifted os started H enc)

theorem proved : Rows.FnExactBestCacheSaid := over
#print axioms proved
end Go.Proofs.Ytfophplmdljhbaa.fnExactBestCache

/-
  The exact law FnExactBreakerPath returns true for every argument, and changes nothing that was there: the given statement Rows.FnExactBreakerPathSaid, proved. Conditions: none.
-/
import Derived.Test.YtkailakeiepkgaaRows
import Derived.WalkKit
import Derived.ProofKit
import Derived.OpenShut
import Derived.ShutString
import Derived.ChangeOld
import Derived.ChangeSlices
import Derived.Lib.SmallJoins
import Derived.Below
import Derived.Test.YtkailakeiepkgaaOpenS
import Derived.Test.YtkailakeiepkgaaXLawExactBreakerPath
namespace Go.Proofs.Ytkailakeiepkgaa.fnExactBreakerPath
open Go.ChangeShapes Go.WideShapes Go.ChangeAt Go.RowKit Go.Proofs.Ytkailakeiepkgaa.Brk
open Go.ChangeMaps (open_string shut_string)
open Go.Joins (open_agg2 open_agg3 open_agg4)
set_option linter.unusedVariables false

theorem own : ownKnob Try.prog.godebug = none := by kernel_rfl
theorem laidOut : laidOutB Try.prog = true := by kernel_rfl

set_option maxRecDepth 100000 in
theorem lifted (os : Os) (started : os.Started) (H : Type) (enc : TypeId × Value → H) :
    ReturnsInHanded {} Try.checked os 7 .any (Rows.fnExactBreakerPathSpec.pre6 enc Try.prog Try.f7 Rows.fnExactBreakerPathRow.domain false) (Rows.fnExactBreakerPathSpec.post enc Try.prog Try.f7 false true false false) := by
  refine returnsInHanded_of_change (C := Try.checked) own started (by kernel_rfl) Try.func7
    (ChangeSpec.witness6 (enc := enc) (C := Try.checked) false ⟨#[], #[.agg #[.int .i64 0, .int .i64 0, .int .i64 0, .int .i64 0, .int .i64 0], .slice none 0 0, .slice none 0 0], []⟩ 8 (by kernel_rfl) (by kernel_rfl) (by kernel_rfl) (by kernel_rfl)) ?_
  intro W base args ds gs before hval0 hW hcnd _
  have hval : ∀ (j : Nat) t v, Try.f7.params[j]? = some t → args[j]? = some v → Value.okWide Try.prog W .any base t v := hval0
  have hW' := hW
  obtain ⟨p, q, hA0, hV, rfl, hfz, hnd⟩ := hW
  have hA : DataW.TrodAll enc Try.prog W 0 (fun _ => true) true Try.f7.params.toList args.toList ds p := hA0
  rw [Try.params7] at hA hval
  obtain ⟨v0, vs0, d0, ds0, p0, q0, hargs0, rfl, rfl, h0, r0⟩ := trodAll_cons hA
  obtain ⟨v1, vs1, d1, ds1, p1, q1, hargs1, rfl, rfl, h1, r1⟩ := trodAll_cons r0
  obtain ⟨v2, vs2, d2, ds2, p2, q2, hargs2, rfl, rfl, h2, r2⟩ := trodAll_cons r1
  obtain ⟨rfl, rfl, rfl⟩ := trodAll_nil r2
  obtain rfl : args = #[v0, v1, v2] := by cases args; simp_all
  obtain ⟨rfl, rfl⟩ := trodVars_none hV
  have k0 := h0
  have lt0 : ∀ x ∈ p0, x.block < W.heap.size := by obtain ⟨m, hm⟩ := k0; exact DataW.trod_lt m _ _ _ hm
  have k1 := h1
  have lt1 : ∀ x ∈ p1, x.block < W.heap.size := by obtain ⟨m, hm⟩ := k1; exact DataW.trod_lt m _ _ _ hm
  have k2 := h2
  have lt2 : ∀ x ∈ p2, x.block < W.heap.size := by obtain ⟨m, hm⟩ := k2; exact DataW.trod_lt m _ _ _ hm
  obtain ⟨x0_0, x0_1, x0_2, x0_3, x0_4, y0_0, y0_1, y0_2, y0_3, y0_4, m0, rfl, rfl, rfl, z0_0, z0_1, z0_2, z0_3, z0_4⟩ := open_agg5 Try.underlying23 (by kernel_rfl) (by kernel_rfl) (hval 0 23 v0 rfl rfl) h0
  obtain ⟨f0_0, e0_0, _, _⟩ := DataW.trod_int Try.underlying3 z0_0
  obtain ⟨f0_1, e0_1, _, _⟩ := DataW.trod_int Try.underlying3 z0_1
  obtain ⟨f0_2, e0_2, _, _⟩ := DataW.trod_int Try.underlying3 z0_2
  obtain ⟨f0_3, e0_3, _, _⟩ := DataW.trod_int Try.underlying3 z0_3
  obtain ⟨f0_4, e0_4, _, _⟩ := DataW.trod_int Try.underlying3 z0_4
  simp at e0_0 e0_1 e0_2 e0_3 e0_4
  subst e0_0 e0_1 e0_2 e0_3 e0_4
  obtain ⟨a1, n1, cc1, rfl⟩ := okWide_slice Try.underlying35 (hval 1 35 v1 rfl rfl)
  obtain ⟨A1, c1, l1, e1, hc1, hm1, hs1⟩ : ∃ (A : Option Addr) (c : Nat) (l : List Bool), Value.slice a1 n1 cc1 = .slice A l.length c ∧ l.length ≤ c ∧ c ≤ maxLen ∧ Sees W W.heap.size A (boos l) := by
    obtain ⟨m, hm⟩ := h1
    obtain ⟨A, c, l, e, r1, r2, r3⟩ := open_bools4 Try.underlying35 Try.underlying4 (by kernel_rfl) hm
    exact ⟨A, c, l, by simpa [Value.cells] using e, r1, r2, r3⟩
  injection e1 with e1 e2 e3
  subst e1 e2 e3
  obtain ⟨a2, n2, cc2, rfl⟩ := okWide_slice Try.underlying36 (hval 2 36 v2 rfl rfl)
  obtain ⟨A2, c2, l2, e2, hc2, hm2, hs2⟩ : ∃ (A : Option Addr) (c : Nat) (l : List Int), Value.slice a2 n2 cc2 = .slice A l.length c ∧ l.length ≤ c ∧ c ≤ maxLen ∧ Sees W W.heap.size A (ints l) := by
    obtain ⟨m, hm⟩ := h2
    obtain ⟨A, c, l, e, r1, r2, r3⟩ := open_ints4 Try.underlying36 Try.underlying3 (by kernel_rfl) hm
    exact ⟨A, c, l, by simpa [Value.cells] using e, r1, r2, r3⟩
  injection e2 with e1 e2 e3
  subst e1 e2 e3
  clear hA0 hval0
  refine (walkExactBreakerPath _ _ l1 _ _ l2 ⟨f0_0, f0_1, f0_2, f0_3, f0_4⟩ W (Nat.le_trans hc1 hm1) hc1 hs1 (Nat.le_trans hc2 hm2) hc2 hs2).mono fun e W' ⟨he, bel⟩ => ?_
  subst he
  exact ⟨_, rfl, _, _, _, [], _, [], hW', trodAll_mk1 (shut_bool Try.underlying4 _), (trodAll_cons_mk (Below.trod laidOut (by kernel_rfl) (of_decide_eq_true (by kernel_rfl)) k0 bel lt0) (trodAll_cons_mk (Below.trod laidOut (by kernel_rfl) (of_decide_eq_true (by kernel_rfl)) k1 bel lt1) (trodAll_cons_mk (Below.trod laidOut (by kernel_rfl) (of_decide_eq_true (by kernel_rfl)) k2 bel lt2) trodAll_mk0))), rfl, bel.frame _, fun h => by cases h⟩

theorem over : Rows.fnExactBreakerPathRow.holds Try.pinned (OpenSpec.ofChange Rows.fnExactBreakerPathSpec) :=
  OpenClaim.holds_of_wide 7 Try.f7 rfl rfl rfl rfl rfl rfl rfl ⟨rfl, rfl, rfl, rfl, rfl⟩ rfl rfl rfl rfl rfl (by kernel_rfl) Try.func7 (by kernel_rfl)
    (of_decide_eq_true (by kernel_rfl)) (by unfold Func.isWrapper; first | (rw [if_pos (by decide +kernel)]; kernel_rfl) | (rw [if_neg (by decide +kernel)]; exact ⟨rfl, rfl⟩))
    (fun os started H enc _ => lifted os started H enc)

theorem proved : Rows.FnExactBreakerPathSaid := over
#print axioms proved
end Go.Proofs.Ytkailakeiepkgaa.fnExactBreakerPath

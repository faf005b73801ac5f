/-
  What the program's neverFalls and BreakerPath answer. Condition: the lists lie in memory.
-/
import Derived.Test.YtmaocmgnkdieeabBrkD
import Derived.Test.YtmaocmgnkdieeabWithin
import Derived.Test.YtmaocmgnkdieeabBoolA
import Derived.Test.YtmaocmgnkdieeabOwnI
namespace Go.Proofs.Ytmaocmgnkdieeab
open Go.RowKit Brk

theorem path_no {b : Br} {gs : List Bool} {ts : List Int} (h : ¬ PathOk b gs ts) : path b gs ts = [] := by unfold path; rw [if_neg (fun e => h (pathB_iff.1 e))]
theorem path_yes {b : Br} {gs : List Bool} {ts : List Int} (h : PathOk b gs ts) : path b gs ts = states b gs ts gs.length := by unfold path; rw [if_pos (pathB_iff.2 h)]
theorem getD_at {α : Type} {l : List α} {k : Nat} {d : α} (h : k < l.length) : l.getD k d = l[k] := by simp [List.getD_eq_getElem?_getD, h]
theorem brAt_step {b : Br} {gs : List Bool} {ts : List Int} {k : Nat} (h1 : k < gs.length) (h2 : k < ts.length) : brAt b gs ts (k + 1) = once (brAt b gs ts k) gs[k] ts[k] := by
  show once _ _ _ = _
  rw [getD_at h1, getD_at h2]
theorem brAt_mom {b : Br} {gs : List Bool} {ts : List Int} (h : PathOk b gs ts) {k : Nat} (h1 : k < gs.length) (h2 : k < ts.length) : momB (brAt b gs ts k) ts[k] = true := by
  obtain ⟨a, c⟩ := brAt_ok h k (Nat.le_of_lt h1)
  have := c k (Nat.le_refl _) h1
  rw [getD_at h2] at this
  exact momB_iff.2 ⟨a, this, (h.2.2.2.1 _ (List.getElem_mem h2)).2⟩
theorem nofall_no {ts : List Int} {k : Nat} (hk : k + 1 < ts.length) (h : ts[k + 1] < ts[k]) : nofall ts = false := by
  refine Bool.eq_false_iff.2 fun e => ?_
  have := nofall_iff.1 e k hk
  rw [getD_at hk, getD_at (by omega : k < ts.length)] at this
  omega
theorem nofall_next {ts : List Int} {k : Nat} (hk : k + 1 < ts.length) (h : ¬ ts[k + 1] < ts[k]) (ha : ∀ j, j + 1 < k + 1 → ts.getD j 0 ≤ ts.getD (j + 1) 0) : ∀ j, j + 1 < k + 1 + 1 → ts.getD j 0 ≤ ts.getD (j + 1) 0 := by
  intro j hj
  rcases Nat.lt_or_ge j k with e | e
  · exact ha j (by omega)
  · have : j = k := by omega
    subst this
    rw [getD_at hk, getD_at (by omega : j < ts.length)]
    omega
theorem Own.ne5 {w : World} {base g : Nat} {v : Value} {ys : List Int} {t : TypeId} {cs : Array Value} (h : Own w base v ys) (ha : At w g t cs) (ht : t ≠ 3) : v.ownBlock ≠ some g := by
  rcases h.out.2 with ⟨rfl, _⟩ | ⟨g', cap, cur, rfl, _, hg, _⟩
  · simp [Value.ownBlock]
  · intro e
    have e : g' = g := by simpa [Value.ownBlock] using e
    subst e
    unfold At at ha
    rw [hg] at ha
    injection ha with ha
    injection ha with _ ha
    exact ht ha.symm
theorem Own.far5 {w : World} {base g i : Nat} {v u : Value} {ys : List Int} {t : TypeId} {cs : Array Value} (h : Own w base v ys) (ha : At w g t cs) (ht : t ≠ 3) : Own (w.setCell ⟨g, i, none⟩ u) base v ys :=
  h.out.kept (grown_set w g i u) (.inr (h.ne5 ha ht))
theorem Own.alloc5 {w : World} {base : Nat} {v : Value} {ys : List Int} (h : Own w base v ys) (o : Obj) : Own (w.alloc o) base v ys := h.below ((Below.refl _ _).alloc (Nat.le_refl _) o)
set_option maxHeartbeats 1000000 in
theorem neverFalls_any (A : Option Addr) (c : Nat) (ts : List Int) (w : World) (h : Sees w w.heap.size A (ints ts)) (hn : ts.length ≤ 4194304) :
    Calls Try.prog 20 #[.slice A ts.length c] w fun e w' => e = .returned (.bool (nofall ts)) ∧ Below w.heap.size w w' := by
  have HN := hid hn; clear hn
  go_enter Try.func20, Try.ntmps20
  go_wp2
  go_loopw [6] (fun i wr => ∃ k : Nat, k ≤ ts.length ∧ i = .int .i64 k ∧ Below w.heap.size w wr ∧ Hid (∀ j, j + 1 < k → ts.getD j 0 ≤ ts.getD (j + 1) 0)) (fun i _ => ts.length - (intOf i).toNat)
  case atStart => exact ⟨0, Nat.zero_le _, rfl, Below.refl _ _, hid (by omega)⟩
  case round =>
    obtain ⟨k, hk, rfl, hb, HA⟩ := hrel
    have hn := HN.out
    by_cases hlt : k < ts.length
    · have hi : (k : Int) < (ts.length : Int) := by omega
      cases k with
      | zero =>
        have HX := hid (show ∀ j, j + 1 < 0 + 1 → ts.getD j 0 ≤ ts.getD (j + 1) 0 by omega)
        go_wp2
        go_quiet (fail)
        go_wp2
        go_roundw
        case rel => exact ⟨0 + 1, by omega, by go_num, below_drewN hb _, HX⟩
        case measure => simp [intOf]; omega
      | succ k =>
        obtain ⟨b, o, rfl, _, hc1⟩ := (h.below hb).int hlt
        obtain ⟨b', o', e1, _, hc2⟩ := (h.below hb).int (show k < ts.length by omega)
        injection e1 with e1
        injection e1 with e1 e2
        subst e1 e2
        have HS := hid (fun (hh : ts[k + 1] < ts[k]) => nofall_no hlt hh)
        have HM := hid (fun (hh : ¬ ts[k + 1] < ts[k]) => nofall_next hlt hh HA.out)
        obtain ⟨x, hx⟩ : ∃ x, x = ts[k + 1] := ⟨_, rfl⟩
        obtain ⟨y, hy⟩ : ∃ y, y = ts[k] := ⟨_, rfl⟩
        rw [← hx] at hc1 HS HM
        rw [← hy] at hc2 HS HM
        clear hx hy HA
        have hk1 : (k : Int) < (ts.length : Int) := by omega
        have hk0 : (0 : Int) < ((k + 1 : Nat) : Int) := by omega
        have hw1 : IntKind.i64.wrap (((k + 1 : Nat) : Int) - 1) = (k : Int) := by rw [IntKind.wrap_i64]; omega
        by_cases hxy : x < y
        · have HX := hid (HS.out hxy)
          go_wp2
          go_quiet (fail)
          go_wp2
          go_ret
          exact ⟨ret_bool HX.out.symm, below_drewN hb _⟩
        · have HX := hid (HM.out hxy)
          go_wp2
          go_quiet (fail)
          go_wp2
          go_roundw
          case rel => exact ⟨k + 1 + 1, by omega, by go_num, below_drewN hb _, HX⟩
          case measure => simp [intOf]; omega
    · have hi : ¬ (k : Int) < (ts.length : Int) := by omega
      have HX := hid (show nofall ts = true from nofall_iff.2 fun j hj => HA.out j (by omega))
      go_wp2
      go_ret
      exact ⟨ret_bool HX.out.symm, hb⟩

end Go.Proofs.Ytmaocmgnkdieeab

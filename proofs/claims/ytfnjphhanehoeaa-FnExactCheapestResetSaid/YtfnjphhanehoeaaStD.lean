/-
  What the model's ApplySettings and ResetPlan answer, and the functions that they call. Condition: the lists lie in memory.
-/
import Derived.Test.YtfnjphhanehoeaaStC
namespace Go.Proofs.Ytfnjphhanehoeaa
open Go.RowKit Stt

theorem stcl_on (l : List Stg) : ∀ u ∈ strip stcl l, u.oneCell' = true := by
  induction l with
  | nil => intro u hu; simp [strip] at hu
  | cons x l ih =>
    intro u hu
    rw [strip_cons, List.mem_append] at hu
    rcases hu with hu | hu
    · simp [stcl] at hu; rcases hu with rfl | rfl <;> rfl
    · exact ih u hu
theorem tab_yes {f : Int → Int} {k : Nat} (h : 0 ≤ f k) : tab f (k + 1) = tab f k ++ [⟨k, f k⟩] := if_pos h
theorem tab_no {f : Int → Int} {k : Nat} (h : ¬ 0 ≤ f k) : tab f (k + 1) = tab f k := if_neg h
set_option maxHeartbeats 8000000 in
theorem sResetPlan_any (A1 A2 : Option Addr) (c1 c2 : Nat) (l m : List Stg) (w : World) (h : Sees w w.heap.size A1 (strip stcl l)) (h' : Sees w w.heap.size A2 (strip stcl m)) (hn : l.length ≤ 4194304) (hm : m.length ≤ 4194304) :
    Calls Try.prog 18 #[.slice A1 l.length c1, .slice A2 m.length c2] w fun e w' => ∃ v, e = .returned v ∧ OwnG w' w.heap.size v (planL l m) ∧ Below w.heap.size w w' := by
  obtain ⟨i0, hi0, hz0, hz1, hz2⟩ := info_parts stgInfo
  have HN := hid hn
  have HM := hid hm
  clear hn hm
  have hb0 := (Below.refl w.heap.size w).alloc (Nat.le_refl _) (.cells #[] 41)
  rcases hv : setsB l with _ | _
  · have E := hid (planL_no (a := l) (b := m) (by simp [hv]))
    have HV := hid hv
    clear hv
    go_enter Try.func18, Try.ntmps18
    go_wp2_with fail
    with_reducible refine (svalidSettings_any A1 c1 l _ (h.onT hb0) HN.out).mono ?_
    rintro e w1 ⟨he, hb1⟩
    rw [HV.out] at he
    subst he
    go_wp2
    go_ret
    exact ⟨_, rfl, by rw [E.out]; exact OwnS.none_ _ _, hb0.trans (hb1.mono hb0.size)⟩
  rcases hc : setsB m with _ | _
  · have E := hid (planL_no (a := l) (b := m) (by simp [hc]))
    have HV := hid hv
    have HC := hid hc
    clear hv hc
    go_enter Try.func18, Try.ntmps18
    go_wp2_with fail
    with_reducible refine (svalidSettings_any A1 c1 l _ (h.onT hb0) HN.out).mono ?_
    rintro e w1 ⟨he, hb1⟩
    rw [HV.out] at he
    subst he
    have hB1 := hb0.trans (hb1.mono hb0.size)
    go_wp2_with fail
    with_reducible refine (svalidSettings_any A2 c2 m _ (h'.onT hB1) HM.out).mono ?_
    rintro e w2 ⟨he, hb2⟩
    rw [HC.out] at he
    subst he
    go_wp2
    go_ret
    exact ⟨_, rfl, by rw [E.out]; exact OwnS.none_ _ _, hB1.trans (hb2.mono hB1.size)⟩
  have E := hid (planL_yes hv hc)
  have HV := hid hv
  have HC := hid hc
  clear hv hc
  have ho0 : OwnG (w.alloc (.cells #[] 41)) w.heap.size (.slice (some ⟨w.heap.size, 0, none⟩) 0 0) [] := made_at 41 2 rfl (Nat.le_refl _)
  go_enter Try.func18, Try.ntmps18
  go_wp2_with fail
  with_reducible refine (svalidSettings_any A1 c1 l _ (h.onT hb0) HN.out).mono ?_
  rintro e w1 ⟨he, hb1⟩
  rw [HV.out] at he
  subst he
  have hB1 := hb0.trans (hb1.mono hb0.size)
  have ho1 := ho0.below hb1
  clear hb1 hb0 ho0
  go_wp2_with fail
  with_reducible refine (svalidSettings_any A2 c2 m _ (h'.onT hB1) HM.out).mono ?_
  rintro e w2 ⟨he, hb2⟩
  rw [HC.out] at he
  subst he
  have hB2 := hB1.trans (hb2.mono hB1.size)
  have ho2 := ho1.below hb2
  clear hb2 ho1 hB1
  go_wp2
  go_loopw [5, 6] (fun v i wr => ∃ (k : Nat) (L : List Stg), k ≤ 10 ∧ i = .int .i64 k ∧ Hid (plan l m k = L) ∧ OwnG wr w.heap.size v L ∧ Below w.heap.size w wr) (fun _ i _ => 10 - (intOf i).toNat)
  case atStart => exact ⟨0, [], by decide, rfl, hid rfl, ho2, hB2⟩
  case round =>
    clear ho2 hB2
    obtain ⟨k, L, hk, rfl, HL, ho, hb⟩ := hrel
    by_cases hlt : k < 10
    · have hi : (k : Int) ≤ 9 := by omega
      have hkl : L.length ≤ 10 := by have := plan_len l m k; rw [HL.out] at this; omega
      have HY := hid (fun (hh : val l k = val m k) => (show plan l m (k + 1) = L by rw [plan, if_pos hh, HL.out]))
      have HNO := hid (fun (hh : ¬ val l k = val m k) => (show plan l m (k + 1) = L ++ [⟨k, val m k⟩] by rw [plan, if_neg hh, HL.out]))
      have hz := hb.size
      have hlow := ho.lt
      have hs1 := h.below hb
      have hs2 := h'.below hb
      obtain ⟨x, hx⟩ : ∃ x, x = val l k := ⟨_, rfl⟩
      obtain ⟨y, hy⟩ : ∃ y, y = val m k := ⟨_, rfl⟩
      have HX := hid hx.symm
      have HYY := hid hy.symm
      rw [← hx, ← hy] at HY
      rw [← hx, ← hy] at HNO
      clear hx hy
      rcases hxy : (x != y) with _ | _
      · have HE := hid (HY.out (by simpa using hxy))
        go_wp2_with fail
        with_reducible refine (valueOf_any A1 c1 l k _ hs1 HN.out).mono ?_
        rintro e w' ⟨he, rfl⟩
        rw [HX.out] at he
        subst he
        go_wp2_with fail
        with_reducible refine (valueOf_any A2 c2 m k _ hs2 HM.out).mono ?_
        rintro e w' ⟨he, rfl⟩
        rw [HYY.out] at he
        subst he
        go_wp2
        go_roundw
        case rel => exact ⟨k + 1, _, by omega, by go_num, HE, ho, hb⟩
        case measure => simp [intOf]; omega
      · have HE := hid (HNO.out (by simpa using hxy))
        go_wp2_with fail
        with_reducible refine (valueOf_any A1 c1 l k _ hs1 HN.out).mono ?_
        rintro e w' ⟨he, rfl⟩
        rw [HX.out] at he
        subst he
        go_wp2_with fail
        with_reducible refine (valueOf_any A2 c2 m k _ hs2 HM.out).mono ?_
        rintro e w' ⟨he, rfl⟩
        rw [HYY.out] at he
        subst he
        go_wp2_with fail
        with_reducible refine (valueOf_any A2 c2 m k _ hs2 HM.out).mono ?_
        rintro e w' ⟨he, rfl⟩
        rw [HYY.out] at he
        subst he
        go_wp2_with (at_builtin; refine wpList_append_own _ rfl _ _ 29 rfl (w.heap.size) 41 i0 (.agg #[.int .i64 0, .int .i64 0]) 2 16 Try.underlying29 hi0 hz0 hz1 hz2 rfl (by decide) _ _ _ rfl (ho.alloc _).out ⟨wr.heap.size, 0, none⟩ 1 1 [.int .i64 k, .int .i64 y] rfl rfl (by simpa using cells_new (wr) [.int .i64 k, .int .i64 y] 41) ?f32 ?f33 ?f34 ?f35 ?_)
        case f32 => simp [Value.oneCell']
        case f33 => unfold maxLen; omega
        case f34 => omega
        try (case f35 => first | omega | (simp; omega) | (simp; done))
        case _ =>
          intro v1 w2 a1 ag1 _
          obtain ⟨ho7, hb7⟩ := ho.snoc (x := ⟨k, y⟩) hb (Nat.le_refl _) a1 ag1
          clear a1 ag1 ho hb
          go_wp2
          go_roundw
          case rel => exact ⟨k + 1, _, by omega, by go_num, HE, ho7, hb7⟩
          case measure => simp [intOf]; omega
    · have hi : ¬ (k : Int) ≤ 9 := by omega
      have HX := hid (show L = planL l m by rw [E.out, ← HL.out, show k = 10 by omega])
      go_wp2
      go_ret
      exact ⟨_, rfl, by rw [← HX.out]; exact ho, hb⟩

end Go.Proofs.Ytfnjphhanehoeaa

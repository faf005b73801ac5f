/-
  What the program's ApplySettings and ResetPlan answer. Condition: the lists lie in memory.
-/
import Derived.Test.YtfnjphhanehoeaaStB
namespace Go.Proofs.Ytfnjphhanehoeaa
open Go.RowKit Stt

theorem Sees.onT {w w' : World} {A : Option Addr} {xs : List Value} (h : Sees w w.heap.size A xs) (hb : Below w.heap.size w w') : Sees w' w'.heap.size A xs := (h.below hb).more hb.size
/-- Settings that a call made, and a truth value. -/
def AppAns (l cs : List Stg) (w : World) (e : Ending) (w' : World) : Prop :=
  ∃ v, e = .returned (.tuple #[v, .bool (applyB l cs)]) ∧ OwnG w' w.heap.size v (applyL l cs) ∧ Below w.heap.size w w'
set_option maxHeartbeats 8000000 in
theorem iResetPlan_any (A1 A2 : Option Addr) (c1 c2 : Nat) (l m : List Stg) (w : World) (h : Sees w w.heap.size A1 (strip stcl l)) (h' : Sees w w.heap.size A2 (strip stcl m)) (hn : l.length ≤ 4194304) (hm : m.length ≤ 4194304) :
    Calls Try.prog 15 #[.slice A1 l.length c1, .slice A2 m.length c2] w fun e w' => ∃ v, e = .returned v ∧ OwnG w' w.heap.size v (planL l m) ∧ Below w.heap.size w w' := by
  obtain ⟨i0, hi0, hz0, hz1, hz2⟩ := info_parts stgInfo
  have HN := hid hn
  have HM := hid hm
  clear hn hm
  rcases hv : setsB l with _ | _
  · have E := hid (planL_no (a := l) (b := m) (by simp [hv]))
    have HV := hid hv
    clear hv
    go_enter Try.func15, Try.ntmps15
    go_wp2_with fail
    with_reducible refine (iValidSettings_any A1 c1 l _ h HN.out).mono ?_
    rintro e w1 ⟨he, hb1⟩
    rw [HV.out] at he
    subst he
    go_wp2
    go_ret
    exact ⟨_, rfl, by rw [E.out]; exact OwnS.none_ _ _, hb1⟩
  rcases hc : setsB m with _ | _
  · have E := hid (planL_no (a := l) (b := m) (by simp [hc]))
    have HV := hid hv
    have HC := hid hc
    clear hv hc
    go_enter Try.func15, Try.ntmps15
    go_wp2_with fail
    with_reducible refine (iValidSettings_any A1 c1 l _ h HN.out).mono ?_
    rintro e w1 ⟨he, hb1⟩
    rw [HV.out] at he
    subst he
    go_wp2_with fail
    with_reducible refine (iValidSettings_any A2 c2 m _ (h'.onT hb1) HM.out).mono ?_
    rintro e w2 ⟨he, hb2⟩
    rw [HC.out] at he
    subst he
    go_wp2
    go_ret
    exact ⟨_, rfl, by rw [E.out]; exact OwnS.none_ _ _, hb1.trans (hb2.mono hb1.size)⟩
  have E := hid (planL_yes hv hc)
  have HV := hid hv
  have HC := hid hc
  have HS0 := hid (mrg_start hv hc)
  have HL1 := hid (sets_len hv)
  have HL2 := hid (sets_len hc)
  clear hv hc
  go_enter Try.func15, Try.ntmps15
  go_wp2_with fail
  with_reducible refine (iValidSettings_any A1 c1 l _ h HN.out).mono ?_
  rintro e w1 ⟨he, hb1⟩
  rw [HV.out] at he
  subst he
  go_wp2_with fail
  with_reducible refine (iValidSettings_any A2 c2 m _ (h'.onT hb1) HM.out).mono ?_
  rintro e w2 ⟨he, hb2⟩
  rw [HC.out] at he
  subst he
  have hB2 := hb1.trans (hb2.mono hb1.size)
  clear hb1 hb2
  go_wp2
  go_loopw [5, 6, 7] (fun v iv jv wr => ∃ (i j q : Nat) (L : List Stg), iv = .int .i64 i ∧ jv = .int .i64 j ∧ Hid (Mrg l m i j q) ∧ Hid (plan l m q = L) ∧ i ≤ l.length ∧ j ≤ m.length ∧ L.length ≤ 10 ∧ OwnG wr w.heap.size v L ∧ Below w.heap.size w wr) (fun _ iv jv _ => (l.length - (intOf iv).toNat) + (m.length - (intOf jv).toNat))
  case atStart => exact ⟨0, 0, 0, [], rfl, rfl, HS0, hid rfl, Nat.zero_le _, Nat.zero_le _, by decide, OwnS.none_ _ _, hB2⟩
  case round =>
    clear hB2
    obtain ⟨i, j, q, L, rfl, rfl, HG, HP, hil, hjl, hLl, ho, hb⟩ := hrel
    have hn := HN.out
    have hm := HM.out
    by_cases hij : i < l.length ∨ j < m.length
    · have HIJ := hid hij
      have hg : ((i : Int) < (l.length : Int)) ∨ (¬ (i : Int) < (l.length : Int) ∧ (j : Int) < (m.length : Int)) := by omega
      have HLE := hid (fun hh => mrg_less HV.out HC.out HG.out hh)
      have HMO := hid (fun hh => mrg_more HV.out HC.out HG.out hh)
      have HSA := hid (fun hh => mrg_same HV.out HC.out HG.out hh HIJ.out)
      have hpl : ∀ q, (plan l m q).length ≤ q := plan_len l m
      have HPL := hid hpl
      clear hpl hij
      have hz := hb.size
      obtain ⟨x, hx⟩ : ∃ x, x = atS l i := ⟨_, rfl⟩
      obtain ⟨y, hy⟩ : ∃ y, y = atS m j := ⟨_, rfl⟩
      have HX := hid hx.symm
      have HY := hid hy.symm
      rw [← hx, ← hy] at HLE
      rw [← hx, ← hy] at HMO
      rw [← hx, ← hy] at HSA
      clear hx hy
      have hi9 := HL1.out
      have hj9 := HL2.out
      have hwi : IntKind.i64.wrap ((i : Int) + 1) = i + 1 := by rw [IntKind.wrap_i64]; omega
      have hwj : IntKind.i64.wrap ((j : Int) + 1) = j + 1 := by rw [IntKind.wrap_i64]; omega
      rcases hg with hg | ⟨hg', hg⟩
      · go_wp2_with fail
        with_reducible refine (settingAt_any A1 c1 l i _ (h.below hb) hz HN.out (by have := HN.out; omega)).mono ?_
        rintro e w3 ⟨he, hb3⟩
        rw [HX.out] at he
        subst he
        have hB3 := (hb.trans (hb3.mono hz)).alloc (by have := hb3.size; omega) (.cells #[.int .i64 x.n, .int .i64 x.v] 41)
        have ho3 := (ho.below hb3).alloc (.cells #[.int .i64 x.n, .int .i64 x.v] 41)
        have px := At.new w3 41 #[.int .i64 x.n, .int .i64 x.v]
        have hx3 := px.lt
        go_wp2_with fail
        with_reducible refine (settingAt_any A2 c2 m j _ (h'.below hB3) hB3.size HM.out (by have := HM.out; omega)).mono ?_
        rintro e w5 ⟨he, hb5⟩
        rw [HY.out] at he
        subst he
        have px5 := (px.below hb5 px.lt).alloc (.cells #[.int .i64 y.n, .int .i64 y.v] 41)
        have py5 := At.new w5 41 #[.int .i64 y.n, .int .i64 y.v]
        have hB5 := (hB3.trans (hb5.mono hB3.size)).alloc (by have := hB3.size; have := hb5.size; omega) (.cells #[.int .i64 y.n, .int .i64 y.v] 41)
        have ho5 := (ho3.below hb5).alloc (.cells #[.int .i64 y.n, .int .i64 y.v] 41)
        have hz5 := hb5.size
        have hxy : ¬ w3.heap.size = w5.heap.size := by omega
        have hyx : ¬ w5.heap.size = w3.heap.size := by omega
        have hzz := hB5.size
        have hz6 : w.heap.size ≤ w5.heap.size := Nat.le_trans hB3.size hb5.size
        obtain ⟨p0, p1⟩ := (show _ ∧ _ from ⟨px5.cell 0, px5.cell 1⟩)
        obtain ⟨q0, q1⟩ := (show _ ∧ _ from ⟨py5.cell 0, py5.cell 1⟩)
        clear hb3 hB3 ho3 px hx3 hb5 ho hb
        by_cases h1 : x.n < y.n
        · obtain ⟨hi1, m', hM', hP'⟩ := HLE.out h1
          have HM' := hid hM'
          have HP' := hid hP'
          have hlen := HPL.out m'
          have h10 := hM'.1
          rw [HP.out] at HP'
          rw [HP'.out] at hlen
          clear hM' hP'
          go_wp2_with (at_builtin; refine wpList_append_own _ rfl _ _ 29 rfl (w.heap.size) 41 i0 (.agg #[.int .i64 0, .int .i64 0]) 2 16 Try.underlying29 hi0 hz0 hz1 hz2 rfl (by decide) _ _ _ rfl (ho5.alloc _).out ⟨w5.heap.size + 1, 0, none⟩ 1 1 [.int .i64 x.n, .int .i64 (-1)] rfl rfl (by simpa using cells_new (w5.alloc (.cells #[.int .i64 y.n, .int .i64 y.v] 41)) [.int .i64 x.n, .int .i64 (-1)] 41) ?d12 ?d13 ?d14 ?d15 ?_)
          case d12 => simp [Value.oneCell']
          case d13 => unfold maxLen; omega
          case d14 => omega
          try (case d15 => first | omega | (simp; omega) | (simp; done))
          case _ =>
            intro v7 w7 a1 ag1 _
            obtain ⟨ho7, hb7⟩ := ho5.snoc (x := ⟨x.n, -1⟩) hB5 (Nat.le_refl _) a1 ag1
            clear a1 ag1 p0 p1 q0 q1 px5 py5 hB5 ho5
            go_wp2
            go_roundw
            case rel => exact ⟨i + 1, j, m', _, by go_num, rfl, HM', HP', by omega, by omega, Nat.le_trans hlen h10, ho7, hb7⟩
            case measure => simp [intOf]; omega
        · by_cases h2 : x.n > y.n
          · have h2' : y.n < x.n := h2
            obtain ⟨hj1, m', hM', hP'⟩ := HMO.out h2
            have HM' := hid hM'
            have HP' := hid hP'
            have hlen := HPL.out m'
            have h10 := hM'.1
            rw [HP.out] at HP'
            rw [HP'.out] at hlen
            clear hM' hP'
            go_wp2_with (at_builtin; refine wpList_append_own _ rfl _ _ 29 rfl (w.heap.size) 41 i0 (.agg #[.int .i64 0, .int .i64 0]) 2 16 Try.underlying29 hi0 hz0 hz1 hz2 rfl (by decide) _ _ _ rfl (ho5.alloc _).out ⟨w5.heap.size + 1, 0, none⟩ 1 1 [.int .i64 y.n, .int .i64 y.v] rfl rfl (by simpa using cells_new (w5.alloc (.cells #[.int .i64 y.n, .int .i64 y.v] 41)) [.int .i64 y.n, .int .i64 y.v] 41) ?e22 ?e23 ?e24 ?e25 ?_)
            case e22 => simp [Value.oneCell']
            case e23 => unfold maxLen; omega
            case e24 => omega
            try (case e25 => first | omega | (simp; omega) | (simp; done))
            case _ =>
              intro v7 w7 a1 ag1 _
              obtain ⟨ho7, hb7⟩ := ho5.snoc (x := y) hB5 (Nat.le_refl _) a1 ag1
              clear a1 ag1 p0 p1 q0 q1 px5 py5 hB5 ho5
              go_wp2
              go_roundw
              case rel => exact ⟨i, j + 1, m', _, rfl, by go_num, HM', HP', by omega, by omega, Nat.le_trans hlen h10, ho7, hb7⟩
              case measure => simp [intOf]; omega
          · have h2' : ¬ y.n < x.n := h2
            obtain ⟨⟨hi1, hj1⟩, m', hM', hP'⟩ := HSA.out (by omega)
            have HM' := hid hM'
            have hlen := HPL.out m'
            have h10 := hM'.1
            rw [HP.out] at hP'
            rcases h3 : (x.v != y.v) with _ | _
            · rw [if_pos (by simpa using h3)] at hP'
              have HP' := hid hP'
              rw [HP'.out] at hlen
              clear hM' hP'
              go_wp2
              go_roundw
              case rel => exact ⟨i + 1, j + 1, m', _, by go_num, by go_num, HM', HP', by omega, by omega, Nat.le_trans hlen h10, ho5, hB5⟩
              case measure => simp [intOf]; omega
            · rw [if_neg (by simpa using h3)] at hP'
              have HP' := hid hP'
              rw [HP'.out] at hlen
              clear hM' hP'
              go_wp2_with (at_builtin; refine wpList_append_own _ rfl _ _ 29 rfl (w.heap.size) 41 i0 (.agg #[.int .i64 0, .int .i64 0]) 2 16 Try.underlying29 hi0 hz0 hz1 hz2 rfl (by decide) _ _ _ rfl (ho5.alloc _).out ⟨w5.heap.size + 1, 0, none⟩ 1 1 [.int .i64 y.n, .int .i64 y.v] rfl rfl (by simpa using cells_new (w5.alloc (.cells #[.int .i64 y.n, .int .i64 y.v] 41)) [.int .i64 y.n, .int .i64 y.v] 41) ?f32 ?f33 ?f34 ?f35 ?_)
              case f32 => simp [Value.oneCell']
              case f33 => unfold maxLen; omega
              case f34 => omega
              try (case f35 => first | omega | (simp; omega) | (simp; done))
              case _ =>
                intro v7 w7 a1 ag1 _
                obtain ⟨ho7, hb7⟩ := ho5.snoc (x := y) hB5 (Nat.le_refl _) a1 ag1
                clear a1 ag1 p0 p1 q0 q1 px5 py5 hB5 ho5
                go_wp2
                go_roundw
                case rel => exact ⟨i + 1, j + 1, m', _, by go_num, by go_num, HM', HP', by omega, by omega, Nat.le_trans hlen h10, ho7, hb7⟩
                case measure => simp [intOf]; omega
      · go_wp2_with fail
        with_reducible refine (settingAt_any A1 c1 l i _ (h.below hb) hz HN.out (by have := HN.out; omega)).mono ?_
        rintro e w3 ⟨he, hb3⟩
        rw [HX.out] at he
        subst he
        have hB3 := (hb.trans (hb3.mono hz)).alloc (by have := hb3.size; omega) (.cells #[.int .i64 x.n, .int .i64 x.v] 41)
        have ho3 := (ho.below hb3).alloc (.cells #[.int .i64 x.n, .int .i64 x.v] 41)
        have px := At.new w3 41 #[.int .i64 x.n, .int .i64 x.v]
        have hx3 := px.lt
        go_wp2_with fail
        with_reducible refine (settingAt_any A2 c2 m j _ (h'.below hB3) hB3.size HM.out (by have := HM.out; omega)).mono ?_
        rintro e w5 ⟨he, hb5⟩
        rw [HY.out] at he
        subst he
        have px5 := (px.below hb5 px.lt).alloc (.cells #[.int .i64 y.n, .int .i64 y.v] 41)
        have py5 := At.new w5 41 #[.int .i64 y.n, .int .i64 y.v]
        have hB5 := (hB3.trans (hb5.mono hB3.size)).alloc (by have := hB3.size; have := hb5.size; omega) (.cells #[.int .i64 y.n, .int .i64 y.v] 41)
        have ho5 := (ho3.below hb5).alloc (.cells #[.int .i64 y.n, .int .i64 y.v] 41)
        have hz5 := hb5.size
        have hxy : ¬ w3.heap.size = w5.heap.size := by omega
        have hyx : ¬ w5.heap.size = w3.heap.size := by omega
        have hzz := hB5.size
        have hz6 : w.heap.size ≤ w5.heap.size := Nat.le_trans hB3.size hb5.size
        obtain ⟨p0, p1⟩ := (show _ ∧ _ from ⟨px5.cell 0, px5.cell 1⟩)
        obtain ⟨q0, q1⟩ := (show _ ∧ _ from ⟨py5.cell 0, py5.cell 1⟩)
        clear hb3 hB3 ho3 px hx3 hb5 ho hb
        by_cases h1 : x.n < y.n
        · obtain ⟨hi1, _⟩ := HLE.out h1
          omega
        · by_cases h2 : x.n > y.n
          · have h2' : y.n < x.n := h2
            obtain ⟨hj1, m', hM', hP'⟩ := HMO.out h2
            have HM' := hid hM'
            have HP' := hid hP'
            have hlen := HPL.out m'
            have h10 := hM'.1
            rw [HP.out] at HP'
            rw [HP'.out] at hlen
            clear hM' hP'
            go_wp2_with (at_builtin; refine wpList_append_own _ rfl _ _ 29 rfl (w.heap.size) 41 i0 (.agg #[.int .i64 0, .int .i64 0]) 2 16 Try.underlying29 hi0 hz0 hz1 hz2 rfl (by decide) _ _ _ rfl (ho5.alloc _).out ⟨w5.heap.size + 1, 0, none⟩ 1 1 [.int .i64 y.n, .int .i64 y.v] rfl rfl (by simpa using cells_new (w5.alloc (.cells #[.int .i64 y.n, .int .i64 y.v] 41)) [.int .i64 y.n, .int .i64 y.v] 41) ?g42 ?g43 ?g44 ?g45 ?_)
            case g42 => simp [Value.oneCell']
            case g43 => unfold maxLen; omega
            case g44 => omega
            try (case g45 => first | omega | (simp; omega) | (simp; done))
            case _ =>
              intro v7 w7 a1 ag1 _
              obtain ⟨ho7, hb7⟩ := ho5.snoc (x := y) hB5 (Nat.le_refl _) a1 ag1
              clear a1 ag1 p0 p1 q0 q1 px5 py5 hB5 ho5
              go_wp2
              go_roundw
              case rel => exact ⟨i, j + 1, m', _, rfl, by go_num, HM', HP', by omega, by omega, Nat.le_trans hlen h10, ho7, hb7⟩
              case measure => simp [intOf]; omega
          · obtain ⟨⟨hi1, hj1⟩, _⟩ := HSA.out (by omega)
            omega
    · have hi : ¬ (i : Int) < (l.length : Int) := by omega
      have hj : ¬ (j : Int) < (m.length : Int) := by omega
      have HX := hid (show L = planL l m by rw [E.out, ← HP.out]; exact (mrg_end HV.out HC.out HG.out (by omega) (by omega)).symm)
      go_wp2
      go_ret
      exact ⟨_, rfl, by rw [← HX.out]; exact ho, hb⟩

end Go.Proofs.Ytfnjphhanehoeaa

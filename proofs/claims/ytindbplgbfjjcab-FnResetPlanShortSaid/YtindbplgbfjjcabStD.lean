/-
  What the model's ApplySettings and ResetPlan answer, and the functions that they call. Condition: the lists lie in memory.
-/
import Derived.Test.YtindbplgbfjjcabStC
namespace Go.Proofs.Ytindbplgbfjjcab
open Go.RowKit Stt

theorem stcl_on (l : List Stg) : ∀ u ∈ strip stcl l, u.oneCell' = true := by
  induction l with
  | nil => intro u hu; simp [strip] at hu
  | cons x l ih =>
    intro u hu
    rw [strip_cons, List.mem_append] at hu
    rcases hu with hu | hu
    · simp [stcl] at hu; rcases hu with rfl | rfl <;> rfl
    · exact ih u hu
theorem tab_yes {f : Int → Int} {k : Nat} (h : 0 ≤ f k) : tab f (k + 1) = tab f k ++ [⟨k, f k⟩] := if_pos h
theorem tab_no {f : Int → Int} {k : Nat} (h : ¬ 0 ≤ f k) : tab f (k + 1) = tab f k := if_neg h
set_option maxHeartbeats 4000000 in
theorem mapply_any (A : Option Addr) (c : Nat) (l : List Stg) (d : Stg) (w : World) (h : Sees w w.heap.size A (strip stcl l)) (hn : l.length ≤ 4194304) :
    Calls Try.prog 31 #[.slice A l.length c, .agg #[.int .i64 d.n, .int .i64 d.v]] w fun e w' => ∃ v, e = .returned v ∧ OwnG w' w.heap.size v (tab (set1 l d) 10) ∧ Below w.heap.size w w' := by
  obtain ⟨i0, hi0, hz0, hz1, hz2⟩ := info_parts stgInfo
  have HN := hid hn
  clear hn
  have px0 := (At.new w 31 #[.int .i64 d.n, .int .i64 d.v]).alloc (.cells #[] 31)
  have hB0 := ((Below.refl w.heap.size w).alloc (Nat.le_refl _) (.cells #[.int .i64 d.n, .int .i64 d.v] 31)).alloc (by simp) (.cells #[] 31)
  have ho0 : OwnG ((w.alloc (.cells #[.int .i64 d.n, .int .i64 d.v] 31)).alloc (.cells #[] 31)) (w.heap.size + 1) (.slice (some ⟨w.heap.size + 1, 0, none⟩) 0 0) [] := made_at 31 2 (by simp) (Nat.le_refl _)
  have HSV := hid (fun (k : Nat) (hh : (k : Int) = d.n) => (show set1 l d k = d.v from if_pos hh))
  have HSO := hid (fun (k : Nat) (hh : ¬ (k : Int) = d.n) => (show set1 l d k = val l k from if_neg hh))
  obtain ⟨f, hf⟩ : ∃ f, f = set1 l d := ⟨_, rfl⟩
  rw [← hf] at HSV
  rw [← hf] at HSO
  rw [← hf]
  clear hf
  go_enter Try.func31, Try.ntmps31
  go_wp2
  go_loopw [5, 6] (fun v i wr => ∃ (k : Nat) (L : List Stg), k ≤ 10 ∧ i = .int .i64 k ∧ Hid (tab f k = L) ∧ OwnG wr (w.heap.size + 1) v L ∧ At wr w.heap.size 31 #[.int .i64 d.n, .int .i64 d.v] ∧ Below w.heap.size w wr) (fun _ i _ => 10 - (intOf i).toNat)
  case atStart => exact ⟨0, [], by decide, rfl, hid rfl, ho0, px0, hB0⟩
  case round =>
    clear ho0 px0 hB0
    obtain ⟨k, L, hk, rfl, HL, ho, px, hb⟩ := hrel
    by_cases hlt : k < 10
    · have hi : (k : Int) ≤ 9 := by omega
      have hkl : L.length ≤ 10 := by have := tab_len f k; rw [HL.out] at this; omega
      have HY := hid (fun (hh : 0 ≤ f k) => tab_yes hh)
      have HNO := hid (fun (hh : ¬ 0 ≤ f k) => tab_no hh)
      rw [HL.out] at HY
      rw [HL.out] at HNO
      have hz := hb.size
      have hlow := ho.lt
      have hgl := px.lt
      have hs := h.below hb
      have HV := hid (HSV.out k)
      have HO := hid (HSO.out k)
      obtain ⟨p0, p1⟩ := (show _ ∧ _ from ⟨px.cell 0, px.cell 1⟩)
      obtain ⟨y, hy⟩ : ∃ y, y = f k := ⟨_, rfl⟩
      rw [← hy] at HY
      rw [← hy] at HNO
      rw [← hy] at HV
      rw [← hy] at HO
      clear hy
      rcases hd : ((k : Int) == d.n) with _ | _
      · have hyv := HO.out (by simpa using hd)
        have HU := hid hyv.symm
        clear hyv
        by_cases hy0 : y ≥ 0
        · have HX := hid (HY.out hy0)
          have hy0' : 0 ≤ y := hy0
          go_wp2_with fail
          with_reducible refine (valueOf_any A c l k _ hs HN.out).mono ?_
          rintro e w' ⟨he, rfl⟩
          rw [HU.out] at he
          subst he
          go_wp2_with (at_builtin; refine wpList_append_own _ rfl _ _ 23 rfl (w.heap.size + 1) 31 i0 (.agg #[.int .i64 0, .int .i64 0]) 2 16 Try.underlying23 hi0 hz0 hz1 hz2 rfl (by decide) _ _ _ rfl (ho.alloc _).out ⟨wr.heap.size, 0, none⟩ 1 1 [.int .i64 k, .int .i64 y] rfl rfl (by simpa using cells_new (wr) [.int .i64 k, .int .i64 y] 31) ?e22 ?e23 ?e24 ?e25 ?_)
          case e22 => simp [Value.oneCell']
          case e23 => unfold maxLen; omega
          case e24 => omega
          try (case e25 => first | omega | (simp; omega) | (simp; done))
          case _ =>
            intro v1 w2 h1 hg1 _
            have hbw2 : Below (w.heap.size + 1) wr w2 := ((Below.refl _ _).alloc (by omega) (.cells #[.int .i64 k, .int .i64 y] 31)).grown hg1 (by simp; omega) (fun q hq => (hlow q hq).1)
            have px2 := px.below hbw2 (by omega)
            have ho1 : OwnG w2 (w.heap.size + 1) v1 (L ++ [⟨k, y⟩]) := by unfold OwnG OwnS; rw [strip_snoc, List.length_append]; exact h1
            have hb1 := hb.trans (hbw2.mono (by omega))
            clear h1 hg1 hbw2 p0 p1 px ho hb
            go_wp2
            go_roundw
            case rel => exact ⟨k + 1, _, by omega, by go_num, HX, ho1, px2, hb1⟩
            case measure => simp [intOf]; omega
        · have HX := hid (HNO.out hy0)
          have hy0' : ¬ 0 ≤ y := hy0
          go_wp2_with fail
          with_reducible refine (valueOf_any A c l k _ hs HN.out).mono ?_
          rintro e w' ⟨he, rfl⟩
          rw [HU.out] at he
          subst he
          go_wp2
          go_roundw
          case rel => exact ⟨k + 1, _, by omega, by go_num, HX, ho, px, hb⟩
          case measure => simp [intOf]; omega
      · have hyv := HV.out (by simpa using hd)
        have HU : Hid (d.v = y) := hid hyv.symm
        rw [hyv] at HY
        rw [hyv] at HNO
        by_cases hy0 : d.v ≥ 0
        · have HX := hid (HY.out hy0)
          have hy0' : 0 ≤ d.v := hy0
          go_wp2_with fail
          with_reducible refine (valueOf_any A c l k _ hs HN.out).mono ?_
          rintro e w' ⟨he, rfl⟩
          subst he
          go_wp2_with (at_builtin; refine wpList_append_own _ rfl _ _ 23 rfl (w.heap.size + 1) 31 i0 (.agg #[.int .i64 0, .int .i64 0]) 2 16 Try.underlying23 hi0 hz0 hz1 hz2 rfl (by decide) _ _ _ rfl (ho.alloc _).out ⟨wr.heap.size, 0, none⟩ 1 1 [.int .i64 k, .int .i64 d.v] rfl rfl (by simpa using cells_new (wr) [.int .i64 k, .int .i64 d.v] 31) ?d12 ?d13 ?d14 ?d15 ?_)
          case d12 => simp [Value.oneCell']
          case d13 => unfold maxLen; omega
          case d14 => omega
          try (case d15 => first | omega | (simp; omega) | (simp; done))
          case _ =>
            intro v1 w2 h1 hg1 _
            have hbw2 : Below (w.heap.size + 1) wr w2 := ((Below.refl _ _).alloc (by omega) (.cells #[.int .i64 k, .int .i64 d.v] 31)).grown hg1 (by simp; omega) (fun q hq => (hlow q hq).1)
            have px2 := px.below hbw2 (by omega)
            have ho1 : OwnG w2 (w.heap.size + 1) v1 (L ++ [⟨k, d.v⟩]) := by unfold OwnG OwnS; rw [strip_snoc, List.length_append]; exact h1
            have hb1 := hb.trans (hbw2.mono (by omega))
            clear h1 hg1 hbw2 p0 p1 px ho hb
            go_wp2
            go_roundw
            case rel => exact ⟨k + 1, _, by omega, by go_num, HX, ho1, px2, hb1⟩
            case measure => simp [intOf]; omega
        · have HX := hid (HNO.out hy0)
          have hy0' : ¬ 0 ≤ d.v := hy0
          go_wp2_with fail
          with_reducible refine (valueOf_any A c l k _ hs HN.out).mono ?_
          rintro e w' ⟨he, rfl⟩
          subst he
          go_wp2
          go_roundw
          case rel => exact ⟨k + 1, _, by omega, by go_num, HX, ho, px, hb⟩
          case measure => simp [intOf]; omega
    · have hi : ¬ (k : Int) ≤ 9 := by omega
      have HX := hid (show L = tab f 10 by rw [← HL.out, show k = 10 by omega])
      go_wp2
      go_ret
      exact ⟨_, rfl, by rw [← HX.out]; exact ho.mono (by omega), hb⟩

set_option maxHeartbeats 8000000 in
theorem sApplySettings_any (A1 A2 : Option Addr) (c1 c2 : Nat) (l cs : List Stg) (w : World) (h : Sees w w.heap.size A1 (strip stcl l)) (h' : Sees w w.heap.size A2 (strip stcl cs)) (hn : l.length ≤ 4194304) (hm : cs.length ≤ 4194304) :
    Calls Try.prog 12 #[.slice A1 l.length c1, .slice A2 cs.length c2] w (AppAns l cs w) := by
  obtain ⟨i0, hi0, hz0, hz1, hz2⟩ := info_parts stgInfo
  have HN := hid hn
  have HM := hid hm
  clear hn hm
  rcases hv : setsB l with _ | _
  · have EB := hid (show applyB l cs = false by unfold applyB; rw [hv]; rfl)
    have EL := hid (applyL_no EB.out)
    have HV := hid hv
    clear hv
    go_enter Try.func12, Try.ntmps12
    go_wp2_with fail
    with_reducible refine (svalidSettings_any A1 c1 l _ h HN.out).mono ?_
    rintro e w1 ⟨he, hb1⟩
    rw [HV.out] at he
    subst he
    go_wp2
    go_ret2
    exact ⟨_, by rw [EB.out]; rfl, by rw [EL.out]; exact OwnS.none_ _ _, hb1⟩
  by_cases hl : (cs.length : Int) > 16
  · have EB := hid (show applyB l cs = false from Bool.eq_false_iff.2 fun e => by have := (chgsB_iff.1 (applyB_iff.1 e).2).1; omega)
    have EL := hid (applyL_no EB.out)
    have HV := hid hv
    clear hv
    go_enter Try.func12, Try.ntmps12
    go_wp2_with fail
    with_reducible refine (svalidSettings_any A1 c1 l _ h HN.out).mono ?_
    rintro e w1 ⟨he, hb1⟩
    rw [HV.out] at he
    subst he
    go_wp2
    go_ret2
    exact ⟨_, by rw [EB.out]; rfl, by rw [EL.out]; exact OwnS.none_ _ _, hb1⟩
  have HV := hid hv
  have HL16 := hid (show cs.length ≤ 16 by omega)
  have HLL := hid (sets_len hv)
  clear hv
  go_enter Try.func12, Try.ntmps12
  go_wp2_with fail
  with_reducible refine (svalidSettings_any A1 c1 l _ h HN.out).mono ?_
  rintro e w1 ⟨he, hb1⟩
  rw [HV.out] at he
  subst he
  have hs1 := h.onT hb1
  have ho1 : OwnG (w1.alloc (.cells #[] 31)) w1.heap.size (.slice (some ⟨w1.heap.size, 0, none⟩) 0 0) [] := made_at 31 2 rfl (Nat.le_refl _)
  have hB1 := hb1.alloc hb1.size (.cells #[] 31)
  obtain ⟨W2, hW2⟩ : ∃ W2 : World → Value → Prop, W2 = fun w2 v => OwnG w2 w.heap.size v l ∧ Below w.heap.size w w2 := ⟨_, rfl⟩
  rcases A1 with _ | ad
  · have e : l = [] := by
      have := hs1.none_nil
      have e2 := strip_len stcl_ln l
      rw [this] at e2
      exact List.eq_nil_of_length_eq_zero (by simp at e2; omega)
    subst e
    have K := hid (show W2 (w1.alloc (.cells #[] 31)) (.slice (some ⟨w1.heap.size, 0, none⟩) 0 0) by rw [hW2]; exact ⟨ho1.mono hb1.size, hB1⟩)
    clear hb1 hs1 ho1 hB1
    go_wp2
    go_loopw [6, 7] (fun v i wr => ∃ (k : Nat) (L : List Stg), k ≤ cs.length ∧ i = .int .i64 k ∧ Hid (app [] (cs.take k) = L) ∧ Hid (∀ x ∈ cs.take k, x.cok) ∧ OwnG wr w.heap.size v L ∧ Below w.heap.size w wr) (fun _ i _ => cs.length - (intOf i).toNat)
    case atStart =>
      have KK := K.out
      rw [hW2] at KK
      exact ⟨0, [], Nat.zero_le _, rfl, hid rfl, hid (by simp), KK.1, KK.2⟩
    case round =>
      clear K hW2
      obtain ⟨k, L, hk, rfl, HL, HF, ho, hb⟩ := hrel
      have hm := HM.out
      by_cases hlt : k < cs.length
      · have hi : (k : Int) < (cs.length : Int) := by omega
        have hi0 : (0 : Int) ≤ (k : Int) := by omega
        obtain ⟨b, o, rfl, hbl, e0, e1⟩ := (h'.below hb).stg hlt
        have hz := hb.size
        have hbw : b < wr.heap.size := by omega
        have hva := app_valid (cs := cs.take k) HV.out HF.out
        rw [HL.out] at hva
        have HNO := hid (fun (hh : ¬ cs[k].cok) => (show applyB [] cs = false by unfold applyB; rw [chgs_no hlt hh]; cases setsB [] <;> rfl))
        have HS := hid (fun (hh : cs[k].cok) => (show ∀ x ∈ cs.take (k + 1), x.cok from fun x hx => by
          rw [List.take_succ_eq_append_getElem hlt, List.mem_append, List.mem_singleton] at hx
          rcases hx with hx | rfl
          · exact HF.out x hx
          · exact hh))
        have HL2 := hid (fun (hh : cs[k].cok) => (show app [] (cs.take (k + 1)) = tab (set1 L cs[k]) 10 by rw [app_succ hlt, HL.out]; exact put_val hva hh))
        have HLN := hid (show L.length ≤ 4194304 by have := sets_len hva; omega)
        obtain ⟨y, hy⟩ : ∃ y, y = cs[k] := ⟨_, rfl⟩
        rw [← hy] at e0 e1
        rw [← hy] at HNO
        rw [← hy] at HS
        rw [← hy] at HL2
        clear hy hva
        rcases d1 : inB y.n 0 9 with _ | _
        · have EB := hid (HNO.out (fun hh => by rw [inB_iff.2 hh.1] at d1; cases d1))
          have EL := hid (applyL_no EB.out)
          have HD := hid d1
          clear d1
          go_wp2_with fail
          with_reducible refine (inRange_any _ _ _ _).mono ?_
          rintro e w' ⟨he, rfl⟩
          rw [HD.out] at he
          subst he
          go_wp2
          go_ret2
          exact ⟨_, by rw [EB.out]; rfl, by rw [EL.out]; exact OwnS.none_ _ _, hb⟩
        rcases d2 : inB y.v (-1) 20 with _ | _
        · have EB := hid (HNO.out (fun hh => by rw [inB_iff.2 hh.2] at d2; cases d2))
          have EL := hid (applyL_no EB.out)
          have HD := hid d1
          have HD2 := hid d2
          clear d1 d2
          go_wp2_with fail
          with_reducible refine (inRange_any _ _ _ _).mono ?_
          rintro e w' ⟨he, rfl⟩
          rw [HD.out] at he
          subst he
          go_wp2_with fail
          with_reducible refine (inRange_any _ _ _ _).mono ?_
          rintro e w' ⟨he, rfl⟩
          rw [HD2.out] at he
          subst he
          go_wp2
          go_ret2
          exact ⟨_, by rw [EB.out]; rfl, by rw [EL.out]; exact OwnS.none_ _ _, hb⟩
        have hok : y.cok := ⟨inB_iff.1 d1, inB_iff.1 d2⟩
        have HX := hid (HS.out hok)
        have HX2 := hid (HL2.out hok)
        have HD := hid d1
        have HD2 := hid d2
        clear d1 d2 hok
        obtain ⟨A3, c3, rfl, _, _, hs⟩ := ho.form
        go_wp2_with fail
        with_reducible refine (inRange_any _ _ _ _).mono ?_
        rintro e w' ⟨he, rfl⟩
        rw [HD.out] at he
        subst he
        go_wp2_with fail
        with_reducible refine (inRange_any _ _ _ _).mono ?_
        rintro e w' ⟨he, rfl⟩
        rw [HD2.out] at he
        subst he
        go_wp2_with fail
        with_reducible refine (mapply_any A3 c3 L y _ hs HLN.out).mono ?_
        rintro e w4 ⟨v4, rfl, ho4, hb4⟩
        have hB4 := hb.trans (hb4.mono hz)
        have ho4' := ho4.mono hz
        clear ho4 hb4 e0 e1
        go_wp2
        go_roundw
        case rel => exact ⟨k + 1, _, by omega, by go_num, HX2, HX, ho4', hB4⟩
        case measure => simp [intOf]; omega
      · have hi : ¬ (k : Int) < (cs.length : Int) := by omega
        have hf := HF.out
        have hl := HL.out
        rw [take_whole hlt] at hf hl
        have EB := hid (show applyB [] cs = true from applyB_iff.2 ⟨HV.out, chgsB_iff.2 ⟨HL16.out, hf⟩⟩)
        have HX := hid (show L = applyL [] cs by rw [applyL_yes EB.out, hl])
        clear hf hl
        go_wp2
        go_ret2
        exact ⟨_, by rw [EB.out]; rfl, by rw [← HX.out]; exact ho, hb⟩
  · go_wp2_with (at_builtin; refine wpList_append_own _ rfl _ _ 23 rfl w1.heap.size 31 i0 (.agg #[.int .i64 0, .int .i64 0]) 2 16 Try.underlying23 hi0 hz0 hz1 hz2 rfl (by decide) _ _ _ rfl ho1.out ad l.length c1 (strip stcl l) rfl ?c1 ?cn ?c2 ?c3 ?c4 ?c5 ?_)
    case c1 => exact strip_len stcl_ln l
    case cn => exact (hs1.alloc (Nat.le_refl _) _).add
    case c2 => exact stcl_on l
    case c3 => have := HLL.out; unfold maxLen; simp; omega
    case c4 => have := HLL.out; simp; omega
    case c5 => simp
    case _ =>
      intro v2 w2 h2 hg2 _
      have K := hid (show W2 w2 v2 by
        rw [hW2]
        refine ⟨OwnS.mono (base := w1.heap.size) ?_ hb1.size, hB1.grown hg2 (by have := hB1.size; exact this) (fun q hq => Nat.le_trans hb1.size (ho1.lt q hq).1)⟩
        show w2.ownsRow w1.heap.size 31 2 v2 l.length (strip stcl l)
        simpa [strip] using h2)
      clear hb1 hs1 ho1 hB1 h2 hg2
      go_wp2
      go_loopw [6, 7] (fun v i wr => ∃ (k : Nat) (L : List Stg), k ≤ cs.length ∧ i = .int .i64 k ∧ Hid (app l (cs.take k) = L) ∧ Hid (∀ x ∈ cs.take k, x.cok) ∧ OwnG wr w.heap.size v L ∧ Below w.heap.size w wr) (fun _ i _ => cs.length - (intOf i).toNat)
      case atStart =>
        have KK := K.out
        rw [hW2] at KK
        exact ⟨0, l, Nat.zero_le _, rfl, hid rfl, hid (by simp), KK.1, KK.2⟩
      case round =>
        clear K hW2
        obtain ⟨k, L, hk, rfl, HL, HF, ho, hb⟩ := hrel
        have hm := HM.out
        by_cases hlt : k < cs.length
        · have hi : (k : Int) < (cs.length : Int) := by omega
          have hi0 : (0 : Int) ≤ (k : Int) := by omega
          obtain ⟨b, o, rfl, hbl, e0, e1⟩ := (h'.below hb).stg hlt
          have hz := hb.size
          have hbw : b < wr.heap.size := by omega
          have hva := app_valid (cs := cs.take k) HV.out HF.out
          rw [HL.out] at hva
          have HNO := hid (fun (hh : ¬ cs[k].cok) => (show applyB l cs = false by unfold applyB; rw [chgs_no hlt hh]; cases setsB l <;> rfl))
          have HS := hid (fun (hh : cs[k].cok) => (show ∀ x ∈ cs.take (k + 1), x.cok from fun x hx => by
            rw [List.take_succ_eq_append_getElem hlt, List.mem_append, List.mem_singleton] at hx
            rcases hx with hx | rfl
            · exact HF.out x hx
            · exact hh))
          have HL2 := hid (fun (hh : cs[k].cok) => (show app l (cs.take (k + 1)) = tab (set1 L cs[k]) 10 by rw [app_succ hlt, HL.out]; exact put_val hva hh))
          have HLN := hid (show L.length ≤ 4194304 by have := sets_len hva; omega)
          obtain ⟨y, hy⟩ : ∃ y, y = cs[k] := ⟨_, rfl⟩
          rw [← hy] at e0 e1
          rw [← hy] at HNO
          rw [← hy] at HS
          rw [← hy] at HL2
          clear hy hva
          rcases d1 : inB y.n 0 9 with _ | _
          · have EB := hid (HNO.out (fun hh => by rw [inB_iff.2 hh.1] at d1; cases d1))
            have EL := hid (applyL_no EB.out)
            have HD := hid d1
            clear d1
            go_wp2_with fail
            with_reducible refine (inRange_any _ _ _ _).mono ?_
            rintro e w' ⟨he, rfl⟩
            rw [HD.out] at he
            subst he
            go_wp2
            go_ret2
            exact ⟨_, by rw [EB.out]; rfl, by rw [EL.out]; exact OwnS.none_ _ _, hb⟩
          rcases d2 : inB y.v (-1) 20 with _ | _
          · have EB := hid (HNO.out (fun hh => by rw [inB_iff.2 hh.2] at d2; cases d2))
            have EL := hid (applyL_no EB.out)
            have HD := hid d1
            have HD2 := hid d2
            clear d1 d2
            go_wp2_with fail
            with_reducible refine (inRange_any _ _ _ _).mono ?_
            rintro e w' ⟨he, rfl⟩
            rw [HD.out] at he
            subst he
            go_wp2_with fail
            with_reducible refine (inRange_any _ _ _ _).mono ?_
            rintro e w' ⟨he, rfl⟩
            rw [HD2.out] at he
            subst he
            go_wp2
            go_ret2
            exact ⟨_, by rw [EB.out]; rfl, by rw [EL.out]; exact OwnS.none_ _ _, hb⟩
          have hok : y.cok := ⟨inB_iff.1 d1, inB_iff.1 d2⟩
          have HX := hid (HS.out hok)
          have HX2 := hid (HL2.out hok)
          have HD := hid d1
          have HD2 := hid d2
          clear d1 d2 hok
          obtain ⟨A3, c3, rfl, _, _, hs⟩ := ho.form
          go_wp2_with fail
          with_reducible refine (inRange_any _ _ _ _).mono ?_
          rintro e w' ⟨he, rfl⟩
          rw [HD.out] at he
          subst he
          go_wp2_with fail
          with_reducible refine (inRange_any _ _ _ _).mono ?_
          rintro e w' ⟨he, rfl⟩
          rw [HD2.out] at he
          subst he
          go_wp2_with fail
          with_reducible refine (mapply_any A3 c3 L y _ hs HLN.out).mono ?_
          rintro e w4 ⟨v4, rfl, ho4, hb4⟩
          have hB4 := hb.trans (hb4.mono hz)
          have ho4' := ho4.mono hz
          clear ho4 hb4 e0 e1
          go_wp2
          go_roundw
          case rel => exact ⟨k + 1, _, by omega, by go_num, HX2, HX, ho4', hB4⟩
          case measure => simp [intOf]; omega
        · have hi : ¬ (k : Int) < (cs.length : Int) := by omega
          have hf := HF.out
          have hl := HL.out
          rw [take_whole hlt] at hf hl
          have EB := hid (show applyB l cs = true from applyB_iff.2 ⟨HV.out, chgsB_iff.2 ⟨HL16.out, hf⟩⟩)
          have HX := hid (show L = applyL l cs by rw [applyL_yes EB.out, hl])
          clear hf hl
          go_wp2
          go_ret2
          exact ⟨_, by rw [EB.out]; rfl, by rw [← HX.out]; exact ho, hb⟩

set_option maxHeartbeats 8000000 in
theorem sResetPlan_any (A1 A2 : Option Addr) (c1 c2 : Nat) (l m : List Stg) (w : World) (h : Sees w w.heap.size A1 (strip stcl l)) (h' : Sees w w.heap.size A2 (strip stcl m)) (hn : l.length ≤ 4194304) (hm : m.length ≤ 4194304) :
    Calls Try.prog 18 #[.slice A1 l.length c1, .slice A2 m.length c2] w fun e w' => ∃ v, e = .returned v ∧ OwnG w' w.heap.size v (planL l m) ∧ Below w.heap.size w w' := by
  obtain ⟨i0, hi0, hz0, hz1, hz2⟩ := info_parts stgInfo
  have HN := hid hn
  have HM := hid hm
  clear hn hm
  have hb0 := (Below.refl w.heap.size w).alloc (Nat.le_refl _) (.cells #[] 31)
  rcases hv : setsB l with _ | _
  · have E := hid (planL_no (a := l) (b := m) (by simp [hv]))
    have HV := hid hv
    clear hv
    go_enter Try.func18, Try.ntmps18
    go_wp2_with fail
    with_reducible refine (svalidSettings_any A1 c1 l _ (h.onT hb0) HN.out).mono ?_
    rintro e w1 ⟨he, hb1⟩
    rw [HV.out] at he
    subst he
    go_wp2
    go_ret
    exact ⟨_, rfl, by rw [E.out]; exact OwnS.none_ _ _, hb0.trans (hb1.mono hb0.size)⟩
  rcases hc : setsB m with _ | _
  · have E := hid (planL_no (a := l) (b := m) (by simp [hc]))
    have HV := hid hv
    have HC := hid hc
    clear hv hc
    go_enter Try.func18, Try.ntmps18
    go_wp2_with fail
    with_reducible refine (svalidSettings_any A1 c1 l _ (h.onT hb0) HN.out).mono ?_
    rintro e w1 ⟨he, hb1⟩
    rw [HV.out] at he
    subst he
    have hB1 := hb0.trans (hb1.mono hb0.size)
    go_wp2_with fail
    with_reducible refine (svalidSettings_any A2 c2 m _ (h'.onT hB1) HM.out).mono ?_
    rintro e w2 ⟨he, hb2⟩
    rw [HC.out] at he
    subst he
    go_wp2
    go_ret
    exact ⟨_, rfl, by rw [E.out]; exact OwnS.none_ _ _, hB1.trans (hb2.mono hB1.size)⟩
  have E := hid (planL_yes hv hc)
  have HV := hid hv
  have HC := hid hc
  clear hv hc
  have ho0 : OwnG (w.alloc (.cells #[] 31)) w.heap.size (.slice (some ⟨w.heap.size, 0, none⟩) 0 0) [] := made_at 31 2 rfl (Nat.le_refl _)
  go_enter Try.func18, Try.ntmps18
  go_wp2_with fail
  with_reducible refine (svalidSettings_any A1 c1 l _ (h.onT hb0) HN.out).mono ?_
  rintro e w1 ⟨he, hb1⟩
  rw [HV.out] at he
  subst he
  have hB1 := hb0.trans (hb1.mono hb0.size)
  have ho1 := ho0.below hb1
  clear hb1 hb0 ho0
  go_wp2_with fail
  with_reducible refine (svalidSettings_any A2 c2 m _ (h'.onT hB1) HM.out).mono ?_
  rintro e w2 ⟨he, hb2⟩
  rw [HC.out] at he
  subst he
  have hB2 := hB1.trans (hb2.mono hB1.size)
  have ho2 := ho1.below hb2
  clear hb2 ho1 hB1
  go_wp2
  go_loopw [5, 6] (fun v i wr => ∃ (k : Nat) (L : List Stg), k ≤ 10 ∧ i = .int .i64 k ∧ Hid (plan l m k = L) ∧ OwnG wr w.heap.size v L ∧ Below w.heap.size w wr) (fun _ i _ => 10 - (intOf i).toNat)
  case atStart => exact ⟨0, [], by decide, rfl, hid rfl, ho2, hB2⟩
  case round =>
    clear ho2 hB2
    obtain ⟨k, L, hk, rfl, HL, ho, hb⟩ := hrel
    by_cases hlt : k < 10
    · have hi : (k : Int) ≤ 9 := by omega
      have hkl : L.length ≤ 10 := by have := plan_len l m k; rw [HL.out] at this; omega
      have HY := hid (fun (hh : val l k = val m k) => (show plan l m (k + 1) = L by rw [plan, if_pos hh, HL.out]))
      have HNO := hid (fun (hh : ¬ val l k = val m k) => (show plan l m (k + 1) = L ++ [⟨k, val m k⟩] by rw [plan, if_neg hh, HL.out]))
      have hz := hb.size
      have hlow := ho.lt
      have hs1 := h.below hb
      have hs2 := h'.below hb
      obtain ⟨x, hx⟩ : ∃ x, x = val l k := ⟨_, rfl⟩
      obtain ⟨y, hy⟩ : ∃ y, y = val m k := ⟨_, rfl⟩
      have HX := hid hx.symm
      have HYY := hid hy.symm
      rw [← hx, ← hy] at HY
      rw [← hx, ← hy] at HNO
      clear hx hy
      rcases hxy : (x != y) with _ | _
      · have HE := hid (HY.out (by simpa using hxy))
        go_wp2_with fail
        with_reducible refine (valueOf_any A1 c1 l k _ hs1 HN.out).mono ?_
        rintro e w' ⟨he, rfl⟩
        rw [HX.out] at he
        subst he
        go_wp2_with fail
        with_reducible refine (valueOf_any A2 c2 m k _ hs2 HM.out).mono ?_
        rintro e w' ⟨he, rfl⟩
        rw [HYY.out] at he
        subst he
        go_wp2
        go_roundw
        case rel => exact ⟨k + 1, _, by omega, by go_num, HE, ho, hb⟩
        case measure => simp [intOf]; omega
      · have HE := hid (HNO.out (by simpa using hxy))
        go_wp2_with fail
        with_reducible refine (valueOf_any A1 c1 l k _ hs1 HN.out).mono ?_
        rintro e w' ⟨he, rfl⟩
        rw [HX.out] at he
        subst he
        go_wp2_with fail
        with_reducible refine (valueOf_any A2 c2 m k _ hs2 HM.out).mono ?_
        rintro e w' ⟨he, rfl⟩
        rw [HYY.out] at he
        subst he
        go_wp2_with fail
        with_reducible refine (valueOf_any A2 c2 m k _ hs2 HM.out).mono ?_
        rintro e w' ⟨he, rfl⟩
        rw [HYY.out] at he
        subst he
        go_wp2_with (at_builtin; refine wpList_append_own _ rfl _ _ 23 rfl (w.heap.size) 31 i0 (.agg #[.int .i64 0, .int .i64 0]) 2 16 Try.underlying23 hi0 hz0 hz1 hz2 rfl (by decide) _ _ _ rfl (ho.alloc _).out ⟨wr.heap.size, 0, none⟩ 1 1 [.int .i64 k, .int .i64 y] rfl rfl (by simpa using cells_new (wr) [.int .i64 k, .int .i64 y] 31) ?f32 ?f33 ?f34 ?f35 ?_)
        case f32 => simp [Value.oneCell']
        case f33 => unfold maxLen; omega
        case f34 => omega
        try (case f35 => first | omega | (simp; omega) | (simp; done))
        case _ =>
          intro v1 w2 a1 ag1 _
          obtain ⟨ho7, hb7⟩ := ho.snoc (x := ⟨k, y⟩) hb (Nat.le_refl _) a1 ag1
          clear a1 ag1 ho hb
          go_wp2
          go_roundw
          case rel => exact ⟨k + 1, _, by omega, by go_num, HE, ho7, hb7⟩
          case measure => simp [intOf]; omega
    · have hi : ¬ (k : Int) ≤ 9 := by omega
      have HX := hid (show L = planL l m by rw [E.out, ← HL.out, show k = 10 by omega])
      go_wp2
      go_ret
      exact ⟨_, rfl, by rw [← HX.out]; exact ho, hb⟩

end Go.Proofs.Ytindbplgbfjjcab

/-
  What the model's validPool answers. Condition: the lists lie in memory.
-/
import Derived.Test.YtehdbllpiokbnaaPlL

namespace Go.Proofs.Ytehdbllpiokbnaa
open Go.RowKit Pol

theorem ok_wait0 {p : Pl} (h : Ok p) : p.wait.length = 0 ∨ (p.held.length : Int) = p.mx := h.2.2.2.2.2.2
theorem idle_twice {p : Pl} {k : Nat} (hk : k < p.idle.length) (h : p.idle[k] ∈ p.idle.take k) : okB p = false :=
  ok_no fun ho => by
    have := nodup_not hk h
    rw [decide_eq_true (ho.2.1.sublist (List.sublist_append_left _ _))] at this
    cases this
theorem held_twice {p : Pl} {k : Nat} (hk : k < p.held.length) (h : p.held[k].c ∈ p.idle ++ (p.held.map Ho.c).take k) : okB p = false :=
  ok_no fun ho => by
    have hk' : k < (p.held.map Ho.c).length := by rw [List.length_map]; exact hk
    have e : opens p = (p.idle ++ (p.held.map Ho.c).take k) ++ (p.held.map Ho.c)[k] :: (p.held.map Ho.c).drop (k + 1) := by
      unfold opens
      rw [List.append_assoc, ← List.drop_eq_getElem_cons hk', List.take_append_drop]
    have h2 := ho.2.1
    rw [e, List.getElem_map] at h2
    exact (List.nodup_append.1 h2).2.2 _ h _ (by simp) rfl
theorem held_next {p : Pl} {k : Nat} (hk : k < p.held.length) (hn : (p.idle ++ (p.held.map Ho.c).take k).Nodup) (h : p.held[k].c ∉ p.idle ++ (p.held.map Ho.c).take k) : (p.idle ++ (p.held.map Ho.c).take (k + 1)).Nodup ∧ p.idle ++ (p.held.map Ho.c).take (k + 1) = (p.idle ++ (p.held.map Ho.c).take k) ++ [p.held[k].c] := by
  have hk' : k < (p.held.map Ho.c).length := by rw [List.length_map]; exact hk
  have e : p.idle ++ (p.held.map Ho.c).take (k + 1) = (p.idle ++ (p.held.map Ho.c).take k) ++ [p.held[k].c] := by
    rw [List.take_succ_eq_append_getElem hk', List.getElem_map, List.append_assoc]
  refine ⟨?_, e⟩
  rw [e]
  exact List.nodup_append.2 ⟨hn, by simp, fun a ha b hb => by rw [List.mem_singleton] at hb; subst hb; exact fun e => h (e ▸ ha)⟩
theorem own_next {p : Pl} {k : Nat} (hk : k < p.held.length) (h : ∀ x ∈ (p.held.map Ho.o).take k, 0 ≤ x ∧ x ≤ 4) (hx : 0 ≤ p.held[k].o ∧ p.held[k].o ≤ 4) : ∀ x ∈ (p.held.map Ho.o).take (k + 1), 0 ≤ x ∧ x ≤ 4 :=
  all_take_succ (p := fun x => 0 ≤ x ∧ x ≤ 4) (by rw [List.length_map]; exact hk) h (by rw [List.getElem_map]; exact hx)
theorem own_bad {p : Pl} {k : Nat} (hk : k < p.held.length) (hx : ¬ (0 ≤ p.held[k].o ∧ p.held[k].o ≤ 4)) : okB p = false :=
  ok_no fun ho => hx (ho.2.2.2.1 _ (List.mem_map_of_mem (List.getElem_mem hk)))
set_option maxHeartbeats 4000000 in
set_option maxRecDepth 16384 in
theorem svalidPool_any (p : Pl) (A1 A2 A3 : Option Addr) (c1 c2 c3 : Nat) (w : World) (h : SeesP w w.heap.size A1 A2 A3 p) (h1 : p.idle.length ≤ 2097152) (h2 : p.held.length ≤ 2097152) (h3 : p.wait.length ≤ 4194304) :
    Calls Try.prog 33 #[.agg #[.int .i64 p.mx, .slice A1 p.idle.length c1, .slice A2 p.held.length c2, .slice A3 p.wait.length c3]] w fun e w' => e = .returned (.bool (okB p)) ∧ Below w.heap.size w w' := by
  obtain ⟨i0, hi0, hz0, hz1, hz2⟩ := info_parts intInfo
  have H1 := hid h1
  have H2 := hid h2
  have H3 := hid h3
  clear h1 h2 h3
  have px := (At.new w 30 #[.int .i64 p.mx, .slice A1 p.idle.length c1, .slice A2 p.held.length c2, .slice A3 p.wait.length c3]).alloc (.cells #[] 3)
  have hb0 := ((Below.refl w.heap.size w).alloc (Nat.le_refl _) (.cells #[.int .i64 p.mx, .slice A1 p.idle.length c1, .slice A2 p.held.length c2, .slice A3 p.wait.length c3] 30)).alloc (by simp) (.cells #[] 3)
  have om : Own ((w.alloc (.cells #[.int .i64 p.mx, .slice A1 p.idle.length c1, .slice A2 p.held.length c2, .slice A3 p.wait.length c3] 30)).alloc (.cells #[] 3)) (w.heap.size + 1) (.slice (some ⟨w.heap.size + 1, 0, none⟩) 0 0) [] := made_at 3 1 (by simp) (Nat.le_refl _)
  obtain ⟨p0, p1, p2, p3, pl⟩ := px.pool
  go_enter Try.func33, Try.ntmps33
  go_wp2
  go_loopw [3, 4] (fun v i wr => ∃ k : Nat, k ≤ p.idle.length ∧ i = .int .i64 k ∧ Own wr (w.heap.size + 1) v (p.idle.take k) ∧ At wr w.heap.size 30 #[.int .i64 p.mx, .slice A1 p.idle.length c1, .slice A2 p.held.length c2, .slice A3 p.wait.length c3] ∧ Below w.heap.size w wr ∧ Hid ((p.idle.take k).Nodup)) (fun _ i _ => p.idle.length - (intOf i).toNat)
  case atStart => exact ⟨0, Nat.zero_le _, rfl, om, px, hb0, hid (by simp)⟩
  case round =>
    clear px hb0 om p0 p1 p2 p3 pl
    obtain ⟨k, hk, rfl, ho, hx, hb, HA⟩ := hrel
    have hn := H1.out
    obtain ⟨p0, p1, p2, p3, pl⟩ := hx.pool
    have hs := h.on hb
    have hz := hb.size
    by_cases hlt : k < p.idle.length
    · have hi : (k : Int) < (p.idle.length : Int) := by omega
      obtain ⟨b, of, rfl, hbl, e0⟩ := hs.idle.int hlt
      have HT := hid (List.take_succ_eq_append_getElem hlt)
      have HS := hid (fun hh => nodup_step hlt HA.out hh)
      have HM := hid (fun hh => idle_twice hlt hh)
      obtain ⟨x, hx'⟩ : ∃ x, x = p.idle[k] := ⟨_, rfl⟩
      rw [← hx'] at HT e0 HS HM
      clear hx'
      have hrl : (p.idle.take k).length ≤ 4194304 := by simp <;> try omega
      obtain ⟨R, hR⟩ : ∃ R, R = p.idle.take k := ⟨_, rfl⟩
      rw [← hR] at HT ho hrl HS HM
      clear hR HA
      obtain ⟨A5, c5, rfl, _⟩ := ho.form
      have hso := Sees.of_own ho.out
      rcases hm : memB R x with _ | _
      · have HMf := hid hm
        have HX := hid (HS.out (fun e => by rw [memB_iff.2 e] at hm; cases hm))
        clear hm
        go_wp2_with fail
        with_reducible refine (sisIn_any A5 c5 R x _ hso (by omega)).mono ?_
        rintro e w' ⟨he, rfl⟩
        rw [HMf.out] at he
        subst he
        have hlow := fun q hq => (ho.out.lt q hq).1
        go_wp2_with (at_builtin; refine wpList_append_own _ rfl _ _ 22 rfl (w.heap.size + 1) 3 i0 (.int .i64 0) 1 8 Try.underlying22 hi0 hz0 hz1 hz2 rfl (by decide) _ _ _ rfl (ho.alloc4 _).out ⟨wr.heap.size, 0, none⟩ 1 1 [.int .i64 x] rfl rfl (cell_one_new _ _ _) ?c2 ?c3 ?c4 ?c5 ?_)
        case c2 => simp [Value.oneCell']
        case c3 => unfold maxLen; omega
        case c4 => omega
        case c5 => simp; omega
        case _ =>
          intro v1 w3 h1 hg1 _
          have ho1 : Own w3 (w.heap.size + 1) v1 (R ++ [x]) := by unfold Own; rw [ints_app, List.length_append]; exact h1
          have hx1 := (hx.alloc (.cells #[.int .i64 x] 3)).grown hg1 (fun e => by have := hlow _ e.symm; omega)
          have hb1 := (hb.alloc hz (.cells #[.int .i64 x] 3)).grown hg1 (by simp; omega) (fun q hq => by have := hlow q hq; omega)
          clear h1 hg1 hlow ho hx hb hso p0 p1 p2 p3 pl hs
          go_wp2
          go_roundw
          case rel => exact ⟨k + 1, by omega, by go_num, by rw [HT.out]; exact ho1, hx1, hb1, HX⟩
          case measure => simp [intOf]; omega
      · have HMf := hid hm
        have HX := hid (HM.out (memB_iff.1 hm))
        clear hm
        go_wp2_with fail
        with_reducible refine (sisIn_any A5 c5 R x _ hso (by omega)).mono ?_
        rintro e w' ⟨he, rfl⟩
        rw [HMf.out] at he
        subst he
        go_wp2
        go_ret
        exact ⟨ret_bool HX.out.symm, hb⟩
    · have hi : ¬ (k : Int) < (p.idle.length : Int) := by omega
      rw [take_whole hlt] at ho HA
      have HL := hid (show (p.held.map Ho.c).length = p.held.length from List.length_map _)
      go_wp2
      go_loopw [3, 5] (fun v i wr => ∃ k : Nat, k ≤ p.held.length ∧ i = .int .i64 k ∧ Own wr (w.heap.size + 1) v (p.idle ++ (p.held.map Ho.c).take k) ∧ At wr w.heap.size 30 #[.int .i64 p.mx, .slice A1 p.idle.length c1, .slice A2 p.held.length c2, .slice A3 p.wait.length c3] ∧ Below w.heap.size w wr ∧ Hid ((p.idle ++ (p.held.map Ho.c).take k).Nodup) ∧ Hid (∀ x ∈ (p.held.map Ho.o).take k, 0 ≤ x ∧ x ≤ 4)) (fun _ i _ => p.held.length - (intOf i).toNat)
      case atStart => exact ⟨0, Nat.zero_le _, rfl, by simpa using ho, hx, hb, hid (by simpa using HA.out), hid (by simp)⟩
      case round =>
        clear hx hb ho HA p0 p1 p2 p3 pl hs hz hi hk hlt
        obtain ⟨k, hk, rfl, ho, hx, hb, HA, HO⟩ := hrel
        have hn2 := H2.out
        obtain ⟨p0, p1, p2, p3, pl⟩ := hx.pool
        have hs := h.on hb
        have hz := hb.size
        by_cases hlt : k < p.held.length
        · have hi : (k : Int) < (p.held.length : Int) := by omega
          obtain ⟨b, of, rfl, hbl, e0, e1⟩ := hs.held.hold hlt
          have HS := hid (fun hh => held_next hlt HA.out hh)
          have HM := hid (fun hh => held_twice hlt hh)
          have HN := hid (fun hh => own_next hlt HO.out hh)
          have HB := hid (fun hh => own_bad hlt hh)
          obtain ⟨x, hx'⟩ : ∃ x, x = p.held[k] := ⟨_, rfl⟩
          rw [← hx'] at e0 e1 HS HM HN HB
          clear hx'
          have hrl : (p.idle ++ (p.held.map Ho.c).take k).length ≤ 4194304 := by simp; omega
          obtain ⟨R, hR⟩ : ∃ R, R = p.idle ++ (p.held.map Ho.c).take k := ⟨_, rfl⟩
          rw [← hR] at ho hrl HS HM
          clear hR HA
          obtain ⟨A5, c5, rfl, _⟩ := ho.form
          have hso := Sees.of_own ho.out
          rcases hm : memB R x.c with _ | _
          · have HMf := hid hm
            obtain ⟨x1, x2⟩ := HS.out (fun e => by rw [memB_iff.2 e] at hm; cases hm)
            have HX := hid x1
            have HT := hid x2
            clear hm x1 x2
            rcases hr : inB x.o 0 4 with _ | _
            · have HR := hid hr
              have HX := hid (HB.out (fun e => by rw [inB_iff.2 e] at hr; cases hr))
              clear hr
              go_wp2_with fail
              with_reducible refine (sisIn_any A5 c5 R x.c _ hso (by omega)).mono ?_
              rintro e w' ⟨he, rfl⟩
              rw [HMf.out] at he
              subst he
              go_wp2_with fail
              with_reducible refine (inRange_any x.o 0 4 _).mono ?_
              rintro e w' ⟨he, rfl⟩
              rw [HR.out] at he
              subst he
              go_wp2
              go_ret
              exact ⟨ret_bool HX.out.symm, hb⟩
            · have HR := hid hr
              have HY := hid (HN.out (inB_iff.1 hr))
              clear hr
              go_wp2_with fail
              with_reducible refine (sisIn_any A5 c5 R x.c _ hso (by omega)).mono ?_
              rintro e w' ⟨he, rfl⟩
              rw [HMf.out] at he
              subst he
              go_wp2_with fail
              with_reducible refine (inRange_any x.o 0 4 _).mono ?_
              rintro e w' ⟨he, rfl⟩
              rw [HR.out] at he
              subst he
              have hlow := fun q hq => (ho.out.lt q hq).1
              go_wp2_with (at_builtin; refine wpList_append_own _ rfl _ _ 22 rfl (w.heap.size + 1) 3 i0 (.int .i64 0) 1 8 Try.underlying22 hi0 hz0 hz1 hz2 rfl (by decide) _ _ _ rfl (ho.alloc4 _).out ⟨wr.heap.size, 0, none⟩ 1 1 [.int .i64 x.c] rfl rfl (cell_one_new _ _ _) ?c2 ?c3 ?c4 ?c5 ?_)
              case c2 => simp [Value.oneCell']
              case c3 => unfold maxLen; omega
              case c4 => omega
              case c5 => simp; omega
              case _ =>
                intro v1 w3 h1 hg1 _
                have ho1 : Own w3 (w.heap.size + 1) v1 (R ++ [x.c]) := by unfold Own; rw [ints_app, List.length_append]; exact h1
                have hx1 := (hx.alloc (.cells #[.int .i64 x.c] 3)).grown hg1 (fun e => by have := hlow _ e.symm; omega)
                have hb1 := (hb.alloc hz (.cells #[.int .i64 x.c] 3)).grown hg1 (by simp; omega) (fun q hq => by have := hlow q hq; omega)
                clear h1 hg1 hlow ho hx hb hso p0 p1 p2 p3 pl hs
                go_wp2
                go_roundw
                case rel => exact ⟨k + 1, by omega, by go_num, by rw [HT.out]; exact ho1, hx1, hb1, HX, HY⟩
                case measure => simp [intOf]; omega
          · have HMf := hid hm
            have HX := hid (HM.out (memB_iff.1 hm))
            clear hm
            go_wp2_with fail
            with_reducible refine (sisIn_any A5 c5 R x.c _ hso (by omega)).mono ?_
            rintro e w' ⟨he, rfl⟩
            rw [HMf.out] at he
            subst he
            go_wp2
            go_ret
            exact ⟨ret_bool HX.out.symm, hb⟩
        · have hi : ¬ (k : Int) < (p.held.length : Int) := by omega
          rw [take_whole (by rw [HL.out]; exact hlt)] at ho HA
          have HO2 := hid (show ∀ x ∈ p.held.map Ho.o, 0 ≤ x ∧ x ≤ 4 by have := HO.out; rwa [take_whole (by rw [List.length_map]; exact hlt)] at this)
          clear HO hlt
          have hro : (p.idle ++ p.held.map Ho.c).length ≤ 4194304 := by rw [List.length_append, HL.out]; omega
          have HOp : Hid (p.idle ++ p.held.map Ho.c = opens p) := hid rfl
          rw [HOp.out] at ho HA hro
          have HRo := hid hro
          clear hro
          obtain ⟨A5, c5, rfl, _⟩ := ho.form
          have hso := Sees.of_own ho.out
          rcases hr : inB p.mx 1 6 with _ | _
          · have HR := hid hr
            have HX := hid (show okB p = false from ok_no fun ho => by rw [inB_iff.2 ho.1] at hr; cases hr)
            clear hr
            go_wp2_with fail
            with_reducible refine (inRange_any p.mx 1 6 _).mono ?_
            rintro e w' ⟨he, rfl⟩
            rw [HR.out] at he
            subst he
            go_wp2
            go_ret
            exact ⟨ret_bool HX.out.symm, hb⟩
          · have HR := hid hr
            have hmx := inB_iff.1 hr
            have hwm : IntKind.i64.wrap (p.mx - 1) = p.mx - 1 := by rw [IntKind.wrap_i64]; omega
            clear hr
            rcases ha : allB (opens p) 0 (p.mx - 1) with _ | _
            · have HA3 := hid ha
              have HX := hid (show okB p = false from ok_no fun ho => by rw [ok_op ho] at ha; cases ha)
              clear ha
              go_wp2_with fail
              with_reducible refine (inRange_any p.mx 1 6 _).mono ?_
              rintro e w' ⟨he, rfl⟩
              rw [HR.out] at he
              subst he
              go_wp2_with fail
              with_reducible refine (allIn_any A5 c5 (opens p) 0 (p.mx - 1) _ hso (Nat.le_trans HRo.out (by decide))).mono ?_
              rintro e w' ⟨he, rfl⟩
              rw [HA3.out] at he
              subst he
              go_wp2
              go_ret
              exact ⟨ret_bool HX.out.symm, hb⟩
            · have HA3 := hid ha
              clear ha
              by_cases x4 : (p.wait.length : Int) > 12
              · skip
                have HX := hid (show okB p = false from ok_no fun ho => by have := ho.2.2.2.2.1; omega)
                go_wp2_with fail
                with_reducible refine (inRange_any p.mx 1 6 _).mono ?_
                rintro e w' ⟨he, rfl⟩
                rw [HR.out] at he
                subst he
                go_wp2_with fail
                with_reducible refine (allIn_any A5 c5 (opens p) 0 (p.mx - 1) _ hso (Nat.le_trans HRo.out (by decide))).mono ?_
                rintro e w' ⟨he, rfl⟩
                rw [HA3.out] at he
                subst he
                go_wp2
                go_ret
                exact ⟨ret_bool HX.out.symm, hb⟩
              · rcases hw : allB p.wait 0 4 with _ | _
                · have HW := hid hw
                  have HX := hid (show okB p = false from ok_no fun ho => by rw [ok_wa ho] at hw; cases hw)
                  clear hw
                  go_wp2_with fail
                  with_reducible refine (inRange_any p.mx 1 6 _).mono ?_
                  rintro e w' ⟨he, rfl⟩
                  rw [HR.out] at he
                  subst he
                  go_wp2_with fail
                  with_reducible refine (allIn_any A5 c5 (opens p) 0 (p.mx - 1) _ hso (Nat.le_trans HRo.out (by decide))).mono ?_
                  rintro e w' ⟨he, rfl⟩
                  rw [HA3.out] at he
                  subst he
                  go_wp2_with fail
                  with_reducible refine (allIn_any A3 c3 p.wait 0 4 _ hs.wait (Nat.le_trans H3.out (by decide))).mono ?_
                  rintro e w' ⟨he, rfl⟩
                  rw [HW.out] at he
                  subst he
                  go_wp2
                  go_ret
                  exact ⟨ret_bool HX.out.symm, hb⟩
                · have HW := hid hw
                  have HWi := hid (allB_iff.1 hw)
                  clear hw
                  rcases Nat.eq_zero_or_pos p.wait.length with x5 | x5
                  · have x6 : ((p.wait.length : Int) == 0) = true := beq_iff_eq.2 (by omega)
                    have HX := hid (show okB p = true from okB_iff.2 ⟨hmx, HA.out, allB_iff.1 HA3.out, HO2.out, by omega, HWi.out, by omega⟩)
                    clear x5
                    go_wp2_with fail
                    with_reducible refine (inRange_any p.mx 1 6 _).mono ?_
                    rintro e w' ⟨he, rfl⟩
                    rw [HR.out] at he
                    subst he
                    go_wp2_with fail
                    with_reducible refine (allIn_any A5 c5 (opens p) 0 (p.mx - 1) _ hso (Nat.le_trans HRo.out (by decide))).mono ?_
                    rintro e w' ⟨he, rfl⟩
                    rw [HA3.out] at he
                    subst he
                    go_wp2_with fail
                    with_reducible refine (allIn_any A3 c3 p.wait 0 4 _ hs.wait (Nat.le_trans H3.out (by decide))).mono ?_
                    rintro e w' ⟨he, rfl⟩
                    rw [HW.out] at he
                    subst he
                    go_wp2
                    go_ret
                    exact ⟨ret_bool HX.out.symm, hb⟩
                  · have x6 : ((p.wait.length : Int) == 0) = false := beq_eq_false_iff_ne.2 (by omega)
                    by_cases x7 : (p.held.length : Int) = p.mx
                    · have x8 : ((p.held.length : Int) == p.mx) = true := beq_iff_eq.2 x7
                      have HX := hid (show okB p = true from okB_iff.2 ⟨hmx, HA.out, allB_iff.1 HA3.out, HO2.out, by omega, HWi.out, by omega⟩)
                      clear x5 x7
                      go_wp2_with fail
                      with_reducible refine (inRange_any p.mx 1 6 _).mono ?_
                      rintro e w' ⟨he, rfl⟩
                      rw [HR.out] at he
                      subst he
                      go_wp2_with fail
                      with_reducible refine (allIn_any A5 c5 (opens p) 0 (p.mx - 1) _ hso (Nat.le_trans HRo.out (by decide))).mono ?_
                      rintro e w' ⟨he, rfl⟩
                      rw [HA3.out] at he
                      subst he
                      go_wp2_with fail
                      with_reducible refine (allIn_any A3 c3 p.wait 0 4 _ hs.wait (Nat.le_trans H3.out (by decide))).mono ?_
                      rintro e w' ⟨he, rfl⟩
                      rw [HW.out] at he
                      subst he
                      go_wp2
                      go_ret
                      exact ⟨ret_bool HX.out.symm, hb⟩
                    · have x8 : ((p.held.length : Int) == p.mx) = false := beq_eq_false_iff_ne.2 x7
                      have HX := hid (show okB p = false from ok_no fun ho => by rcases ok_wait0 ho with e | e <;> omega)
                      clear x5 x7
                      go_wp2_with fail
                      with_reducible refine (inRange_any p.mx 1 6 _).mono ?_
                      rintro e w' ⟨he, rfl⟩
                      rw [HR.out] at he
                      subst he
                      go_wp2_with fail
                      with_reducible refine (allIn_any A5 c5 (opens p) 0 (p.mx - 1) _ hso (Nat.le_trans HRo.out (by decide))).mono ?_
                      rintro e w' ⟨he, rfl⟩
                      rw [HA3.out] at he
                      subst he
                      go_wp2_with fail
                      with_reducible refine (allIn_any A3 c3 p.wait 0 4 _ hs.wait (Nat.le_trans H3.out (by decide))).mono ?_
                      rintro e w' ⟨he, rfl⟩
                      rw [HW.out] at he
                      subst he
                      go_wp2
                      go_ret
                      exact ⟨ret_bool HX.out.symm, hb⟩

end Go.Proofs.Ytehdbllpiokbnaa

/-
  What the model's acquire and HeldBy answer. Condition: the lists lie in memory.
-/
import Derived.Test.YtehdbllpiokbnaaPlP
import Derived.Test.YtehdbllpiokbnaaPoolLawMath

namespace Go.Proofs.Ytehdbllpiokbnaa
open Go.RowKit Pol

theorem scopyPool_any (p : Pl) (A1 A2 A3 : Option Addr) (c1 c2 c3 : Nat) (w : World) (h : SeesP w w.heap.size A1 A2 A3 p) (h1 : p.idle.length ≤ 4194304) (h2 : p.held.length ≤ 4194304) (h3 : p.wait.length ≤ 4194304) :
    Calls Try.prog 89 #[.agg #[.int .i64 p.mx, .slice A1 p.idle.length c1, .slice A2 p.held.length c2, .slice A3 p.wait.length c3]] w (CopyAns p w) := by
  rcases A2 with _ | ad
  · exact scopyPool_none p A1 A3 c1 c2 c3 w h h1 h2 h3
  · exact scopyPool_ad p A1 A3 ad c1 c2 c3 w h h1 h2 h3
theorem copyInts_len {A : Option Addr} {n c : Nat} {l : List Int} {w : World} (hl : l.length = n) (h : Sees w w.heap.size A (ints l)) (hn : l.length ≤ 4194304) :
    Calls Try.prog 97 #[.slice A n c] w fun e w' => ∃ v, e = .returned v ∧ Own w' w.heap.size v l ∧ Below w.heap.size w w' := by
  subst hl; exact copyInts_any A c l w h hn
theorem acqP_full {p : Pl} {o : Int} (hf : fullB p = true) : acqC p = -1 ∧ acqP p o = ⟨p.mx, p.idle, p.held, p.wait ++ [o]⟩ := by unfold acqC acqP; simp [hf]
theorem acqP_one {p : Pl} {o : Int} (hf : fullB p = false) : acqC p = pickC p ∧ acqP p o = ⟨p.mx, p.idle.dropLast, p.held ++ [⟨pickC p, o⟩], p.wait⟩ := by unfold acqC acqP; simp [hf]
set_option maxRecDepth 16384 in
set_option maxHeartbeats 4000000 in
theorem sHeldBy_any (p : Pl) (A1 A2 A3 : Option Addr) (c1 c2 c3 : Nat) (o : Int) (w : World) (h : SeesP w w.heap.size A1 A2 A3 p) (h1 : p.idle.length ≤ 2097152) (h2 : p.held.length ≤ 2097152) (h3 : p.wait.length ≤ 2097152) :
    Calls Try.prog 81 #[.agg #[.int .i64 p.mx, .slice A1 p.idle.length c1, .slice A2 p.held.length c2, .slice A3 p.wait.length c3], .int .i64 o] w (fun e w' => ∃ v, e = .returned v ∧ Own w' w.heap.size v (heldBy p o) ∧ Below w.heap.size w w') := by
  obtain ⟨i0, hi0, hz0, hz1, hz2⟩ := info_parts intInfo
  obtain ⟨ih0, hih0, hzh0, hzh1, hzh2⟩ := info_parts holdInfo
  have H1 := hid h1
  have H2 := hid h2
  have H3 := hid h3
  clear h1 h2 h3
  rcases hk : okB p with _ | _
  · skip
    have HN := hid (held_no (o := o) hk)
    have HK := hid hk
    clear hk
    have hB1 := Below.refl w.heap.size w
    have hB2 := hB1.alloc hB1.size (.cells #[.int .i64 p.mx, .slice A1 p.idle.length c1, .slice A2 p.held.length c2, .slice A3 p.wait.length c3] 30)
    clear hB1
    have x3 : At (w.alloc (.cells #[.int .i64 p.mx, .slice A1 p.idle.length c1, .slice A2 p.held.length c2, .slice A3 p.wait.length c3] 30)) (w.heap.size) 30 #[.int .i64 p.mx, .slice A1 p.idle.length c1, .slice A2 p.held.length c2, .slice A3 p.wait.length c3] := At.newAt _ _ (by first | rfl | (simp; done) | (simp; omega))
    have hB4 := hB2.alloc hB2.size (.cells #[] 3)
    have x5 := x3.alloc (.cells #[] 3)
    clear hB2 x3
    have m6 : At ((w.alloc (.cells #[.int .i64 p.mx, .slice A1 p.idle.length c1, .slice A2 p.held.length c2, .slice A3 p.wait.length c3] 30)).alloc (.cells #[] 3)) (w.heap.size + 1) 3 #[] := At.newAt _ _ (by first | rfl | (simp; done) | (simp; omega))
    go_enter Try.func81, Try.ntmps81
    have om0 : Own ((w.alloc (.cells #[.int .i64 p.mx, .slice A1 p.idle.length c1, .slice A2 p.held.length c2, .slice A3 p.wait.length c3] 30)).alloc (.cells #[] 3)) (w.heap.size + 1) (.slice (some ⟨w.heap.size + 1, 0, none⟩) 0 0) [] := made_at 3 1 (by simp) (Nat.le_refl _)
    clear m6
    obtain ⟨p0, p1, p2, p3, pl, pf⟩ := (⟨x5.cell 0, x5.cell 1, x5.cell 2, x5.cell 3, x5.lt, x5.frozen⟩ : _ ∧ _ ∧ _ ∧ _ ∧ _ ∧ _)
    go_wp2_with fail
    with_reducible refine (svalidPool_any p A1 A2 A3 c1 c2 c3 _ (h.on hB4) H1.out H2.out (Nat.le_trans H3.out (by decide))).mono ?_
    rintro e w1 ⟨he, hb1⟩
    rw [HK.out] at he
    subst he
    have sz1 : w.heap.size + 2 ≤ w1.heap.size := Nat.le_trans (by first | exact Nat.le_refl _ | (simp; done) | (simp; omega)) (hb1.size)
    have hB7 := hB4.trans (hb1.mono hB4.size)
    have x8 := x5.below hb1 x5.lt
    have om9 := om0.below hb1
    clear hB4 x5 om0
    clear p0 p1 p2 p3 pl pf
    obtain ⟨p0, p1, p2, p3, pl, pf⟩ := (⟨x8.cell 0, x8.cell 1, x8.cell 2, x8.cell 3, x8.lt, x8.frozen⟩ : _ ∧ _ ∧ _ ∧ _ ∧ _ ∧ _)
    go_wp2
    go_ret
    exact ⟨_, rfl, by rw [HN.out]; exact Own.none_ _ _, hB7⟩
  · skip
    have HY := hid (held_by (o := o) hk)
    have HK := hid hk
    clear hk
    have hB10 := Below.refl w.heap.size w
    have hB11 := hB10.alloc hB10.size (.cells #[.int .i64 p.mx, .slice A1 p.idle.length c1, .slice A2 p.held.length c2, .slice A3 p.wait.length c3] 30)
    clear hB10
    have x12 : At (w.alloc (.cells #[.int .i64 p.mx, .slice A1 p.idle.length c1, .slice A2 p.held.length c2, .slice A3 p.wait.length c3] 30)) (w.heap.size) 30 #[.int .i64 p.mx, .slice A1 p.idle.length c1, .slice A2 p.held.length c2, .slice A3 p.wait.length c3] := At.newAt _ _ (by first | rfl | (simp; done) | (simp; omega))
    have hB13 := hB11.alloc hB11.size (.cells #[] 3)
    have x14 := x12.alloc (.cells #[] 3)
    clear hB11 x12
    have m15 : At ((w.alloc (.cells #[.int .i64 p.mx, .slice A1 p.idle.length c1, .slice A2 p.held.length c2, .slice A3 p.wait.length c3] 30)).alloc (.cells #[] 3)) (w.heap.size + 1) 3 #[] := At.newAt _ _ (by first | rfl | (simp; done) | (simp; omega))
    go_enter Try.func81, Try.ntmps81
    have om0 : Own ((w.alloc (.cells #[.int .i64 p.mx, .slice A1 p.idle.length c1, .slice A2 p.held.length c2, .slice A3 p.wait.length c3] 30)).alloc (.cells #[] 3)) (w.heap.size + 1) (.slice (some ⟨w.heap.size + 1, 0, none⟩) 0 0) [] := made_at 3 1 (by simp) (Nat.le_refl _)
    clear m15
    obtain ⟨p0, p1, p2, p3, pl, pf⟩ := (⟨x14.cell 0, x14.cell 1, x14.cell 2, x14.cell 3, x14.lt, x14.frozen⟩ : _ ∧ _ ∧ _ ∧ _ ∧ _ ∧ _)
    go_wp2_with fail
    with_reducible refine (svalidPool_any p A1 A2 A3 c1 c2 c3 _ (h.on hB13) H1.out H2.out (Nat.le_trans H3.out (by decide))).mono ?_
    rintro e w1 ⟨he, hb1⟩
    rw [HK.out] at he
    subst he
    have sz1 : w.heap.size + 2 ≤ w1.heap.size := Nat.le_trans (by first | exact Nat.le_refl _ | (simp; done) | (simp; omega)) (hb1.size)
    have hB16 := hB13.trans (hb1.mono hB13.size)
    have x17 := x14.below hb1 x14.lt
    have om18 := om0.below hb1
    clear hB13 x14 om0
    clear p0 p1 p2 p3 pl pf
    obtain ⟨p0, p1, p2, p3, pl, pf⟩ := (⟨x17.cell 0, x17.cell 1, x17.cell 2, x17.cell 3, x17.lt, x17.frozen⟩ : _ ∧ _ ∧ _ ∧ _ ∧ _ ∧ _)
    have hs := h.held
    go_wp2
    go_loopw [5, 6] (fun v i wr => ∃ k : Nat, k ≤ p.held.length ∧ i = .int .i64 k ∧ Own wr (w.heap.size + 1) v (((p.held.take k).filter fun h => decide (h.o = o)).map Ho.c) ∧ At wr w.heap.size 30 #[.int .i64 p.mx, .slice A1 p.idle.length c1, .slice A2 p.held.length c2, .slice A3 p.wait.length c3] ∧ Below w.heap.size w wr) (fun _ i _ => p.held.length - (intOf i).toNat)
    case atStart => exact ⟨0, Nat.zero_le _, rfl, om18, x17, hB16⟩
    case round =>
      clear p0 p1 p2 p3 pl pf x17 hB16 om18
      obtain ⟨k, hk, rfl, ho, hx, hb⟩ := hrel
      have hn := H2.out
      obtain ⟨p0, p1, p2, p3, pl⟩ := hx.pool
      by_cases hlt : k < p.held.length
      · skip
        have hi : (k : Int) < (p.held.length : Int) := by omega
        obtain ⟨b, of, rfl, hbl, e0, e1⟩ := (hs.below hb).hold hlt
        have hz := hb.size
        have hbw : b < wr.heap.size := by omega
        have HT := hid (by_take (o := o) hlt)
        have hrl : (((p.held.take k).filter fun h => decide (h.o = o)).map Ho.c).length ≤ 4194304 := by rw [List.length_map]; exact Nat.le_trans (List.length_filter_le _ _) (by simp; omega)
        obtain ⟨y, hy⟩ : ∃ y, y = p.held[k] := ⟨_, rfl⟩
        rw [← hy] at HT e0 e1
        clear hy
        obtain ⟨R, hR⟩ : ∃ R, R = ((p.held.take k).filter fun h => decide (h.o = o)).map Ho.c := ⟨_, rfl⟩
        rw [← hR] at HT ho hrl
        clear hR
        by_cases hoo : y.o = o
        · skip
          have HX := hid (HT.out.trans (by rw [if_pos hoo]))
          have hob : (y.o == o) = true := by simpa using hoo
          clear hoo
          have hlow := fun q hq => (ho.out.lt q hq).1
          go_wp2_with (at_builtin; refine wpList_append_own _ rfl _ _ 22 rfl (w.heap.size + 1) 3 i0 (.int .i64 0) 1 8 Try.underlying22 hi0 hz0 hz1 hz2 rfl (by decide) _ _ _ rfl (ho.alloc4 _).out ⟨wr.heap.size, 0, none⟩ 1 1 [.int .i64 y.c] rfl rfl (cell_one_new _ _ _) ?c2 ?c3 ?c4 ?c5 ?_)
          case c2 => simp [Value.oneCell']
          case c3 => unfold maxLen; omega
          case c4 => omega
          case c5 => simp; omega
          case _ =>
            intro v1 w3 h1 hg1 _
            have ho1 : Own w3 (w.heap.size + 1) v1 (R ++ [y.c]) := by unfold Own; rw [ints_app, List.length_append]; exact h1
            have hx1 := (hx.alloc (.cells #[.int .i64 y.c] 3)).grown hg1 (fun e => by have := hlow _ e.symm; omega)
            have hb1 := (hb.alloc hz (.cells #[.int .i64 y.c] 3)).grown hg1 (by simp; omega) (fun q hq => by have := hlow q hq; omega)
            clear h1 hg1 hlow ho hx hb p0 p1 p2 p3 pl
            go_wp2
            go_roundw
            case rel => exact ⟨k + 1, by omega, by go_num, by rw [HX.out]; exact ho1, hx1, hb1⟩
            case measure => simp [intOf]; omega
        · skip
          have HX := hid (HT.out.trans (by rw [if_neg hoo, List.append_nil]))
          have hob : (y.o == o) = false := by simpa using hoo
          clear hoo
          go_wp2
          go_roundw
          case rel => exact ⟨k + 1, by omega, by go_num, by rw [HX.out]; exact ho, hx, hb⟩
          case measure => simp [intOf]; omega
      · skip
        have hi : ¬ (k : Int) < (p.held.length : Int) := by omega
        rw [take_whole hlt] at ho
        go_wp2
        go_ret
        exact ⟨_, rfl, by rw [HY.out]; exact ho.mono (by omega), hb⟩

set_option maxRecDepth 16384 in
set_option maxHeartbeats 4000000 in
theorem sacquire_any (p : Pl) (A1 A2 A3 : Option Addr) (c1 c2 c3 : Nat) (o : Int) (w : World) (h : SeesP w w.heap.size A1 A2 A3 p) (hok : Ok p) (hcap : p.idle.length ≤ c1) (h1 : p.idle.length ≤ 2097152) (h2 : p.held.length ≤ 2097152) (h3 : p.wait.length ≤ 2097152) :
    Calls Try.prog 95 #[.agg #[.int .i64 p.mx, .slice A1 p.idle.length c1, .slice A2 p.held.length c2, .slice A3 p.wait.length c3], .int .i64 o] w (PAns2 (acqP p o) (acqC p) w) := by
  obtain ⟨i0, hi0, hz0, hz1, hz2⟩ := info_parts intInfo
  obtain ⟨ih0, hih0, hzh0, hzh1, hzh2⟩ := info_parts holdInfo
  have H1 := hid h1
  have H2 := hid h2
  have H3 := hid h3
  clear h1 h2 h3
  have hmx : p.mx ≤ 6 := hok.1.2
  rcases hf : fullB p with _ | _
  · skip
    obtain ⟨e1, e2⟩ := acqP_one (o := o) hf
    have hpp := (pick_ok hok hf).1
    have E1 := hid e1
    have E2 := hid e2
    clear e1 e2 hf hok
    rcases Nat.eq_zero_or_pos p.idle.length with hI | hI
    · skip
      have hl0 := hI
      replace hI := List.eq_nil_of_length_eq_zero hI
      have HD := hid (show p.idle.dropLast = p.idle by rw [hI]; rfl)
      have hp : pickC p = closed p := by unfold pickC; rw [hI]; rfl
      clear hI
      obtain ⟨C, hC⟩ : ∃ C, C = closed p := ⟨_, rfl⟩
      rw [← hC] at hp
      rw [hp] at hpp
      have hcn : ¬ C < 0 := by omega
      have HC := hid hC.symm
      have HP := hid hp
      clear hC hp hpp
      have hgt : ¬ (p.idle.length : Int) > 0 := by omega
      clear hl0
      have hB1 := Below.refl w.heap.size w
      have hB2 := hB1.alloc hB1.size (.cells #[.int .i64 p.mx, .slice A1 p.idle.length c1, .slice A2 p.held.length c2, .slice A3 p.wait.length c3] 30)
      clear hB1
      have x3 : At (w.alloc (.cells #[.int .i64 p.mx, .slice A1 p.idle.length c1, .slice A2 p.held.length c2, .slice A3 p.wait.length c3] 30)) (w.heap.size) 30 #[.int .i64 p.mx, .slice A1 p.idle.length c1, .slice A2 p.held.length c2, .slice A3 p.wait.length c3] := At.newAt _ _ (by first | rfl | (simp; done) | (simp; omega))
      have hB4 := hB2.alloc hB2.size (.cells #[.int .i64 0, .slice none 0 0, .slice none 0 0, .slice none 0 0] 30)
      have x5 := x3.alloc (.cells #[.int .i64 0, .slice none 0 0, .slice none 0 0, .slice none 0 0] 30)
      clear hB2 x3
      have r6 : At ((w.alloc (.cells #[.int .i64 p.mx, .slice A1 p.idle.length c1, .slice A2 p.held.length c2, .slice A3 p.wait.length c3] 30)).alloc (.cells #[.int .i64 0, .slice none 0 0, .slice none 0 0, .slice none 0 0] 30)) (w.heap.size + 1) 30 #[.int .i64 0, .slice none 0 0, .slice none 0 0, .slice none 0 0] := At.newAt _ _ (by first | rfl | (simp; done) | (simp; omega))
      go_enter Try.func95, Try.ntmps95
      obtain ⟨p0, p1, p2, p3, pl, pf⟩ := (⟨x5.cell 0, x5.cell 1, x5.cell 2, x5.cell 3, x5.lt, x5.frozen⟩ : _ ∧ _ ∧ _ ∧ _ ∧ _ ∧ _)
      obtain ⟨q0, q1, q2, q3, ql, qf⟩ := (⟨r6.cell 0, r6.cell 1, r6.cell 2, r6.cell 3, r6.lt, r6.frozen⟩ : _ ∧ _ ∧ _ ∧ _ ∧ _ ∧ _)
      go_wp2_with fail
      with_reducible refine (scopyPool_any p A1 A2 A3 c1 c2 c3 _ (h.on hB4) (Nat.le_trans H1.out (by decide)) (Nat.le_trans H2.out (by decide)) (Nat.le_trans H3.out (by decide))).mono ?_
      rintro e w1 ⟨B1, B2, B3, d1, d2, d3, rfl, ho, hb1⟩
      have sz1 : w.heap.size + 2 ≤ w1.heap.size := Nat.le_trans (by first | exact Nat.le_refl _ | (simp; done) | (simp; omega)) (hb1.size)
      have hB7 := hB4.trans (hb1.mono hB4.size)
      have x8 := x5.below hb1 x5.lt
      have r9 := r6.below hb1 r6.lt
      clear hB4 x5 r6
      clear p0 p1 p2 p3 pl pf q0 q1 q2 q3 ql qf
      have o10 := ho.mono (show w.heap.size + 2 ≤ _ by simp)
      clear ho
      obtain ⟨p0, p1, p2, p3, pl, pf⟩ := (⟨x8.cell 0, x8.cell 1, x8.cell 2, x8.cell 3, x8.lt, x8.frozen⟩ : _ ∧ _ ∧ _ ∧ _ ∧ _ ∧ _)
      obtain ⟨q0, q1, q2, q3, ql, qf⟩ := (⟨r9.cell 0, r9.cell 1, r9.cell 2, r9.cell 3, r9.lt, r9.frozen⟩ : _ ∧ _ ∧ _ ∧ _ ∧ _ ∧ _)
      have hB11 := hB7.alloc hB7.size (.cells #[.int .i64 p.mx, .slice B1 p.idle.length d1, .slice B2 p.held.length d2, .slice B3 p.wait.length d3] 30)
      have x12 := x8.alloc (.cells #[.int .i64 p.mx, .slice B1 p.idle.length d1, .slice B2 p.held.length d2, .slice B3 p.wait.length d3] 30)
      have r13 := r9.alloc (.cells #[.int .i64 p.mx, .slice B1 p.idle.length d1, .slice B2 p.held.length d2, .slice B3 p.wait.length d3] 30)
      have o14 := o10.alloc (.cells #[.int .i64 p.mx, .slice B1 p.idle.length d1, .slice B2 p.held.length d2, .slice B3 p.wait.length d3] 30)
      clear hB7 x8 r9 o10
      have t15 : At (w1.alloc (.cells #[.int .i64 p.mx, .slice B1 p.idle.length d1, .slice B2 p.held.length d2, .slice B3 p.wait.length d3] 30)) (w1.heap.size) 30 #[.int .i64 p.mx, .slice B1 p.idle.length d1, .slice B2 p.held.length d2, .slice B3 p.wait.length d3] := At.newAt _ _ (by first | rfl | (simp; done) | (simp; omega))
      go_wp2_with fail
      with_reducible refine (sclosed_any p A1 A2 A3 c1 c2 c3 _ (h.on hB11) (Nat.le_trans H1.out (by decide)) (Nat.le_trans H2.out (by decide)) hmx).mono ?_
      rintro e w2 ⟨he, hb2⟩
      rw [HC.out] at he
      subst he
      have sz2 : w1.heap.size + 1 ≤ w2.heap.size := Nat.le_trans (by first | exact Nat.le_refl _ | (simp; done) | (simp; omega)) (hb2.size)
      have hB16 := hB11.trans (hb2.mono hB11.size)
      have x17 := x12.below hb2 x12.lt
      have r18 := r13.below hb2 r13.lt
      have o19 := o14.below hb2
      have t20 := t15.below hb2 t15.lt
      clear hB11 x12 r13 o14 t15
      clear p0 p1 p2 p3 pl pf q0 q1 q2 q3 ql qf
      obtain ⟨p0, p1, p2, p3, pl, pf⟩ := (⟨x17.cell 0, x17.cell 1, x17.cell 2, x17.cell 3, x17.lt, x17.frozen⟩ : _ ∧ _ ∧ _ ∧ _ ∧ _ ∧ _)
      obtain ⟨q0, q1, q2, q3, ql, qf⟩ := (⟨r18.cell 0, r18.cell 1, r18.cell 2, r18.cell 3, r18.lt, r18.frozen⟩ : _ ∧ _ ∧ _ ∧ _ ∧ _ ∧ _)
      obtain ⟨t0, t1, t2, t3, tl, tf⟩ := (⟨t20.cell 0, t20.cell 1, t20.cell 2, t20.cell 3, t20.lt, t20.frozen⟩ : _ ∧ _ ∧ _ ∧ _ ∧ _ ∧ _)
      have ne_pq : ¬ w.heap.size = w.heap.size + 1 := by omega
      have ne_qp : ¬ w.heap.size + 1 = w.heap.size := by omega
      have ne_pt : ¬ w.heap.size = w1.heap.size := by omega
      have ne_tp : ¬ w1.heap.size = w.heap.size := by omega
      have ne_qt : ¬ w.heap.size + 1 = w1.heap.size := by omega
      have ne_tq : ¬ w1.heap.size = w.heap.size + 1 := by omega
      have hB21 := hB16.alloc hB16.size (.cells #[.int .i64 C, .int .i64 o] 91)
      have x22 := x17.alloc (.cells #[.int .i64 C, .int .i64 o] 91)
      have r23 := r18.alloc (.cells #[.int .i64 C, .int .i64 o] 91)
      have o24 := o19.alloc (.cells #[.int .i64 C, .int .i64 o] 91)
      have t25 := t20.alloc (.cells #[.int .i64 C, .int .i64 o] 91)
      clear hB16 x17 r18 o19 t20
      have hown := o24.2.1.out
      have hlow := o24.low.2.1
      go_wp2_with (at_builtin; refine wpList_append_own_at _ rfl _ _ 28 rfl (w.heap.size + 2) 91 ih0 (.agg #[.int .i64 0, .int .i64 0]) 2 16 Try.underlying28 hih0 hzh0 hzh1 hzh2 rfl (by decide) _ _ _ rfl hown ⟨w2.heap.size, 0, none⟩ 1 1 [.int .i64 C, .int .i64 o] rfl rfl (by simpa using cells_new w2 [.int .i64 C, .int .i64 o] 91) ?c2 ?c3 ?c4 ?c5 ?_)
      case c2 => simp [Value.oneCell']
      case c3 => have := H2.out; unfold maxLen; omega
      case c4 => have := H2.out; omega
      case c5 => first | omega | (simp; omega) | (simp; done)
      case _ =>
        intro va w3 h1 hg1 _ hat
        obtain ⟨A26, c26, rfl, _, _⟩ := own_form h1
        have sz3 : w2.heap.size + 1 ≤ w3.heap.size := Nat.le_trans (by first | exact Nat.le_refl _ | (simp; done) | (simp; omega)) (hg1.size)
        have hB27 := hB21.grown hg1 hB21.size (fun q hq => Nat.le_trans (by omega) (hlow q hq))
        have x28 := x22.beside hown (by decide) hg1
        have r29 := r23.beside hown (by decide) hg1
        have t30 := t25.beside hown (by decide) hg1
        have o31 := o24.addHeld (x := ⟨C, o⟩) h1 hg1 (by simpa using hat)
        clear h1 hg1 hat hown hlow hB21 x22 r23 t25 o24
        clear p0 p1 p2 p3 pl pf q0 q1 q2 q3 ql qf t0 t1 t2 t3 tl tf ne_pq ne_qp ne_pt ne_tp ne_qt ne_tq
        obtain ⟨p0, p1, p2, p3, pl, pf⟩ := (⟨x28.cell 0, x28.cell 1, x28.cell 2, x28.cell 3, x28.lt, x28.frozen⟩ : _ ∧ _ ∧ _ ∧ _ ∧ _ ∧ _)
        obtain ⟨q0, q1, q2, q3, ql, qf⟩ := (⟨r29.cell 0, r29.cell 1, r29.cell 2, r29.cell 3, r29.lt, r29.frozen⟩ : _ ∧ _ ∧ _ ∧ _ ∧ _ ∧ _)
        obtain ⟨t0, t1, t2, t3, tl, tf⟩ := (⟨t30.cell 0, t30.cell 1, t30.cell 2, t30.cell 3, t30.lt, t30.frozen⟩ : _ ∧ _ ∧ _ ∧ _ ∧ _ ∧ _)
        have ne_pq : ¬ w.heap.size = w.heap.size + 1 := by omega
        have ne_qp : ¬ w.heap.size + 1 = w.heap.size := by omega
        have ne_pt : ¬ w.heap.size = w1.heap.size := by omega
        have ne_tp : ¬ w1.heap.size = w.heap.size := by omega
        have ne_qt : ¬ w.heap.size + 1 = w1.heap.size := by omega
        have ne_tq : ¬ w1.heap.size = w.heap.size + 1 := by omega
        have hB32 := below_put hB27 (grown_set w3 (w1.heap.size) 2 (.slice A26 (p.held.length + 1) c26)) (by omega) (by have := hB27.size; omega)
        have x33 := x28.past (grown_set w3 (w1.heap.size) 2 (.slice A26 (p.held.length + 1) c26)) (by omega)
        have r34 := r29.past (grown_set w3 (w1.heap.size) 2 (.slice A26 (p.held.length + 1) c26)) (by omega)
        have o35 := o31.past t30 (grown_set w3 (w1.heap.size) 2 (.slice A26 (p.held.length + 1) c26))
        have t36 : At (w3.setCell ⟨w1.heap.size, 2, none⟩ (.slice A26 (p.held.length + 1) c26)) (w1.heap.size) 30 #[.int .i64 p.mx, .slice B1 p.idle.length d1, .slice A26 (p.held.length + 1) c26, .slice B3 p.wait.length d3] := by simpa using t30.set 2 (.slice A26 (p.held.length + 1) c26)
        clear hB27 x28 r29 o31 t30
        have hB37 := below_put hB32 (grown_set (w3.setCell ⟨w1.heap.size, 2, none⟩ (.slice A26 (p.held.length + 1) c26)) (w.heap.size + 1) 0 (.int .i64 p.mx)) (by omega) (by have := hB32.size; omega)
        have x38 := x33.past (grown_set (w3.setCell ⟨w1.heap.size, 2, none⟩ (.slice A26 (p.held.length + 1) c26)) (w.heap.size + 1) 0 (.int .i64 p.mx)) (by omega)
        have o39 := o35.past r34 (grown_set (w3.setCell ⟨w1.heap.size, 2, none⟩ (.slice A26 (p.held.length + 1) c26)) (w.heap.size + 1) 0 (.int .i64 p.mx))
        have t40 := t36.past (grown_set (w3.setCell ⟨w1.heap.size, 2, none⟩ (.slice A26 (p.held.length + 1) c26)) (w.heap.size + 1) 0 (.int .i64 p.mx)) (by omega)
        have r41 : At ((w3.setCell ⟨w1.heap.size, 2, none⟩ (.slice A26 (p.held.length + 1) c26)).setCell ⟨w.heap.size + 1, 0, none⟩ (.int .i64 p.mx)) (w.heap.size + 1) 30 #[.int .i64 p.mx, .slice none 0 0, .slice none 0 0, .slice none 0 0] := by simpa using r34.set 0 (.int .i64 p.mx)
        clear hB32 x33 o35 t36 r34
        have hB42 := below_put hB37 (grown_set ((w3.setCell ⟨w1.heap.size, 2, none⟩ (.slice A26 (p.held.length + 1) c26)).setCell ⟨w.heap.size + 1, 0, none⟩ (.int .i64 p.mx)) (w.heap.size + 1) 1 (.slice B1 p.idle.length d1)) (by omega) (by have := hB37.size; omega)
        have x43 := x38.past (grown_set ((w3.setCell ⟨w1.heap.size, 2, none⟩ (.slice A26 (p.held.length + 1) c26)).setCell ⟨w.heap.size + 1, 0, none⟩ (.int .i64 p.mx)) (w.heap.size + 1) 1 (.slice B1 p.idle.length d1)) (by omega)
        have o44 := o39.past r41 (grown_set ((w3.setCell ⟨w1.heap.size, 2, none⟩ (.slice A26 (p.held.length + 1) c26)).setCell ⟨w.heap.size + 1, 0, none⟩ (.int .i64 p.mx)) (w.heap.size + 1) 1 (.slice B1 p.idle.length d1))
        have t45 := t40.past (grown_set ((w3.setCell ⟨w1.heap.size, 2, none⟩ (.slice A26 (p.held.length + 1) c26)).setCell ⟨w.heap.size + 1, 0, none⟩ (.int .i64 p.mx)) (w.heap.size + 1) 1 (.slice B1 p.idle.length d1)) (by omega)
        have r46 : At (((w3.setCell ⟨w1.heap.size, 2, none⟩ (.slice A26 (p.held.length + 1) c26)).setCell ⟨w.heap.size + 1, 0, none⟩ (.int .i64 p.mx)).setCell ⟨w.heap.size + 1, 1, none⟩ (.slice B1 p.idle.length d1)) (w.heap.size + 1) 30 #[.int .i64 p.mx, .slice B1 p.idle.length d1, .slice none 0 0, .slice none 0 0] := by simpa using r41.set 1 (.slice B1 p.idle.length d1)
        clear hB37 x38 o39 t40 r41
        have hB47 := below_put hB42 (grown_set (((w3.setCell ⟨w1.heap.size, 2, none⟩ (.slice A26 (p.held.length + 1) c26)).setCell ⟨w.heap.size + 1, 0, none⟩ (.int .i64 p.mx)).setCell ⟨w.heap.size + 1, 1, none⟩ (.slice B1 p.idle.length d1)) (w.heap.size + 1) 2 (.slice A26 (p.held.length + 1) c26)) (by omega) (by have := hB42.size; omega)
        have x48 := x43.past (grown_set (((w3.setCell ⟨w1.heap.size, 2, none⟩ (.slice A26 (p.held.length + 1) c26)).setCell ⟨w.heap.size + 1, 0, none⟩ (.int .i64 p.mx)).setCell ⟨w.heap.size + 1, 1, none⟩ (.slice B1 p.idle.length d1)) (w.heap.size + 1) 2 (.slice A26 (p.held.length + 1) c26)) (by omega)
        have o49 := o44.past r46 (grown_set (((w3.setCell ⟨w1.heap.size, 2, none⟩ (.slice A26 (p.held.length + 1) c26)).setCell ⟨w.heap.size + 1, 0, none⟩ (.int .i64 p.mx)).setCell ⟨w.heap.size + 1, 1, none⟩ (.slice B1 p.idle.length d1)) (w.heap.size + 1) 2 (.slice A26 (p.held.length + 1) c26))
        have t50 := t45.past (grown_set (((w3.setCell ⟨w1.heap.size, 2, none⟩ (.slice A26 (p.held.length + 1) c26)).setCell ⟨w.heap.size + 1, 0, none⟩ (.int .i64 p.mx)).setCell ⟨w.heap.size + 1, 1, none⟩ (.slice B1 p.idle.length d1)) (w.heap.size + 1) 2 (.slice A26 (p.held.length + 1) c26)) (by omega)
        have r51 : At ((((w3.setCell ⟨w1.heap.size, 2, none⟩ (.slice A26 (p.held.length + 1) c26)).setCell ⟨w.heap.size + 1, 0, none⟩ (.int .i64 p.mx)).setCell ⟨w.heap.size + 1, 1, none⟩ (.slice B1 p.idle.length d1)).setCell ⟨w.heap.size + 1, 2, none⟩ (.slice A26 (p.held.length + 1) c26)) (w.heap.size + 1) 30 #[.int .i64 p.mx, .slice B1 p.idle.length d1, .slice A26 (p.held.length + 1) c26, .slice none 0 0] := by simpa using r46.set 2 (.slice A26 (p.held.length + 1) c26)
        clear hB42 x43 o44 t45 r46
        have hB52 := below_put hB47 (grown_set ((((w3.setCell ⟨w1.heap.size, 2, none⟩ (.slice A26 (p.held.length + 1) c26)).setCell ⟨w.heap.size + 1, 0, none⟩ (.int .i64 p.mx)).setCell ⟨w.heap.size + 1, 1, none⟩ (.slice B1 p.idle.length d1)).setCell ⟨w.heap.size + 1, 2, none⟩ (.slice A26 (p.held.length + 1) c26)) (w.heap.size + 1) 3 (.slice B3 p.wait.length d3)) (by omega) (by have := hB47.size; omega)
        have x53 := x48.past (grown_set ((((w3.setCell ⟨w1.heap.size, 2, none⟩ (.slice A26 (p.held.length + 1) c26)).setCell ⟨w.heap.size + 1, 0, none⟩ (.int .i64 p.mx)).setCell ⟨w.heap.size + 1, 1, none⟩ (.slice B1 p.idle.length d1)).setCell ⟨w.heap.size + 1, 2, none⟩ (.slice A26 (p.held.length + 1) c26)) (w.heap.size + 1) 3 (.slice B3 p.wait.length d3)) (by omega)
        have o54 := o49.past r51 (grown_set ((((w3.setCell ⟨w1.heap.size, 2, none⟩ (.slice A26 (p.held.length + 1) c26)).setCell ⟨w.heap.size + 1, 0, none⟩ (.int .i64 p.mx)).setCell ⟨w.heap.size + 1, 1, none⟩ (.slice B1 p.idle.length d1)).setCell ⟨w.heap.size + 1, 2, none⟩ (.slice A26 (p.held.length + 1) c26)) (w.heap.size + 1) 3 (.slice B3 p.wait.length d3))
        have t55 := t50.past (grown_set ((((w3.setCell ⟨w1.heap.size, 2, none⟩ (.slice A26 (p.held.length + 1) c26)).setCell ⟨w.heap.size + 1, 0, none⟩ (.int .i64 p.mx)).setCell ⟨w.heap.size + 1, 1, none⟩ (.slice B1 p.idle.length d1)).setCell ⟨w.heap.size + 1, 2, none⟩ (.slice A26 (p.held.length + 1) c26)) (w.heap.size + 1) 3 (.slice B3 p.wait.length d3)) (by omega)
        have r56 : At (((((w3.setCell ⟨w1.heap.size, 2, none⟩ (.slice A26 (p.held.length + 1) c26)).setCell ⟨w.heap.size + 1, 0, none⟩ (.int .i64 p.mx)).setCell ⟨w.heap.size + 1, 1, none⟩ (.slice B1 p.idle.length d1)).setCell ⟨w.heap.size + 1, 2, none⟩ (.slice A26 (p.held.length + 1) c26)).setCell ⟨w.heap.size + 1, 3, none⟩ (.slice B3 p.wait.length d3)) (w.heap.size + 1) 30 #[.int .i64 p.mx, .slice B1 p.idle.length d1, .slice A26 (p.held.length + 1) c26, .slice B3 p.wait.length d3] := by simpa using r51.set 3 (.slice B3 p.wait.length d3)
        clear hB47 x48 o49 t50 r51
        go_wp2
        refine bodyPost_ret (v := .tuple #[.agg #[.int .i64 p.mx, .slice B1 p.idle.length d1, .slice A26 (p.held.length + 1) c26, .slice B3 p.wait.length d3], .int .i64 C]) (by simp [results, Try.results95, go_sem, r56.cell]) rfl ?_
        rw [E1.out, E2.out, HP.out, HD.out]
        exact ⟨B1, A26, B3, d1, c26, d3, by simp [List.length_append], (by simpa [List.length_append] using o54.mono (show w.heap.size ≤ w.heap.size + 2 by omega)), hB52⟩
    · skip
      obtain ⟨m, hm⟩ : ∃ m, p.idle.length = m + 1 := ⟨p.idle.length - 1, by omega⟩
      clear hI
      have hmlt : m < p.idle.length := by omega
      obtain ⟨b, of, rfl, hbl, hce⟩ := h.idle.int hmlt
      clear hce
      have hp : pickC p = p.idle[m] := by unfold pickC; rw [List.getLast?_eq_getElem?]; simp [hm]
      have hd0 : p.idle.dropLast = p.idle.take m := by rw [List.dropLast_eq_take, hm]; rfl
      obtain ⟨L, hL⟩ : ∃ L, L = p.idle.take m := ⟨_, rfl⟩
      have HLL := hid (show L.length = m by rw [hL, List.length_take]; omega)
      have HLn := hid (show L.length ≤ 4194304 by rw [HLL.out]; have := H1.out; omega)
      rw [← hL] at hd0
      have HD := hid hd0
      have HLs := hid (fun (w1 : World) (hs : Sees w1 w1.heap.size (some ⟨b, of, none⟩) (ints p.idle)) => (show Sees w1 w1.heap.size (some ⟨b, of, none⟩) (ints L) by rw [hL]; exact hs.itake m))
      have HCe := hid (fun (w1 : World) (hs : Sees w1 w1.heap.size (some ⟨b, of, none⟩) (ints p.idle)) => (show w1.cell? ⟨b, of + m, none⟩ = some (.int .i64 p.idle[m]) by obtain ⟨b2, o2, e, _, h2⟩ := hs.int hmlt; injection e with e; injection e with ea eb; subst ea eb; exact h2))
      clear hL hd0
      obtain ⟨C, hC⟩ : ∃ C, C = p.idle[m] := ⟨_, rfl⟩
      rw [← hC] at hp HCe
      have HP := hid hp
      clear hC hp
      obtain ⟨D, hD⟩ : ∃ D, D = closed p := ⟨_, rfl⟩
      have HC := hid hD.symm
      clear hD
      have hgt : (p.idle.length : Int) > 0 := by omega
      have hw1 : IntKind.i64.wrap ((p.idle.length : Int) - 1) = (m : Int) := by rw [IntKind.wrap_i64]; have := H1.out; omega
      have hm0 : (0 : Int) ≤ (m : Int) := by omega
      have hmc : (m : Int) ≤ (c1 : Int) := by omega
      have hml : (m : Int) < (p.idle.length : Int) := by omega
      have hm13 : m ≤ 2097152 := by have := H1.out; omega
      have HM := hid hm
      clear hm hmlt
      rw [HP.out] at hpp
      have hcn : ¬ C < 0 := by omega
      clear hpp
      have hB57 := Below.refl w.heap.size w
      have hB58 := hB57.alloc hB57.size (.cells #[.int .i64 p.mx, .slice (some ⟨b, of, none⟩) p.idle.length c1, .slice A2 p.held.length c2, .slice A3 p.wait.length c3] 30)
      clear hB57
      have x59 : At (w.alloc (.cells #[.int .i64 p.mx, .slice (some ⟨b, of, none⟩) p.idle.length c1, .slice A2 p.held.length c2, .slice A3 p.wait.length c3] 30)) (w.heap.size) 30 #[.int .i64 p.mx, .slice (some ⟨b, of, none⟩) p.idle.length c1, .slice A2 p.held.length c2, .slice A3 p.wait.length c3] := At.newAt _ _ (by first | rfl | (simp; done) | (simp; omega))
      have hB60 := hB58.alloc hB58.size (.cells #[.int .i64 0, .slice none 0 0, .slice none 0 0, .slice none 0 0] 30)
      have x61 := x59.alloc (.cells #[.int .i64 0, .slice none 0 0, .slice none 0 0, .slice none 0 0] 30)
      clear hB58 x59
      have r62 : At ((w.alloc (.cells #[.int .i64 p.mx, .slice (some ⟨b, of, none⟩) p.idle.length c1, .slice A2 p.held.length c2, .slice A3 p.wait.length c3] 30)).alloc (.cells #[.int .i64 0, .slice none 0 0, .slice none 0 0, .slice none 0 0] 30)) (w.heap.size + 1) 30 #[.int .i64 0, .slice none 0 0, .slice none 0 0, .slice none 0 0] := At.newAt _ _ (by first | rfl | (simp; done) | (simp; omega))
      go_enter Try.func95, Try.ntmps95
      obtain ⟨p0, p1, p2, p3, pl, pf⟩ := (⟨x61.cell 0, x61.cell 1, x61.cell 2, x61.cell 3, x61.lt, x61.frozen⟩ : _ ∧ _ ∧ _ ∧ _ ∧ _ ∧ _)
      obtain ⟨q0, q1, q2, q3, ql, qf⟩ := (⟨r62.cell 0, r62.cell 1, r62.cell 2, r62.cell 3, r62.lt, r62.frozen⟩ : _ ∧ _ ∧ _ ∧ _ ∧ _ ∧ _)
      go_wp2_with fail
      with_reducible refine (scopyPool_any p (some ⟨b, of, none⟩) A2 A3 c1 c2 c3 _ (h.on hB60) (Nat.le_trans H1.out (by decide)) (Nat.le_trans H2.out (by decide)) (Nat.le_trans H3.out (by decide))).mono ?_
      rintro e w1 ⟨B1, B2, B3, d1, d2, d3, rfl, ho, hb1⟩
      have sz1 : w.heap.size + 2 ≤ w1.heap.size := Nat.le_trans (by first | exact Nat.le_refl _ | (simp; done) | (simp; omega)) (hb1.size)
      have hB63 := hB60.trans (hb1.mono hB60.size)
      have x64 := x61.below hb1 x61.lt
      have r65 := r62.below hb1 r62.lt
      clear hB60 x61 r62
      clear p0 p1 p2 p3 pl pf q0 q1 q2 q3 ql qf
      have o66 := ho.mono (show w.heap.size + 2 ≤ _ by simp)
      clear ho
      obtain ⟨p0, p1, p2, p3, pl, pf⟩ := (⟨x64.cell 0, x64.cell 1, x64.cell 2, x64.cell 3, x64.lt, x64.frozen⟩ : _ ∧ _ ∧ _ ∧ _ ∧ _ ∧ _)
      obtain ⟨q0, q1, q2, q3, ql, qf⟩ := (⟨r65.cell 0, r65.cell 1, r65.cell 2, r65.cell 3, r65.lt, r65.frozen⟩ : _ ∧ _ ∧ _ ∧ _ ∧ _ ∧ _)
      have hB67 := hB63.alloc hB63.size (.cells #[.int .i64 p.mx, .slice B1 p.idle.length d1, .slice B2 p.held.length d2, .slice B3 p.wait.length d3] 30)
      have x68 := x64.alloc (.cells #[.int .i64 p.mx, .slice B1 p.idle.length d1, .slice B2 p.held.length d2, .slice B3 p.wait.length d3] 30)
      have r69 := r65.alloc (.cells #[.int .i64 p.mx, .slice B1 p.idle.length d1, .slice B2 p.held.length d2, .slice B3 p.wait.length d3] 30)
      have o70 := o66.alloc (.cells #[.int .i64 p.mx, .slice B1 p.idle.length d1, .slice B2 p.held.length d2, .slice B3 p.wait.length d3] 30)
      clear hB63 x64 r65 o66
      have t71 : At (w1.alloc (.cells #[.int .i64 p.mx, .slice B1 p.idle.length d1, .slice B2 p.held.length d2, .slice B3 p.wait.length d3] 30)) (w1.heap.size) 30 #[.int .i64 p.mx, .slice B1 p.idle.length d1, .slice B2 p.held.length d2, .slice B3 p.wait.length d3] := At.newAt _ _ (by first | rfl | (simp; done) | (simp; omega))
      go_wp2_with fail
      with_reducible refine (sclosed_any p (some ⟨b, of, none⟩) A2 A3 c1 c2 c3 _ (h.on hB67) (Nat.le_trans H1.out (by decide)) (Nat.le_trans H2.out (by decide)) hmx).mono ?_
      rintro e w2 ⟨he, hb2⟩
      rw [HC.out] at he
      subst he
      have sz2 : w1.heap.size + 1 ≤ w2.heap.size := Nat.le_trans (by first | exact Nat.le_refl _ | (simp; done) | (simp; omega)) (hb2.size)
      have hB72 := hB67.trans (hb2.mono hB67.size)
      have x73 := x68.below hb2 x68.lt
      have r74 := r69.below hb2 r69.lt
      have o75 := o70.below hb2
      have t76 := t71.below hb2 t71.lt
      clear hB67 x68 r69 o70 t71
      clear p0 p1 p2 p3 pl pf q0 q1 q2 q3 ql qf
      obtain ⟨p0, p1, p2, p3, pl, pf⟩ := (⟨x73.cell 0, x73.cell 1, x73.cell 2, x73.cell 3, x73.lt, x73.frozen⟩ : _ ∧ _ ∧ _ ∧ _ ∧ _ ∧ _)
      obtain ⟨q0, q1, q2, q3, ql, qf⟩ := (⟨r74.cell 0, r74.cell 1, r74.cell 2, r74.cell 3, r74.lt, r74.frozen⟩ : _ ∧ _ ∧ _ ∧ _ ∧ _ ∧ _)
      obtain ⟨t0, t1, t2, t3, tl, tf⟩ := (⟨t76.cell 0, t76.cell 1, t76.cell 2, t76.cell 3, t76.lt, t76.frozen⟩ : _ ∧ _ ∧ _ ∧ _ ∧ _ ∧ _)
      have ne_pq : ¬ w.heap.size = w.heap.size + 1 := by omega
      have ne_qp : ¬ w.heap.size + 1 = w.heap.size := by omega
      have ne_pt : ¬ w.heap.size = w1.heap.size := by omega
      have ne_tp : ¬ w1.heap.size = w.heap.size := by omega
      have ne_qt : ¬ w.heap.size + 1 = w1.heap.size := by omega
      have ne_tq : ¬ w1.heap.size = w.heap.size + 1 := by omega
      have hcell := HCe.out _ (h.on hB72).idle
      go_wp2_with fail
      with_reducible refine (copyInts_len HLL.out (HLs.out _ (h.on hB72).idle) HLn.out).mono ?_
      rintro e w3 ⟨v3, rfl, hn3, hb3⟩
      obtain ⟨An3, cn3, rfl, _⟩ := hn3.form
      have sz3 : w2.heap.size ≤ w3.heap.size := Nat.le_trans (by first | exact Nat.le_refl _ | (simp; done) | (simp; omega)) (hb3.size)
      have o77 := o75.newIdle (by first | omega | (simp; omega) | (simp; done)) hn3 hb3
      have hB78 := hB72.trans (hb3.mono hB72.size)
      have x79 := x73.below hb3 x73.lt
      have r80 := r74.below hb3 r74.lt
      have t81 := t76.below hb3 t76.lt
      clear hB72 x73 r74 t76
      clear p0 p1 p2 p3 pl pf q0 q1 q2 q3 ql qf t0 t1 t2 t3 tl tf ne_pq ne_qp ne_pt ne_tp ne_qt ne_tq
      clear o75 hn3
      clear hcell
      obtain ⟨p0, p1, p2, p3, pl, pf⟩ := (⟨x79.cell 0, x79.cell 1, x79.cell 2, x79.cell 3, x79.lt, x79.frozen⟩ : _ ∧ _ ∧ _ ∧ _ ∧ _ ∧ _)
      obtain ⟨q0, q1, q2, q3, ql, qf⟩ := (⟨r80.cell 0, r80.cell 1, r80.cell 2, r80.cell 3, r80.lt, r80.frozen⟩ : _ ∧ _ ∧ _ ∧ _ ∧ _ ∧ _)
      obtain ⟨t0, t1, t2, t3, tl, tf⟩ := (⟨t81.cell 0, t81.cell 1, t81.cell 2, t81.cell 3, t81.lt, t81.frozen⟩ : _ ∧ _ ∧ _ ∧ _ ∧ _ ∧ _)
      have ne_pq : ¬ w.heap.size = w.heap.size + 1 := by omega
      have ne_qp : ¬ w.heap.size + 1 = w.heap.size := by omega
      have ne_pt : ¬ w.heap.size = w1.heap.size := by omega
      have ne_tp : ¬ w1.heap.size = w.heap.size := by omega
      have ne_qt : ¬ w.heap.size + 1 = w1.heap.size := by omega
      have ne_tq : ¬ w1.heap.size = w.heap.size + 1 := by omega
      have hB82 := below_put hB78 (grown_set w3 (w1.heap.size) 1 (.slice An3 L.length cn3)) (by omega) (by have := hB78.size; omega)
      have x83 := x79.past (grown_set w3 (w1.heap.size) 1 (.slice An3 L.length cn3)) (by omega)
      have r84 := r80.past (grown_set w3 (w1.heap.size) 1 (.slice An3 L.length cn3)) (by omega)
      have o85 := o77.past t81 (grown_set w3 (w1.heap.size) 1 (.slice An3 L.length cn3))
      have t86 : At (w3.setCell ⟨w1.heap.size, 1, none⟩ (.slice An3 L.length cn3)) (w1.heap.size) 30 #[.int .i64 p.mx, .slice An3 L.length cn3, .slice B2 p.held.length d2, .slice B3 p.wait.length d3] := by simpa using t81.set 1 (.slice An3 L.length cn3)
      clear hB78 x79 r80 o77 t81
      have hB87 := hB82.alloc hB82.size (.cells #[.int .i64 C, .int .i64 o] 91)
      have x88 := x83.alloc (.cells #[.int .i64 C, .int .i64 o] 91)
      have r89 := r84.alloc (.cells #[.int .i64 C, .int .i64 o] 91)
      have t90 := t86.alloc (.cells #[.int .i64 C, .int .i64 o] 91)
      have o91 := o85.alloc (.cells #[.int .i64 C, .int .i64 o] 91)
      clear hB82 x83 r84 t86 o85
      have hown := o91.2.1.out
      have hlow := o91.low.2.1
      go_wp2_with (at_builtin; refine wpList_append_own_at _ rfl _ _ 28 rfl (w.heap.size + 2) 91 ih0 (.agg #[.int .i64 0, .int .i64 0]) 2 16 Try.underlying28 hih0 hzh0 hzh1 hzh2 rfl (by decide) _ _ _ rfl hown ⟨w3.heap.size, 0, none⟩ 1 1 [.int .i64 C, .int .i64 o] rfl rfl (by simpa using cells_new (w3.setCell ⟨w1.heap.size, 1, none⟩ (.slice An3 L.length cn3)) [.int .i64 C, .int .i64 o] 91) ?c2 ?c3 ?c4 ?c5 ?_)
      case c2 => simp [Value.oneCell']
      case c3 => have := H2.out; unfold maxLen; omega
      case c4 => have := H2.out; omega
      case c5 => first | omega | (simp; omega) | (simp; done)
      case _ =>
        intro va w4 h1 hg1 _ hat
        obtain ⟨A92, c92, rfl, _, _⟩ := own_form h1
        have sz4 : w3.heap.size + 1 ≤ w4.heap.size := Nat.le_trans (by first | exact Nat.le_refl _ | (simp; done) | (simp; omega)) (hg1.size)
        have hB93 := hB87.grown hg1 hB87.size (fun q hq => Nat.le_trans (by omega) (hlow q hq))
        have x94 := x88.beside hown (by decide) hg1
        have r95 := r89.beside hown (by decide) hg1
        have t96 := t90.beside hown (by decide) hg1
        have o97 := o91.addHeld (x := ⟨C, o⟩) h1 hg1 (by simpa using hat)
        clear h1 hg1 hat hown hlow hB87 x88 r89 t90 o91
        clear p0 p1 p2 p3 pl pf q0 q1 q2 q3 ql qf t0 t1 t2 t3 tl tf ne_pq ne_qp ne_pt ne_tp ne_qt ne_tq
        obtain ⟨p0, p1, p2, p3, pl, pf⟩ := (⟨x94.cell 0, x94.cell 1, x94.cell 2, x94.cell 3, x94.lt, x94.frozen⟩ : _ ∧ _ ∧ _ ∧ _ ∧ _ ∧ _)
        obtain ⟨q0, q1, q2, q3, ql, qf⟩ := (⟨r95.cell 0, r95.cell 1, r95.cell 2, r95.cell 3, r95.lt, r95.frozen⟩ : _ ∧ _ ∧ _ ∧ _ ∧ _ ∧ _)
        obtain ⟨t0, t1, t2, t3, tl, tf⟩ := (⟨t96.cell 0, t96.cell 1, t96.cell 2, t96.cell 3, t96.lt, t96.frozen⟩ : _ ∧ _ ∧ _ ∧ _ ∧ _ ∧ _)
        have ne_pq : ¬ w.heap.size = w.heap.size + 1 := by omega
        have ne_qp : ¬ w.heap.size + 1 = w.heap.size := by omega
        have ne_pt : ¬ w.heap.size = w1.heap.size := by omega
        have ne_tp : ¬ w1.heap.size = w.heap.size := by omega
        have ne_qt : ¬ w.heap.size + 1 = w1.heap.size := by omega
        have ne_tq : ¬ w1.heap.size = w.heap.size + 1 := by omega
        have hB98 := below_put hB93 (grown_set w4 (w1.heap.size) 2 (.slice A92 (p.held.length + 1) c92)) (by omega) (by have := hB93.size; omega)
        have x99 := x94.past (grown_set w4 (w1.heap.size) 2 (.slice A92 (p.held.length + 1) c92)) (by omega)
        have r100 := r95.past (grown_set w4 (w1.heap.size) 2 (.slice A92 (p.held.length + 1) c92)) (by omega)
        have o101 := o97.past t96 (grown_set w4 (w1.heap.size) 2 (.slice A92 (p.held.length + 1) c92))
        have t102 : At (w4.setCell ⟨w1.heap.size, 2, none⟩ (.slice A92 (p.held.length + 1) c92)) (w1.heap.size) 30 #[.int .i64 p.mx, .slice An3 L.length cn3, .slice A92 (p.held.length + 1) c92, .slice B3 p.wait.length d3] := by simpa using t96.set 2 (.slice A92 (p.held.length + 1) c92)
        clear hB93 x94 r95 o97 t96
        have hB103 := below_put hB98 (grown_set (w4.setCell ⟨w1.heap.size, 2, none⟩ (.slice A92 (p.held.length + 1) c92)) (w.heap.size + 1) 0 (.int .i64 p.mx)) (by omega) (by have := hB98.size; omega)
        have x104 := x99.past (grown_set (w4.setCell ⟨w1.heap.size, 2, none⟩ (.slice A92 (p.held.length + 1) c92)) (w.heap.size + 1) 0 (.int .i64 p.mx)) (by omega)
        have t105 := t102.past (grown_set (w4.setCell ⟨w1.heap.size, 2, none⟩ (.slice A92 (p.held.length + 1) c92)) (w.heap.size + 1) 0 (.int .i64 p.mx)) (by omega)
        have o106 := o101.past r100 (grown_set (w4.setCell ⟨w1.heap.size, 2, none⟩ (.slice A92 (p.held.length + 1) c92)) (w.heap.size + 1) 0 (.int .i64 p.mx))
        have r107 : At ((w4.setCell ⟨w1.heap.size, 2, none⟩ (.slice A92 (p.held.length + 1) c92)).setCell ⟨w.heap.size + 1, 0, none⟩ (.int .i64 p.mx)) (w.heap.size + 1) 30 #[.int .i64 p.mx, .slice none 0 0, .slice none 0 0, .slice none 0 0] := by simpa using r100.set 0 (.int .i64 p.mx)
        clear hB98 x99 t102 o101 r100
        have hB108 := below_put hB103 (grown_set ((w4.setCell ⟨w1.heap.size, 2, none⟩ (.slice A92 (p.held.length + 1) c92)).setCell ⟨w.heap.size + 1, 0, none⟩ (.int .i64 p.mx)) (w.heap.size + 1) 1 (.slice An3 L.length cn3)) (by omega) (by have := hB103.size; omega)
        have x109 := x104.past (grown_set ((w4.setCell ⟨w1.heap.size, 2, none⟩ (.slice A92 (p.held.length + 1) c92)).setCell ⟨w.heap.size + 1, 0, none⟩ (.int .i64 p.mx)) (w.heap.size + 1) 1 (.slice An3 L.length cn3)) (by omega)
        have t110 := t105.past (grown_set ((w4.setCell ⟨w1.heap.size, 2, none⟩ (.slice A92 (p.held.length + 1) c92)).setCell ⟨w.heap.size + 1, 0, none⟩ (.int .i64 p.mx)) (w.heap.size + 1) 1 (.slice An3 L.length cn3)) (by omega)
        have o111 := o106.past r107 (grown_set ((w4.setCell ⟨w1.heap.size, 2, none⟩ (.slice A92 (p.held.length + 1) c92)).setCell ⟨w.heap.size + 1, 0, none⟩ (.int .i64 p.mx)) (w.heap.size + 1) 1 (.slice An3 L.length cn3))
        have r112 : At (((w4.setCell ⟨w1.heap.size, 2, none⟩ (.slice A92 (p.held.length + 1) c92)).setCell ⟨w.heap.size + 1, 0, none⟩ (.int .i64 p.mx)).setCell ⟨w.heap.size + 1, 1, none⟩ (.slice An3 L.length cn3)) (w.heap.size + 1) 30 #[.int .i64 p.mx, .slice An3 L.length cn3, .slice none 0 0, .slice none 0 0] := by simpa using r107.set 1 (.slice An3 L.length cn3)
        clear hB103 x104 t105 o106 r107
        have hB113 := below_put hB108 (grown_set (((w4.setCell ⟨w1.heap.size, 2, none⟩ (.slice A92 (p.held.length + 1) c92)).setCell ⟨w.heap.size + 1, 0, none⟩ (.int .i64 p.mx)).setCell ⟨w.heap.size + 1, 1, none⟩ (.slice An3 L.length cn3)) (w.heap.size + 1) 2 (.slice A92 (p.held.length + 1) c92)) (by omega) (by have := hB108.size; omega)
        have x114 := x109.past (grown_set (((w4.setCell ⟨w1.heap.size, 2, none⟩ (.slice A92 (p.held.length + 1) c92)).setCell ⟨w.heap.size + 1, 0, none⟩ (.int .i64 p.mx)).setCell ⟨w.heap.size + 1, 1, none⟩ (.slice An3 L.length cn3)) (w.heap.size + 1) 2 (.slice A92 (p.held.length + 1) c92)) (by omega)
        have t115 := t110.past (grown_set (((w4.setCell ⟨w1.heap.size, 2, none⟩ (.slice A92 (p.held.length + 1) c92)).setCell ⟨w.heap.size + 1, 0, none⟩ (.int .i64 p.mx)).setCell ⟨w.heap.size + 1, 1, none⟩ (.slice An3 L.length cn3)) (w.heap.size + 1) 2 (.slice A92 (p.held.length + 1) c92)) (by omega)
        have o116 := o111.past r112 (grown_set (((w4.setCell ⟨w1.heap.size, 2, none⟩ (.slice A92 (p.held.length + 1) c92)).setCell ⟨w.heap.size + 1, 0, none⟩ (.int .i64 p.mx)).setCell ⟨w.heap.size + 1, 1, none⟩ (.slice An3 L.length cn3)) (w.heap.size + 1) 2 (.slice A92 (p.held.length + 1) c92))
        have r117 : At ((((w4.setCell ⟨w1.heap.size, 2, none⟩ (.slice A92 (p.held.length + 1) c92)).setCell ⟨w.heap.size + 1, 0, none⟩ (.int .i64 p.mx)).setCell ⟨w.heap.size + 1, 1, none⟩ (.slice An3 L.length cn3)).setCell ⟨w.heap.size + 1, 2, none⟩ (.slice A92 (p.held.length + 1) c92)) (w.heap.size + 1) 30 #[.int .i64 p.mx, .slice An3 L.length cn3, .slice A92 (p.held.length + 1) c92, .slice none 0 0] := by simpa using r112.set 2 (.slice A92 (p.held.length + 1) c92)
        clear hB108 x109 t110 o111 r112
        have hB118 := below_put hB113 (grown_set ((((w4.setCell ⟨w1.heap.size, 2, none⟩ (.slice A92 (p.held.length + 1) c92)).setCell ⟨w.heap.size + 1, 0, none⟩ (.int .i64 p.mx)).setCell ⟨w.heap.size + 1, 1, none⟩ (.slice An3 L.length cn3)).setCell ⟨w.heap.size + 1, 2, none⟩ (.slice A92 (p.held.length + 1) c92)) (w.heap.size + 1) 3 (.slice B3 p.wait.length d3)) (by omega) (by have := hB113.size; omega)
        have x119 := x114.past (grown_set ((((w4.setCell ⟨w1.heap.size, 2, none⟩ (.slice A92 (p.held.length + 1) c92)).setCell ⟨w.heap.size + 1, 0, none⟩ (.int .i64 p.mx)).setCell ⟨w.heap.size + 1, 1, none⟩ (.slice An3 L.length cn3)).setCell ⟨w.heap.size + 1, 2, none⟩ (.slice A92 (p.held.length + 1) c92)) (w.heap.size + 1) 3 (.slice B3 p.wait.length d3)) (by omega)
        have t120 := t115.past (grown_set ((((w4.setCell ⟨w1.heap.size, 2, none⟩ (.slice A92 (p.held.length + 1) c92)).setCell ⟨w.heap.size + 1, 0, none⟩ (.int .i64 p.mx)).setCell ⟨w.heap.size + 1, 1, none⟩ (.slice An3 L.length cn3)).setCell ⟨w.heap.size + 1, 2, none⟩ (.slice A92 (p.held.length + 1) c92)) (w.heap.size + 1) 3 (.slice B3 p.wait.length d3)) (by omega)
        have o121 := o116.past r117 (grown_set ((((w4.setCell ⟨w1.heap.size, 2, none⟩ (.slice A92 (p.held.length + 1) c92)).setCell ⟨w.heap.size + 1, 0, none⟩ (.int .i64 p.mx)).setCell ⟨w.heap.size + 1, 1, none⟩ (.slice An3 L.length cn3)).setCell ⟨w.heap.size + 1, 2, none⟩ (.slice A92 (p.held.length + 1) c92)) (w.heap.size + 1) 3 (.slice B3 p.wait.length d3))
        have r122 : At (((((w4.setCell ⟨w1.heap.size, 2, none⟩ (.slice A92 (p.held.length + 1) c92)).setCell ⟨w.heap.size + 1, 0, none⟩ (.int .i64 p.mx)).setCell ⟨w.heap.size + 1, 1, none⟩ (.slice An3 L.length cn3)).setCell ⟨w.heap.size + 1, 2, none⟩ (.slice A92 (p.held.length + 1) c92)).setCell ⟨w.heap.size + 1, 3, none⟩ (.slice B3 p.wait.length d3)) (w.heap.size + 1) 30 #[.int .i64 p.mx, .slice An3 L.length cn3, .slice A92 (p.held.length + 1) c92, .slice B3 p.wait.length d3] := by simpa using r117.set 3 (.slice B3 p.wait.length d3)
        clear hB113 x114 t115 o116 r117
        go_wp2
        refine bodyPost_ret (v := .tuple #[.agg #[.int .i64 p.mx, .slice An3 L.length cn3, .slice A92 (p.held.length + 1) c92, .slice B3 p.wait.length d3], .int .i64 C]) (by simp [results, Try.results95, go_sem, r122.cell]) rfl ?_
        rw [E1.out, E2.out, HP.out, HD.out]
        exact ⟨An3, A92, B3, cn3, c92, d3, by simp [List.length_append], (by simpa [List.length_append] using o121.mono (show w.heap.size ≤ w.heap.size + 2 by omega)), hB118⟩
  · skip
    obtain ⟨e1, e2⟩ := acqP_full (o := o) hf
    have E1 := hid e1
    have E2 := hid e2
    obtain ⟨hI, hC⟩ := (full_iff hok).1 (fullB_iff.1 hf)
    have HC := hid hC
    have hgt : ¬ (p.idle.length : Int) > 0 := by rw [hI]; simp
    clear hI hC e1 e2 hf hok
    have hB123 := Below.refl w.heap.size w
    have hB124 := hB123.alloc hB123.size (.cells #[.int .i64 p.mx, .slice A1 p.idle.length c1, .slice A2 p.held.length c2, .slice A3 p.wait.length c3] 30)
    clear hB123
    have x125 : At (w.alloc (.cells #[.int .i64 p.mx, .slice A1 p.idle.length c1, .slice A2 p.held.length c2, .slice A3 p.wait.length c3] 30)) (w.heap.size) 30 #[.int .i64 p.mx, .slice A1 p.idle.length c1, .slice A2 p.held.length c2, .slice A3 p.wait.length c3] := At.newAt _ _ (by first | rfl | (simp; done) | (simp; omega))
    have hB126 := hB124.alloc hB124.size (.cells #[.int .i64 0, .slice none 0 0, .slice none 0 0, .slice none 0 0] 30)
    have x127 := x125.alloc (.cells #[.int .i64 0, .slice none 0 0, .slice none 0 0, .slice none 0 0] 30)
    clear hB124 x125
    have r128 : At ((w.alloc (.cells #[.int .i64 p.mx, .slice A1 p.idle.length c1, .slice A2 p.held.length c2, .slice A3 p.wait.length c3] 30)).alloc (.cells #[.int .i64 0, .slice none 0 0, .slice none 0 0, .slice none 0 0] 30)) (w.heap.size + 1) 30 #[.int .i64 0, .slice none 0 0, .slice none 0 0, .slice none 0 0] := At.newAt _ _ (by first | rfl | (simp; done) | (simp; omega))
    go_enter Try.func95, Try.ntmps95
    obtain ⟨p0, p1, p2, p3, pl, pf⟩ := (⟨x127.cell 0, x127.cell 1, x127.cell 2, x127.cell 3, x127.lt, x127.frozen⟩ : _ ∧ _ ∧ _ ∧ _ ∧ _ ∧ _)
    obtain ⟨q0, q1, q2, q3, ql, qf⟩ := (⟨r128.cell 0, r128.cell 1, r128.cell 2, r128.cell 3, r128.lt, r128.frozen⟩ : _ ∧ _ ∧ _ ∧ _ ∧ _ ∧ _)
    go_wp2_with fail
    with_reducible refine (scopyPool_any p A1 A2 A3 c1 c2 c3 _ (h.on hB126) (Nat.le_trans H1.out (by decide)) (Nat.le_trans H2.out (by decide)) (Nat.le_trans H3.out (by decide))).mono ?_
    rintro e w1 ⟨B1, B2, B3, d1, d2, d3, rfl, ho, hb1⟩
    have sz1 : w.heap.size + 2 ≤ w1.heap.size := Nat.le_trans (by first | exact Nat.le_refl _ | (simp; done) | (simp; omega)) (hb1.size)
    have hB129 := hB126.trans (hb1.mono hB126.size)
    have x130 := x127.below hb1 x127.lt
    have r131 := r128.below hb1 r128.lt
    clear hB126 x127 r128
    clear p0 p1 p2 p3 pl pf q0 q1 q2 q3 ql qf
    have o132 := ho.mono (show w.heap.size + 2 ≤ _ by simp)
    clear ho
    obtain ⟨p0, p1, p2, p3, pl, pf⟩ := (⟨x130.cell 0, x130.cell 1, x130.cell 2, x130.cell 3, x130.lt, x130.frozen⟩ : _ ∧ _ ∧ _ ∧ _ ∧ _ ∧ _)
    obtain ⟨q0, q1, q2, q3, ql, qf⟩ := (⟨r131.cell 0, r131.cell 1, r131.cell 2, r131.cell 3, r131.lt, r131.frozen⟩ : _ ∧ _ ∧ _ ∧ _ ∧ _ ∧ _)
    have hB133 := hB129.alloc hB129.size (.cells #[.int .i64 p.mx, .slice B1 p.idle.length d1, .slice B2 p.held.length d2, .slice B3 p.wait.length d3] 30)
    have x134 := x130.alloc (.cells #[.int .i64 p.mx, .slice B1 p.idle.length d1, .slice B2 p.held.length d2, .slice B3 p.wait.length d3] 30)
    have r135 := r131.alloc (.cells #[.int .i64 p.mx, .slice B1 p.idle.length d1, .slice B2 p.held.length d2, .slice B3 p.wait.length d3] 30)
    have o136 := o132.alloc (.cells #[.int .i64 p.mx, .slice B1 p.idle.length d1, .slice B2 p.held.length d2, .slice B3 p.wait.length d3] 30)
    clear hB129 x130 r131 o132
    have t137 : At (w1.alloc (.cells #[.int .i64 p.mx, .slice B1 p.idle.length d1, .slice B2 p.held.length d2, .slice B3 p.wait.length d3] 30)) (w1.heap.size) 30 #[.int .i64 p.mx, .slice B1 p.idle.length d1, .slice B2 p.held.length d2, .slice B3 p.wait.length d3] := At.newAt _ _ (by first | rfl | (simp; done) | (simp; omega))
    go_wp2_with fail
    with_reducible refine (sclosed_any p A1 A2 A3 c1 c2 c3 _ (h.on hB133) (Nat.le_trans H1.out (by decide)) (Nat.le_trans H2.out (by decide)) hmx).mono ?_
    rintro e w2 ⟨he, hb2⟩
    rw [HC.out] at he
    subst he
    have sz2 : w1.heap.size + 1 ≤ w2.heap.size := Nat.le_trans (by first | exact Nat.le_refl _ | (simp; done) | (simp; omega)) (hb2.size)
    have hB138 := hB133.trans (hb2.mono hB133.size)
    have x139 := x134.below hb2 x134.lt
    have r140 := r135.below hb2 r135.lt
    have o141 := o136.below hb2
    have t142 := t137.below hb2 t137.lt
    clear hB133 x134 r135 o136 t137
    clear p0 p1 p2 p3 pl pf q0 q1 q2 q3 ql qf
    obtain ⟨p0, p1, p2, p3, pl, pf⟩ := (⟨x139.cell 0, x139.cell 1, x139.cell 2, x139.cell 3, x139.lt, x139.frozen⟩ : _ ∧ _ ∧ _ ∧ _ ∧ _ ∧ _)
    obtain ⟨q0, q1, q2, q3, ql, qf⟩ := (⟨r140.cell 0, r140.cell 1, r140.cell 2, r140.cell 3, r140.lt, r140.frozen⟩ : _ ∧ _ ∧ _ ∧ _ ∧ _ ∧ _)
    obtain ⟨t0, t1, t2, t3, tl, tf⟩ := (⟨t142.cell 0, t142.cell 1, t142.cell 2, t142.cell 3, t142.lt, t142.frozen⟩ : _ ∧ _ ∧ _ ∧ _ ∧ _ ∧ _)
    have ne_pq : ¬ w.heap.size = w.heap.size + 1 := by omega
    have ne_qp : ¬ w.heap.size + 1 = w.heap.size := by omega
    have ne_pt : ¬ w.heap.size = w1.heap.size := by omega
    have ne_tp : ¬ w1.heap.size = w.heap.size := by omega
    have ne_qt : ¬ w.heap.size + 1 = w1.heap.size := by omega
    have ne_tq : ¬ w1.heap.size = w.heap.size + 1 := by omega
    have hB143 := hB138.alloc hB138.size (.cells #[.int .i64 o] 3)
    have x144 := x139.alloc (.cells #[.int .i64 o] 3)
    have r145 := r140.alloc (.cells #[.int .i64 o] 3)
    have o146 := o141.alloc (.cells #[.int .i64 o] 3)
    have t147 := t142.alloc (.cells #[.int .i64 o] 3)
    clear hB138 x139 r140 o141 t142
    have hown := o146.2.2.1.out
    have hlow := o146.low.2.2
    go_wp2_with (at_builtin; refine wpList_append_own_at _ rfl _ _ 22 rfl (w.heap.size + 2) 3 i0 (.int .i64 0) 1 8 Try.underlying22 hi0 hz0 hz1 hz2 rfl (by decide) _ _ _ rfl hown ⟨w2.heap.size, 0, none⟩ 1 1 [.int .i64 o] rfl rfl (by simpa using cell_one_new w2 (.int .i64 o) 3) ?c2 ?c3 ?c4 ?c5 ?_)
    case c2 => simp [Value.oneCell']
    case c3 => have := H3.out; unfold maxLen; omega
    case c4 => have := H3.out; omega
    case c5 => first | omega | (simp; omega) | (simp; done)
    case _ =>
      intro va w3 h1 hg1 _ hat
      obtain ⟨A148, c148, rfl, _, _⟩ := own_form h1
      have sz3 : w2.heap.size + 1 ≤ w3.heap.size := Nat.le_trans (by first | exact Nat.le_refl _ | (simp; done) | (simp; omega)) (hg1.size)
      have hB149 := hB143.grown hg1 hB143.size (fun q hq => Nat.le_trans (by omega) (hlow q hq))
      have x150 := x144.beside hown (by decide) hg1
      have r151 := r145.beside hown (by decide) hg1
      have t152 := t147.beside hown (by decide) hg1
      have o153 := o146.addWait (x := o) h1 hg1 (by simpa using hat)
      clear h1 hg1 hat hown hlow hB143 x144 r145 t147 o146
      clear p0 p1 p2 p3 pl pf q0 q1 q2 q3 ql qf t0 t1 t2 t3 tl tf ne_pq ne_qp ne_pt ne_tp ne_qt ne_tq
      obtain ⟨p0, p1, p2, p3, pl, pf⟩ := (⟨x150.cell 0, x150.cell 1, x150.cell 2, x150.cell 3, x150.lt, x150.frozen⟩ : _ ∧ _ ∧ _ ∧ _ ∧ _ ∧ _)
      obtain ⟨q0, q1, q2, q3, ql, qf⟩ := (⟨r151.cell 0, r151.cell 1, r151.cell 2, r151.cell 3, r151.lt, r151.frozen⟩ : _ ∧ _ ∧ _ ∧ _ ∧ _ ∧ _)
      obtain ⟨t0, t1, t2, t3, tl, tf⟩ := (⟨t152.cell 0, t152.cell 1, t152.cell 2, t152.cell 3, t152.lt, t152.frozen⟩ : _ ∧ _ ∧ _ ∧ _ ∧ _ ∧ _)
      have ne_pq : ¬ w.heap.size = w.heap.size + 1 := by omega
      have ne_qp : ¬ w.heap.size + 1 = w.heap.size := by omega
      have ne_pt : ¬ w.heap.size = w1.heap.size := by omega
      have ne_tp : ¬ w1.heap.size = w.heap.size := by omega
      have ne_qt : ¬ w.heap.size + 1 = w1.heap.size := by omega
      have ne_tq : ¬ w1.heap.size = w.heap.size + 1 := by omega
      have hB154 := below_put hB149 (grown_set w3 (w1.heap.size) 3 (.slice A148 (p.wait.length + 1) c148)) (by omega) (by have := hB149.size; omega)
      have x155 := x150.past (grown_set w3 (w1.heap.size) 3 (.slice A148 (p.wait.length + 1) c148)) (by omega)
      have r156 := r151.past (grown_set w3 (w1.heap.size) 3 (.slice A148 (p.wait.length + 1) c148)) (by omega)
      have o157 := o153.past t152 (grown_set w3 (w1.heap.size) 3 (.slice A148 (p.wait.length + 1) c148))
      have t158 : At (w3.setCell ⟨w1.heap.size, 3, none⟩ (.slice A148 (p.wait.length + 1) c148)) (w1.heap.size) 30 #[.int .i64 p.mx, .slice B1 p.idle.length d1, .slice B2 p.held.length d2, .slice A148 (p.wait.length + 1) c148] := by simpa using t152.set 3 (.slice A148 (p.wait.length + 1) c148)
      clear hB149 x150 r151 o153 t152
      have hB159 := below_put hB154 (grown_set (w3.setCell ⟨w1.heap.size, 3, none⟩ (.slice A148 (p.wait.length + 1) c148)) (w.heap.size + 1) 0 (.int .i64 p.mx)) (by omega) (by have := hB154.size; omega)
      have x160 := x155.past (grown_set (w3.setCell ⟨w1.heap.size, 3, none⟩ (.slice A148 (p.wait.length + 1) c148)) (w.heap.size + 1) 0 (.int .i64 p.mx)) (by omega)
      have o161 := o157.past r156 (grown_set (w3.setCell ⟨w1.heap.size, 3, none⟩ (.slice A148 (p.wait.length + 1) c148)) (w.heap.size + 1) 0 (.int .i64 p.mx))
      have t162 := t158.past (grown_set (w3.setCell ⟨w1.heap.size, 3, none⟩ (.slice A148 (p.wait.length + 1) c148)) (w.heap.size + 1) 0 (.int .i64 p.mx)) (by omega)
      have r163 : At ((w3.setCell ⟨w1.heap.size, 3, none⟩ (.slice A148 (p.wait.length + 1) c148)).setCell ⟨w.heap.size + 1, 0, none⟩ (.int .i64 p.mx)) (w.heap.size + 1) 30 #[.int .i64 p.mx, .slice none 0 0, .slice none 0 0, .slice none 0 0] := by simpa using r156.set 0 (.int .i64 p.mx)
      clear hB154 x155 o157 t158 r156
      have hB164 := below_put hB159 (grown_set ((w3.setCell ⟨w1.heap.size, 3, none⟩ (.slice A148 (p.wait.length + 1) c148)).setCell ⟨w.heap.size + 1, 0, none⟩ (.int .i64 p.mx)) (w.heap.size + 1) 1 (.slice B1 p.idle.length d1)) (by omega) (by have := hB159.size; omega)
      have x165 := x160.past (grown_set ((w3.setCell ⟨w1.heap.size, 3, none⟩ (.slice A148 (p.wait.length + 1) c148)).setCell ⟨w.heap.size + 1, 0, none⟩ (.int .i64 p.mx)) (w.heap.size + 1) 1 (.slice B1 p.idle.length d1)) (by omega)
      have o166 := o161.past r163 (grown_set ((w3.setCell ⟨w1.heap.size, 3, none⟩ (.slice A148 (p.wait.length + 1) c148)).setCell ⟨w.heap.size + 1, 0, none⟩ (.int .i64 p.mx)) (w.heap.size + 1) 1 (.slice B1 p.idle.length d1))
      have t167 := t162.past (grown_set ((w3.setCell ⟨w1.heap.size, 3, none⟩ (.slice A148 (p.wait.length + 1) c148)).setCell ⟨w.heap.size + 1, 0, none⟩ (.int .i64 p.mx)) (w.heap.size + 1) 1 (.slice B1 p.idle.length d1)) (by omega)
      have r168 : At (((w3.setCell ⟨w1.heap.size, 3, none⟩ (.slice A148 (p.wait.length + 1) c148)).setCell ⟨w.heap.size + 1, 0, none⟩ (.int .i64 p.mx)).setCell ⟨w.heap.size + 1, 1, none⟩ (.slice B1 p.idle.length d1)) (w.heap.size + 1) 30 #[.int .i64 p.mx, .slice B1 p.idle.length d1, .slice none 0 0, .slice none 0 0] := by simpa using r163.set 1 (.slice B1 p.idle.length d1)
      clear hB159 x160 o161 t162 r163
      have hB169 := below_put hB164 (grown_set (((w3.setCell ⟨w1.heap.size, 3, none⟩ (.slice A148 (p.wait.length + 1) c148)).setCell ⟨w.heap.size + 1, 0, none⟩ (.int .i64 p.mx)).setCell ⟨w.heap.size + 1, 1, none⟩ (.slice B1 p.idle.length d1)) (w.heap.size + 1) 2 (.slice B2 p.held.length d2)) (by omega) (by have := hB164.size; omega)
      have x170 := x165.past (grown_set (((w3.setCell ⟨w1.heap.size, 3, none⟩ (.slice A148 (p.wait.length + 1) c148)).setCell ⟨w.heap.size + 1, 0, none⟩ (.int .i64 p.mx)).setCell ⟨w.heap.size + 1, 1, none⟩ (.slice B1 p.idle.length d1)) (w.heap.size + 1) 2 (.slice B2 p.held.length d2)) (by omega)
      have o171 := o166.past r168 (grown_set (((w3.setCell ⟨w1.heap.size, 3, none⟩ (.slice A148 (p.wait.length + 1) c148)).setCell ⟨w.heap.size + 1, 0, none⟩ (.int .i64 p.mx)).setCell ⟨w.heap.size + 1, 1, none⟩ (.slice B1 p.idle.length d1)) (w.heap.size + 1) 2 (.slice B2 p.held.length d2))
      have t172 := t167.past (grown_set (((w3.setCell ⟨w1.heap.size, 3, none⟩ (.slice A148 (p.wait.length + 1) c148)).setCell ⟨w.heap.size + 1, 0, none⟩ (.int .i64 p.mx)).setCell ⟨w.heap.size + 1, 1, none⟩ (.slice B1 p.idle.length d1)) (w.heap.size + 1) 2 (.slice B2 p.held.length d2)) (by omega)
      have r173 : At ((((w3.setCell ⟨w1.heap.size, 3, none⟩ (.slice A148 (p.wait.length + 1) c148)).setCell ⟨w.heap.size + 1, 0, none⟩ (.int .i64 p.mx)).setCell ⟨w.heap.size + 1, 1, none⟩ (.slice B1 p.idle.length d1)).setCell ⟨w.heap.size + 1, 2, none⟩ (.slice B2 p.held.length d2)) (w.heap.size + 1) 30 #[.int .i64 p.mx, .slice B1 p.idle.length d1, .slice B2 p.held.length d2, .slice none 0 0] := by simpa using r168.set 2 (.slice B2 p.held.length d2)
      clear hB164 x165 o166 t167 r168
      have hB174 := below_put hB169 (grown_set ((((w3.setCell ⟨w1.heap.size, 3, none⟩ (.slice A148 (p.wait.length + 1) c148)).setCell ⟨w.heap.size + 1, 0, none⟩ (.int .i64 p.mx)).setCell ⟨w.heap.size + 1, 1, none⟩ (.slice B1 p.idle.length d1)).setCell ⟨w.heap.size + 1, 2, none⟩ (.slice B2 p.held.length d2)) (w.heap.size + 1) 3 (.slice A148 (p.wait.length + 1) c148)) (by omega) (by have := hB169.size; omega)
      have x175 := x170.past (grown_set ((((w3.setCell ⟨w1.heap.size, 3, none⟩ (.slice A148 (p.wait.length + 1) c148)).setCell ⟨w.heap.size + 1, 0, none⟩ (.int .i64 p.mx)).setCell ⟨w.heap.size + 1, 1, none⟩ (.slice B1 p.idle.length d1)).setCell ⟨w.heap.size + 1, 2, none⟩ (.slice B2 p.held.length d2)) (w.heap.size + 1) 3 (.slice A148 (p.wait.length + 1) c148)) (by omega)
      have o176 := o171.past r173 (grown_set ((((w3.setCell ⟨w1.heap.size, 3, none⟩ (.slice A148 (p.wait.length + 1) c148)).setCell ⟨w.heap.size + 1, 0, none⟩ (.int .i64 p.mx)).setCell ⟨w.heap.size + 1, 1, none⟩ (.slice B1 p.idle.length d1)).setCell ⟨w.heap.size + 1, 2, none⟩ (.slice B2 p.held.length d2)) (w.heap.size + 1) 3 (.slice A148 (p.wait.length + 1) c148))
      have t177 := t172.past (grown_set ((((w3.setCell ⟨w1.heap.size, 3, none⟩ (.slice A148 (p.wait.length + 1) c148)).setCell ⟨w.heap.size + 1, 0, none⟩ (.int .i64 p.mx)).setCell ⟨w.heap.size + 1, 1, none⟩ (.slice B1 p.idle.length d1)).setCell ⟨w.heap.size + 1, 2, none⟩ (.slice B2 p.held.length d2)) (w.heap.size + 1) 3 (.slice A148 (p.wait.length + 1) c148)) (by omega)
      have r178 : At (((((w3.setCell ⟨w1.heap.size, 3, none⟩ (.slice A148 (p.wait.length + 1) c148)).setCell ⟨w.heap.size + 1, 0, none⟩ (.int .i64 p.mx)).setCell ⟨w.heap.size + 1, 1, none⟩ (.slice B1 p.idle.length d1)).setCell ⟨w.heap.size + 1, 2, none⟩ (.slice B2 p.held.length d2)).setCell ⟨w.heap.size + 1, 3, none⟩ (.slice A148 (p.wait.length + 1) c148)) (w.heap.size + 1) 30 #[.int .i64 p.mx, .slice B1 p.idle.length d1, .slice B2 p.held.length d2, .slice A148 (p.wait.length + 1) c148] := by simpa using r173.set 3 (.slice A148 (p.wait.length + 1) c148)
      clear hB169 x170 o171 t172 r173
      go_wp2
      refine bodyPost_ret (v := .tuple #[.agg #[.int .i64 p.mx, .slice B1 p.idle.length d1, .slice B2 p.held.length d2, .slice A148 (p.wait.length + 1) c148], .int .i64 (-1)]) (by simp [results, Try.results95, go_sem, r178.cell]) rfl ?_
      rw [E1.out, E2.out]
      exact ⟨B1, B2, A148, d1, d2, c148, by simp [List.length_append], (by simpa [List.length_append] using o176.mono (show w.heap.size ≤ w.heap.size + 2 by omega)), hB174⟩

end Go.Proofs.Ytehdbllpiokbnaa

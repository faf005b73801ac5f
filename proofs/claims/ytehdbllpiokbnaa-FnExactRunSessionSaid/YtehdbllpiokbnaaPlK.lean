/-
  What the program's HeldBy answers, and the model's holder and closed. Condition: the lists lie in memory.
-/
import Derived.Test.YtehdbllpiokbnaaPlF
import Derived.Test.YtehdbllpiokbnaaPoolLawMath

namespace Go.Proofs.Ytehdbllpiokbnaa
open Go.RowKit Pol

theorem by_take {l : List Ho} {o : Int} {k : Nat} (hk : k < l.length) : ((l.take (k + 1)).filter fun h => decide (h.o = o)).map Ho.c = ((l.take k).filter fun h => decide (h.o = o)).map Ho.c ++ (if l[k].o = o then [l[k].c] else []) := by
  rw [List.take_succ_eq_append_getElem hk, List.filter_append, List.map_append]
  by_cases h : l[k].o = o <;> simp [h]
set_option maxHeartbeats 4000000 in
theorem iHeldBy_any (p : Pl) (A1 A2 A3 : Option Addr) (c1 c2 c3 : Nat) (o : Int) (w : World) (h : SeesP w w.heap.size A1 A2 A3 p) (h1 : p.idle.length ≤ 2097152) (h2 : p.held.length ≤ 2097152) (h3 : p.wait.length ≤ 2097152) :
    Calls Try.prog 94 #[.agg #[.int .i64 p.mx, .slice A1 p.idle.length c1, .slice A2 p.held.length c2, .slice A3 p.wait.length c3], .int .i64 o] w (fun e w' => ∃ v, e = .returned v ∧ Own w' w.heap.size v (heldBy p o) ∧ Below w.heap.size w w') := by
  obtain ⟨i0, hi0, hz0, hz1, hz2⟩ := info_parts intInfo
  obtain ⟨ih0, hih0, hzh0, hzh1, hzh2⟩ := info_parts holdInfo
  have H1 := hid h1
  have H2 := hid h2
  have H3 := hid h3
  clear h1 h2 h3
  rcases hk : okB p with _ | _
  · skip
    have HN := hid (held_no (o := o) hk)
    have HK := hid hk
    clear hk
    have hB1 := Below.refl w.heap.size w
    have hB2 := hB1.alloc hB1.size (.cells #[.int .i64 p.mx, .slice A1 p.idle.length c1, .slice A2 p.held.length c2, .slice A3 p.wait.length c3] 30)
    clear hB1
    have x3 : At (w.alloc (.cells #[.int .i64 p.mx, .slice A1 p.idle.length c1, .slice A2 p.held.length c2, .slice A3 p.wait.length c3] 30)) (w.heap.size) 30 #[.int .i64 p.mx, .slice A1 p.idle.length c1, .slice A2 p.held.length c2, .slice A3 p.wait.length c3] := At.newAt _ _ (by first | rfl | (simp; done) | (simp; omega))
    go_enter Try.func94, Try.ntmps94
    obtain ⟨p0, p1, p2, p3, pl, pf⟩ := (⟨x3.cell 0, x3.cell 1, x3.cell 2, x3.cell 3, x3.lt, x3.frozen⟩ : _ ∧ _ ∧ _ ∧ _ ∧ _ ∧ _)
    go_wp2_with fail
    with_reducible refine (iValidPool_any p A1 A2 A3 c1 c2 c3 _ (h.on hB2) H1.out H2.out (Nat.le_trans H3.out (by decide))).mono ?_
    rintro e w1 ⟨he, hb1⟩
    rw [HK.out] at he
    subst he
    have sz1 : w.heap.size + 1 ≤ w1.heap.size := Nat.le_trans (by first | exact Nat.le_refl _ | (simp; done) | (simp; omega)) (hb1.size)
    have hB4 := hB2.trans (hb1.mono hB2.size)
    have x5 := x3.below hb1 x3.lt
    clear hB2 x3
    clear p0 p1 p2 p3 pl pf
    obtain ⟨p0, p1, p2, p3, pl, pf⟩ := (⟨x5.cell 0, x5.cell 1, x5.cell 2, x5.cell 3, x5.lt, x5.frozen⟩ : _ ∧ _ ∧ _ ∧ _ ∧ _ ∧ _)
    go_wp2
    go_ret
    exact ⟨_, rfl, by rw [HN.out]; exact Own.none_ _ _, hB4⟩
  · skip
    have HY := hid (held_by (o := o) hk)
    have HK := hid hk
    clear hk
    have hB6 := Below.refl w.heap.size w
    have hB7 := hB6.alloc hB6.size (.cells #[.int .i64 p.mx, .slice A1 p.idle.length c1, .slice A2 p.held.length c2, .slice A3 p.wait.length c3] 30)
    clear hB6
    have x8 : At (w.alloc (.cells #[.int .i64 p.mx, .slice A1 p.idle.length c1, .slice A2 p.held.length c2, .slice A3 p.wait.length c3] 30)) (w.heap.size) 30 #[.int .i64 p.mx, .slice A1 p.idle.length c1, .slice A2 p.held.length c2, .slice A3 p.wait.length c3] := At.newAt _ _ (by first | rfl | (simp; done) | (simp; omega))
    go_enter Try.func94, Try.ntmps94
    obtain ⟨p0, p1, p2, p3, pl, pf⟩ := (⟨x8.cell 0, x8.cell 1, x8.cell 2, x8.cell 3, x8.lt, x8.frozen⟩ : _ ∧ _ ∧ _ ∧ _ ∧ _ ∧ _)
    go_wp2_with fail
    with_reducible refine (iValidPool_any p A1 A2 A3 c1 c2 c3 _ (h.on hB7) H1.out H2.out (Nat.le_trans H3.out (by decide))).mono ?_
    rintro e w1 ⟨he, hb1⟩
    rw [HK.out] at he
    subst he
    have sz1 : w.heap.size + 1 ≤ w1.heap.size := Nat.le_trans (by first | exact Nat.le_refl _ | (simp; done) | (simp; omega)) (hb1.size)
    have hB9 := hB7.trans (hb1.mono hB7.size)
    have x10 := x8.below hb1 x8.lt
    clear hB7 x8
    clear p0 p1 p2 p3 pl pf
    obtain ⟨p0, p1, p2, p3, pl, pf⟩ := (⟨x10.cell 0, x10.cell 1, x10.cell 2, x10.cell 3, x10.lt, x10.frozen⟩ : _ ∧ _ ∧ _ ∧ _ ∧ _ ∧ _)
    have hs := h.held
    go_wp2
    go_loopw [5, 14] (fun v i wr => ∃ k : Nat, k ≤ p.held.length ∧ i = .int .i64 k ∧ Own wr (w.heap.size + 1) v (((p.held.take k).filter fun h => decide (h.o = o)).map Ho.c) ∧ At wr w.heap.size 30 #[.int .i64 p.mx, .slice A1 p.idle.length c1, .slice A2 p.held.length c2, .slice A3 p.wait.length c3] ∧ Below w.heap.size w wr) (fun _ i _ => p.held.length - (intOf i).toNat)
    case atStart => exact ⟨0, Nat.zero_le _, rfl, Own.none_ _ _, x10, hB9⟩
    case round =>
      clear p0 p1 p2 p3 pl pf x10 hB9
      obtain ⟨k, hk, rfl, ho, hx, hb⟩ := hrel
      have hn := H2.out
      obtain ⟨p0, p1, p2, p3, pl⟩ := hx.pool
      by_cases hlt : k < p.held.length
      · skip
        have hi : (k : Int) < (p.held.length : Int) := by omega
        obtain ⟨b, of, rfl, hbl, e0, e1⟩ := (hs.below hb).hold hlt
        have hz := hb.size
        have hbw : b < wr.heap.size := by omega
        have HT := hid (by_take (o := o) hlt)
        have hrl : (((p.held.take k).filter fun h => decide (h.o = o)).map Ho.c).length ≤ 4194304 := by rw [List.length_map]; exact Nat.le_trans (List.length_filter_le _ _) (by simp; omega)
        obtain ⟨y, hy⟩ : ∃ y, y = p.held[k] := ⟨_, rfl⟩
        rw [← hy] at HT e0 e1
        clear hy
        obtain ⟨R, hR⟩ : ∃ R, R = ((p.held.take k).filter fun h => decide (h.o = o)).map Ho.c := ⟨_, rfl⟩
        rw [← hR] at HT ho hrl
        clear hR
        by_cases hoo : y.o = o
        · skip
          have HX := hid (HT.out.trans (by rw [if_pos hoo]))
          have hob : (y.o == o) = true := by simpa using hoo
          clear hoo
          have hlow := fun q hq => (ho.out.lt q hq).1
          go_wp2_with (at_builtin; refine wpList_append_own _ rfl _ _ 22 rfl (w.heap.size + 1) 3 i0 (.int .i64 0) 1 8 Try.underlying22 hi0 hz0 hz1 hz2 rfl (by decide) _ _ _ rfl ((ho.alloc4 _).alloc4 _).out ⟨wr.heap.size + 1, 0, none⟩ 1 1 [.int .i64 y.c] rfl rfl (by simpa using cell_one_new (wr.alloc _) (.int .i64 y.c) 3) ?c2 ?c3 ?c4 ?c5 ?_)
          case c2 => simp [Value.oneCell']
          case c3 => unfold maxLen; omega
          case c4 => omega
          case c5 => simp; omega
          case _ =>
            intro v1 w3 h1 hg1 _
            have ho1 : Own w3 (w.heap.size + 1) v1 (R ++ [y.c]) := by unfold Own; rw [ints_app, List.length_append]; exact h1
            have hx1 := ((hx.alloc (.cells #[.int .i64 y.c, .int .i64 y.o] 91)).alloc (.cells #[.int .i64 y.c] 3)).grown hg1 (fun e => by have := hlow _ e.symm; omega)
            have hb1 := ((hb.alloc hz (.cells #[.int .i64 y.c, .int .i64 y.o] 91)).alloc (by simp; omega) (.cells #[.int .i64 y.c] 3)).grown hg1 (by simp; omega) (fun q hq => by have := hlow q hq; omega)
            clear h1 hg1 hlow ho hx hb p0 p1 p2 p3 pl
            go_wp2
            go_roundw
            case rel => exact ⟨k + 1, by omega, by go_num, by rw [HX.out]; exact ho1, hx1, hb1⟩
            case measure => simp [intOf]; omega
        · skip
          have HX := hid (HT.out.trans (by rw [if_neg hoo, List.append_nil]))
          have hob : (y.o == o) = false := by simpa using hoo
          clear hoo
          go_wp2
          go_roundw
          case rel => exact ⟨k + 1, by omega, by go_num, by rw [HX.out]; exact (ho.alloc4 (.cells #[.int .i64 y.c, .int .i64 y.o] 91)), (hx.alloc (.cells #[.int .i64 y.c, .int .i64 y.o] 91)), (hb.alloc hz (.cells #[.int .i64 y.c, .int .i64 y.o] 91))⟩
          case measure => simp [intOf]; omega
      · skip
        have hi : ¬ (k : Int) < (p.held.length : Int) := by omega
        rw [take_whole hlt] at ho
        go_wp2
        go_ret
        exact ⟨_, rfl, by rw [HY.out]; exact ho.mono (by omega), hb⟩

end Go.Proofs.Ytehdbllpiokbnaa

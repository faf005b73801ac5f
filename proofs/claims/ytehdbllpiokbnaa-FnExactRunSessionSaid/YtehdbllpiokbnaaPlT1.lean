/-
  What the model's ReleaseConn answers: nobody waits. Condition: the lists lie in memory.
-/
import Derived.Test.YtehdbllpiokbnaaPlT0
import Derived.StillTailTactics
import Derived.Deep.RegionHeld3
import Derived.Deep.RegionLaw
import Derived.Deep.CutRange

namespace Go.Proofs.Ytehdbllpiokbnaa
open Go.RowKit Pol

set_option maxRecDepth 16384 in
set_option maxHeartbeats 4000000 in
theorem sReleaseConn_m0 (p : Pl) (A1 A2 A3 : Option Addr) (c1 c2 c3 : Nat) (o : Int) (w : World) (h : SeesP w w.heap.size A1 A2 A3 p) (_hcap : p.wait.length ≤ c3) (hcap2 : p.held.length ≤ c2) (h1 : p.idle.length ≤ 2097152) (h2 : p.held.length ≤ 2097152) (h3 : p.wait.length ≤ 2097152) (hok : Ok p) (hm : o ∈ p.held.map Ho.c) (hI : p.wait.length = 0) :
    Calls Try.prog 87 #[.agg #[.int .i64 p.mx, .slice A1 p.idle.length c1, .slice A2 p.held.length c2, .slice A3 p.wait.length c3], .int .i64 o] w (PAns3 (relR p o) (relN p o) (relB p o) w) := by
  obtain ⟨i0, hi0, hz0, hz1, hz2⟩ := info_parts intInfo
  obtain ⟨ih0, hih0, hzh0, hzh1, hzh2⟩ := info_parts holdInfo
  have H1 := hid h1
  have H2 := hid h2
  have H3 := hid h3
  clear h1 h2 h3
  have HK := hid (okB_iff.2 hok)
  have hb : relB p o = true := relB_iff.2 ⟨hok, hm⟩
  have EB := hid hb
  obtain ⟨k, hk, hp, hwo⟩ := place_split (nodup_held hok) hm
  have hsm := hok.small
  obtain ⟨b2, of2, rfl, hbl2, _, _⟩ := h.held.hold hk
  have HP := hid hp
  have HBB := hid hb
  have hkn : ¬ (k : Int) < 0 := by omega
  clear hp hm hok hb
  have hw0 := List.eq_nil_of_length_eq_zero hI
  obtain ⟨e1, e2, _⟩ := rel_none HBB.out hw0
  have E1 := hid e1
  have E2 := hid (show relR p o = ⟨p.mx, p.idle ++ [o], without p.held o, p.wait⟩ by rw [e2, hw0])
  have hwl : ((p.wait.length : Int) == 0) = true := beq_iff_eq.2 (by omega)
  clear hI hw0 e1 e2
  have hB1 := Below.refl w.heap.size w
  have hB2 := hB1.alloc hB1.size (.cells #[.int .i64 p.mx, .slice A1 p.idle.length c1, .slice (some ⟨b2, of2, none⟩) p.held.length c2, .slice A3 p.wait.length c3] 30)
  clear hB1
  have x3 : At (w.alloc (.cells #[.int .i64 p.mx, .slice A1 p.idle.length c1, .slice (some ⟨b2, of2, none⟩) p.held.length c2, .slice A3 p.wait.length c3] 30)) (w.heap.size) 30 #[.int .i64 p.mx, .slice A1 p.idle.length c1, .slice (some ⟨b2, of2, none⟩) p.held.length c2, .slice A3 p.wait.length c3] := At.newAt _ _ (by first | rfl | (simp; done) | (simp; omega))
  have hB4 := hB2.alloc hB2.size (.cells #[.int .i64 0, .slice none 0 0, .slice none 0 0, .slice none 0 0] 30)
  have x5 := x3.alloc (.cells #[.int .i64 0, .slice none 0 0, .slice none 0 0, .slice none 0 0] 30)
  clear hB2 x3
  have r6 : At ((w.alloc (.cells #[.int .i64 p.mx, .slice A1 p.idle.length c1, .slice (some ⟨b2, of2, none⟩) p.held.length c2, .slice A3 p.wait.length c3] 30)).alloc (.cells #[.int .i64 0, .slice none 0 0, .slice none 0 0, .slice none 0 0] 30)) (w.heap.size + 1) 30 #[.int .i64 0, .slice none 0 0, .slice none 0 0, .slice none 0 0] := At.newAt _ _ (by first | rfl | (simp; done) | (simp; omega))
  go_enter Try.func87, Try.ntmps87
  obtain ⟨p0, p1, p2, p3, pl, pf⟩ := (⟨x5.cell 0, x5.cell 1, x5.cell 2, x5.cell 3, x5.lt, x5.frozen⟩ : _ ∧ _ ∧ _ ∧ _ ∧ _ ∧ _)
  obtain ⟨q0, q1, q2, q3, ql, qf⟩ := (⟨r6.cell 0, r6.cell 1, r6.cell 2, r6.cell 3, r6.lt, r6.frozen⟩ : _ ∧ _ ∧ _ ∧ _ ∧ _ ∧ _)
  go_wp2_with fail
  with_reducible refine (svalidPool_any p A1 (some ⟨b2, of2, none⟩) A3 c1 c2 c3 _ (h.on hB4) H1.out H2.out (Nat.le_trans H3.out (by decide))).mono ?_
  rintro e w1 ⟨he, hb1⟩
  rw [HK.out] at he
  subst he
  have sz1 : w.heap.size + 2 ≤ w1.heap.size := Nat.le_trans (by first | exact Nat.le_refl _ | (simp; done) | (simp; omega)) (hb1.size)
  have hB7 := hB4.trans (hb1.mono hB4.size)
  have x8 := x5.below hb1 x5.lt
  have r9 := r6.below hb1 r6.lt
  clear hB4 x5 r6
  clear p0 p1 p2 p3 pl pf q0 q1 q2 q3 ql qf
  obtain ⟨p0, p1, p2, p3, pl, pf⟩ := (⟨x8.cell 0, x8.cell 1, x8.cell 2, x8.cell 3, x8.lt, x8.frozen⟩ : _ ∧ _ ∧ _ ∧ _ ∧ _ ∧ _)
  obtain ⟨q0, q1, q2, q3, ql, qf⟩ := (⟨r9.cell 0, r9.cell 1, r9.cell 2, r9.cell 3, r9.lt, r9.frozen⟩ : _ ∧ _ ∧ _ ∧ _ ∧ _ ∧ _)
  go_wp2_with fail
  with_reducible refine (sholder_any p A1 (some ⟨b2, of2, none⟩) A3 c1 c2 c3 o _ (h.on hB7).held (Nat.le_trans H2.out (by decide))).mono ?_
  rintro e w2 ⟨he, hb2⟩
  rw [HP.out] at he
  subst he
  have sz2 : w1.heap.size ≤ w2.heap.size := Nat.le_trans (by first | exact Nat.le_refl _ | (simp; done) | (simp; omega)) (hb2.size)
  have hB10 := hB7.trans (hb2.mono hB7.size)
  have x11 := x8.below hb2 x8.lt
  have r12 := r9.below hb2 r9.lt
  clear hB7 x8 r9
  clear p0 p1 p2 p3 pl pf q0 q1 q2 q3 ql qf
  obtain ⟨p0, p1, p2, p3, pl, pf⟩ := (⟨x11.cell 0, x11.cell 1, x11.cell 2, x11.cell 3, x11.lt, x11.frozen⟩ : _ ∧ _ ∧ _ ∧ _ ∧ _ ∧ _)
  obtain ⟨q0, q1, q2, q3, ql, qf⟩ := (⟨r12.cell 0, r12.cell 1, r12.cell 2, r12.cell 3, r12.lt, r12.frozen⟩ : _ ∧ _ ∧ _ ∧ _ ∧ _ ∧ _)
  go_wp2_with fail
  with_reducible refine (sholder_any p A1 (some ⟨b2, of2, none⟩) A3 c1 c2 c3 o _ (h.on hB10).held (Nat.le_trans H2.out (by decide))).mono ?_
  rintro e w3 ⟨he, hb3⟩
  rw [HP.out] at he
  subst he
  have sz3 : w2.heap.size ≤ w3.heap.size := Nat.le_trans (by first | exact Nat.le_refl _ | (simp; done) | (simp; omega)) (hb3.size)
  have hB13 := hB10.trans (hb3.mono hB10.size)
  have x14 := x11.below hb3 x11.lt
  have r15 := r12.below hb3 r12.lt
  clear hB10 x11 r12
  clear p0 p1 p2 p3 pl pf q0 q1 q2 q3 ql qf
  obtain ⟨p0, p1, p2, p3, pl, pf⟩ := (⟨x14.cell 0, x14.cell 1, x14.cell 2, x14.cell 3, x14.lt, x14.frozen⟩ : _ ∧ _ ∧ _ ∧ _ ∧ _ ∧ _)
  obtain ⟨q0, q1, q2, q3, ql, qf⟩ := (⟨r15.cell 0, r15.cell 1, r15.cell 2, r15.cell 3, r15.lt, r15.frozen⟩ : _ ∧ _ ∧ _ ∧ _ ∧ _ ∧ _)
  go_wp2_with fail
  with_reducible refine (scopyPool_any p A1 (some ⟨b2, of2, none⟩) A3 c1 c2 c3 _ (h.on hB13) (Nat.le_trans H1.out (by decide)) (Nat.le_trans H2.out (by decide)) (Nat.le_trans H3.out (by decide))).mono ?_
  rintro e w4 ⟨B1, B2, B3, d1, d2, d3, rfl, ho, hb4⟩
  have sz4 : w3.heap.size ≤ w4.heap.size := Nat.le_trans (by first | exact Nat.le_refl _ | (simp; done) | (simp; omega)) (hb4.size)
  have hB16 := hB13.trans (hb4.mono hB13.size)
  have x17 := x14.below hb4 x14.lt
  have r18 := r15.below hb4 r15.lt
  clear hB13 x14 r15
  clear p0 p1 p2 p3 pl pf q0 q1 q2 q3 ql qf
  have o19 := ho.mono (show w.heap.size + 2 ≤ _ by omega)
  clear ho
  obtain ⟨p0, p1, p2, p3, pl, pf⟩ := (⟨x17.cell 0, x17.cell 1, x17.cell 2, x17.cell 3, x17.lt, x17.frozen⟩ : _ ∧ _ ∧ _ ∧ _ ∧ _ ∧ _)
  obtain ⟨q0, q1, q2, q3, ql, qf⟩ := (⟨r18.cell 0, r18.cell 1, r18.cell 2, r18.cell 3, r18.lt, r18.frozen⟩ : _ ∧ _ ∧ _ ∧ _ ∧ _ ∧ _)
  have hB20 := hB16.alloc hB16.size (.cells #[.int .i64 p.mx, .slice B1 p.idle.length d1, .slice B2 p.held.length d2, .slice B3 p.wait.length d3] 30)
  have x21 := x17.alloc (.cells #[.int .i64 p.mx, .slice B1 p.idle.length d1, .slice B2 p.held.length d2, .slice B3 p.wait.length d3] 30)
  have r22 := r18.alloc (.cells #[.int .i64 p.mx, .slice B1 p.idle.length d1, .slice B2 p.held.length d2, .slice B3 p.wait.length d3] 30)
  have o23 := o19.alloc (.cells #[.int .i64 p.mx, .slice B1 p.idle.length d1, .slice B2 p.held.length d2, .slice B3 p.wait.length d3] 30)
  clear hB16 x17 r18 o19
  have t24 : At (w4.alloc (.cells #[.int .i64 p.mx, .slice B1 p.idle.length d1, .slice B2 p.held.length d2, .slice B3 p.wait.length d3] 30)) (w4.heap.size) 30 #[.int .i64 p.mx, .slice B1 p.idle.length d1, .slice B2 p.held.length d2, .slice B3 p.wait.length d3] := At.newAt _ _ (by first | rfl | (simp; done) | (simp; omega))
  have hk0 : (0 : Int) ≤ (k : Int) := by omega
  have hkl : (k : Int) ≤ (p.held.length : Int) := by omega
  have hkc : (k : Int) ≤ (c2 : Int) := by omega
  have hk6 : k ≤ 6 := by omega
  have hrow : World.ownsRow ((w4.alloc (.cells #[.int .i64 p.mx, .slice B1 p.idle.length d1, .slice B2 p.held.length d2, .slice B3 p.wait.length d3] 30)).alloc (.cells #[] 91)) (w4.alloc (.cells #[.int .i64 p.mx, .slice B1 p.idle.length d1, .slice B2 p.held.length d2, .slice B3 p.wait.length d3] 30)).heap.size 91 2 (.slice (some ⟨w4.heap.size + 1, 0, none⟩) 0 0) 0 [] := by simpa using made_at 91 2 (w := (w4.alloc (.cells #[.int .i64 p.mx, .slice B1 p.idle.length d1, .slice B2 p.held.length d2, .slice B3 p.wait.length d3] 30))) rfl (Nat.le_refl _)
  have hst := ((h.on hB20).alloc (.cells #[] 91)).held.stake hcells_len k
  have HTk := hid (show (p.held.take k).length = k by rw [List.length_take]; omega)
  go_wp2_with (at_builtin; refine wpList_append_own _ rfl _ _ 28 rfl ((w4.alloc (.cells #[.int .i64 p.mx, .slice B1 p.idle.length d1, .slice B2 p.held.length d2, .slice B3 p.wait.length d3] 30)).heap.size) 91 ih0 (.agg #[.int .i64 0, .int .i64 0]) 2 16 Try.underlying28 hih0 hzh0 hzh1 hzh2 rfl (by decide) _ _ _ rfl hrow ⟨b2, of2, none⟩ k c2 (strip hcells (p.held.take k)) rfl ?c1 ?cn ?c2 ?c3 ?c4 ?c5 ?_)
  case c1 => rw [strip_len hcells_len, HTk.out]
  case cn => exact hst.add
  case c2 => exact hcells_one _
  case c3 => unfold maxLen; omega
  case c4 => omega
  case c5 => simp
  case _ =>
    intro va w5 hh hg1 _
    obtain ⟨An5, cn5, rfl, _, _⟩ := own_form hh
    have hb5 : Below (w4.alloc (.cells #[.int .i64 p.mx, .slice B1 p.idle.length d1, .slice B2 p.held.length d2, .slice B3 p.wait.length d3] 30)).heap.size (w4.alloc (.cells #[.int .i64 p.mx, .slice B1 p.idle.length d1, .slice B2 p.held.length d2, .slice B3 p.wait.length d3] 30)) w5 := ((Below.refl _ (w4.alloc (.cells #[.int .i64 p.mx, .slice B1 p.idle.length d1, .slice B2 p.held.length d2, .slice B3 p.wait.length d3] 30))).alloc (Nat.le_refl _) (.cells #[] 91)).grown hg1 (by simp) (fun q hq => by have := own1 q hq; subst this; simp)
    obtain ⟨Y, hY⟩ : ∃ Y, Y = p.held.take k := ⟨_, rfl⟩
    rw [← hY] at hh HTk hwo
    have hn5 : OwnS 91 2 hcells w5 (w4.alloc (.cells #[.int .i64 p.mx, .slice B1 p.idle.length d1, .slice B2 p.held.length d2, .slice B3 p.wait.length d3] 30)).heap.size (.slice An5 Y.length cn5) Y := by unfold OwnS; rw [HTk.out]; simpa using hh
    have sz5 : w4.heap.size + 1 ≤ w5.heap.size := Nat.le_trans (by first | exact Nat.le_refl _ | (simp; done) | (simp; omega)) (hb5.size)
    have o25 := o23.newHeld (by first | omega | (simp; omega) | (simp; done)) hn5 hb5
    have hB26 := hB20.trans (hb5.mono hB20.size)
    have x27 := x21.below hb5 x21.lt
    have r28 := r22.below hb5 r22.lt
    have t29 := t24.below hb5 t24.lt
    clear hB20 x21 r22 t24
    clear p0 p1 p2 p3 pl pf q0 q1 q2 q3 ql qf
    clear o23 hn5 hrow hst hh hg1 hY
    obtain ⟨p0, p1, p2, p3, pl, pf⟩ := (⟨x27.cell 0, x27.cell 1, x27.cell 2, x27.cell 3, x27.lt, x27.frozen⟩ : _ ∧ _ ∧ _ ∧ _ ∧ _ ∧ _)
    obtain ⟨q0, q1, q2, q3, ql, qf⟩ := (⟨r28.cell 0, r28.cell 1, r28.cell 2, r28.cell 3, r28.lt, r28.frozen⟩ : _ ∧ _ ∧ _ ∧ _ ∧ _ ∧ _)
    obtain ⟨t0, t1, t2, t3, tl, tf⟩ := (⟨t29.cell 0, t29.cell 1, t29.cell 2, t29.cell 3, t29.lt, t29.frozen⟩ : _ ∧ _ ∧ _ ∧ _ ∧ _ ∧ _)
    have ne_pq : ¬ w.heap.size = w.heap.size + 1 := by omega
    have ne_qp : ¬ w.heap.size + 1 = w.heap.size := by omega
    have ne_pt : ¬ w.heap.size = w4.heap.size := by omega
    have ne_tp : ¬ w4.heap.size = w.heap.size := by omega
    have ne_qt : ¬ w.heap.size + 1 = w4.heap.size := by omega
    have ne_tq : ¬ w4.heap.size = w.heap.size + 1 := by omega
    have e := HTk.out
    subst e
    clear HTk
    clear p0 p1 p2 p3 pl pf q0 q1 q2 q3 ql qf t0 t1 t2 t3 tl tf ne_pq ne_qp ne_pt ne_tp ne_qt ne_tq
    obtain ⟨K, hK⟩ : ∃ K, K = Y.length + 1 := ⟨_, rfl⟩
    rw [← hK] at hwo
    have hwk : IntKind.i64.wrap ((Y.length : Int) + 1) = (K : Int) := by rw [IntKind.wrap_i64]; omega
    have hK0 : (0 : Int) ≤ (K : Int) := by omega
    have hKl : (K : Int) ≤ (p.held.length : Int) := by omega
    have hKc : (K : Int) ≤ (c2 : Int) := by omega
    have hK7 : K ≤ 7 := by omega
    obtain ⟨D, hD⟩ : ∃ D, D = p.held.drop K := ⟨_, rfl⟩
    have HDl := hid (show D.length = p.held.length - K by rw [hD]; exact List.length_drop)
    rw [← hD] at hwo
    have HSl := hid (fun (w1 : World) (hs : Sees w1 w1.heap.size (some ⟨b2, of2, none⟩) (strip hcells p.held)) => (show Sees w1 w1.heap.size (some ⟨b2, of2 + K * 2, none⟩) (strip hcells D) by rw [hD]; exact hslide hs K))
    have HKY := hid hK
    clear hD hk0 hkl hkc hk6 hkn hK
    have HWO := hid hwo
    clear hwo
    obtain ⟨p0, p1, p2, p3, pl, pf⟩ := (⟨x27.cell 0, x27.cell 1, x27.cell 2, x27.cell 3, x27.lt, x27.frozen⟩ : _ ∧ _ ∧ _ ∧ _ ∧ _ ∧ _)
    obtain ⟨q0, q1, q2, q3, ql, qf⟩ := (⟨r28.cell 0, r28.cell 1, r28.cell 2, r28.cell 3, r28.lt, r28.frozen⟩ : _ ∧ _ ∧ _ ∧ _ ∧ _ ∧ _)
    obtain ⟨t0, t1, t2, t3, tl, tf⟩ := (⟨t29.cell 0, t29.cell 1, t29.cell 2, t29.cell 3, t29.lt, t29.frozen⟩ : _ ∧ _ ∧ _ ∧ _ ∧ _ ∧ _)
    have ne_pq : ¬ w.heap.size = w.heap.size + 1 := by omega
    have ne_qp : ¬ w.heap.size + 1 = w.heap.size := by omega
    have ne_pt : ¬ w.heap.size = w4.heap.size := by omega
    have ne_tp : ¬ w4.heap.size = w.heap.size := by omega
    have ne_qt : ¬ w.heap.size + 1 = w4.heap.size := by omega
    have ne_tq : ¬ w4.heap.size = w.heap.size + 1 := by omega
    have hB30 := below_put hB26 (grown_set w5 (w4.heap.size) 2 (.slice An5 Y.length cn5)) (by omega) (by have := hB26.size; omega)
    have x31 := x27.past (grown_set w5 (w4.heap.size) 2 (.slice An5 Y.length cn5)) (by omega)
    have r32 := r28.past (grown_set w5 (w4.heap.size) 2 (.slice An5 Y.length cn5)) (by omega)
    have o33 := o25.past t29 (grown_set w5 (w4.heap.size) 2 (.slice An5 Y.length cn5))
    have t34 : At (w5.setCell ⟨w4.heap.size, 2, none⟩ (.slice An5 Y.length cn5)) (w4.heap.size) 30 #[.int .i64 p.mx, .slice B1 p.idle.length d1, .slice An5 Y.length cn5, .slice B3 p.wait.length d3] := by simpa using t29.set 2 (.slice An5 Y.length cn5)
    clear hB26 x27 r28 o25 t29
    by_cases hkc : c2 = K
    · skip
      subst hkc
      have HD0 := hid (show D = [] from List.eq_nil_of_length_eq_zero (by rw [HDl.out]; omega))
      rw [HD0.out, List.append_nil] at HWO
      have HXb := hid (show Y.length ≤ 6 by omega)
      go_wp2_with fail
      refine wp_region_still_tail 7 (by kernel_rfl) (by kernel_rfl) ?_
      simp only [List.take_succ_cons, List.take_zero, List.drop_succ_cons, List.drop_zero]
      change wpStill _ _ (World.drew (w5.setCell ⟨w4.heap.size, 2, none⟩ (.slice An5 Y.length cn5))) (fun a' => wpList _ _ _ _ a' (World.drew (w5.setCell ⟨w4.heap.size, 2, none⟩ (.slice An5 Y.length cn5)))) _ _
      have sz6 : w5.heap.size ≤ (World.drew (w5.setCell ⟨w4.heap.size, 2, none⟩ (.slice An5 Y.length cn5))).heap.size := by first | exact Nat.le_refl _ | (simp; done)
      have hB35 := hB30.drew
      clear hB30
      have x36 := x31.drew
      clear x31
      have r37 := r32.drew
      clear r32
      have t38 := t34.drew
      clear t34
      have o39 := o33.drew
      clear o33
      obtain ⟨w6, hwz⟩ : ∃ w6, w6 = World.drew (w5.setCell ⟨w4.heap.size, 2, none⟩ (.slice An5 Y.length cn5)) := ⟨_, rfl⟩
      rw [← hwz] at sz6 hB35 x36 r37 t38 o39 ⊢
      clear hwz
      clear p0 p1 p2 p3 pl pf q0 q1 q2 q3 ql qf t0 t1 t2 t3 tl tf ne_pq ne_qp ne_pt ne_tp ne_qt ne_tq
      obtain ⟨p0, p1, p2, p3, pl, pf⟩ := (⟨x36.cell 0, x36.cell 1, x36.cell 2, x36.cell 3, x36.lt, x36.frozen⟩ : _ ∧ _ ∧ _ ∧ _ ∧ _ ∧ _)
      obtain ⟨q0, q1, q2, q3, ql, qf⟩ := (⟨r37.cell 0, r37.cell 1, r37.cell 2, r37.cell 3, r37.lt, r37.frozen⟩ : _ ∧ _ ∧ _ ∧ _ ∧ _ ∧ _)
      obtain ⟨t0, t1, t2, t3, tl, tf⟩ := (⟨t38.cell 0, t38.cell 1, t38.cell 2, t38.cell 3, t38.lt, t38.frozen⟩ : _ ∧ _ ∧ _ ∧ _ ∧ _ ∧ _)
      have ne_pq : ¬ w.heap.size = w.heap.size + 1 := by omega
      have ne_qp : ¬ w.heap.size + 1 = w.heap.size := by omega
      have ne_pt : ¬ w.heap.size = w4.heap.size := by omega
      have ne_tp : ¬ w4.heap.size = w.heap.size := by omega
      have ne_qt : ¬ w.heap.size + 1 = w4.heap.size := by omega
      have ne_tq : ¬ w4.heap.size = w.heap.size + 1 := by omega
      repeat still_step
      refine wpStill_nil ?_
      have hown := o39.2.1.out
      have hlow := o39.low.2.1
      go_wp2_with (at_builtin; refine wpList_append_own_at _ rfl _ _ 28 rfl (w.heap.size + 2) 91 ih0 (.agg #[.int .i64 0, .int .i64 0]) 2 16 Try.underlying28 hih0 hzh0 hzh1 hzh2 rfl (by decide) _ _ _ rfl hown ⟨b2, of2, none⟩ 0 0 ([]) (by rfl) ?e1 ?en ?e2 ?e3 ?e4 ?e5 ?_)
      case e3 => unfold maxLen; omega
      case e4 => omega
      case e5 => first | omega | (simp; omega) | (simp; done)
      case _ =>
        intro va w7 hd hgd _ hatd
        obtain ⟨Ad, cd, rfl, _, _⟩ := own_form hd
        have sz7 : w6.heap.size ≤ w7.heap.size := Nat.le_trans (by first | exact Nat.le_refl _ | (simp; done) | (simp; omega)) (hgd.size)
        have x40 := x36.beside hown (by decide) hgd
        clear x36
        have r41 := r37.beside hown (by decide) hgd
        clear r37
        have t42 := t38.beside hown (by decide) hgd
        clear t38
        have hB43 := hB35.grown hgd hB35.size (fun q hq => Nat.le_trans (by omega) (hlow q hq))
        clear hB35
        have o44 := o39.moreHeld rfl rfl hd hgd hatd
        clear o39 hd hgd hatd hown hlow
        clear p0 p1 p2 p3 pl pf q0 q1 q2 q3 ql qf t0 t1 t2 t3 tl tf ne_pq ne_qp ne_pt ne_tp ne_qt ne_tq
        obtain ⟨p0, p1, p2, p3, pl, pf⟩ := (⟨x40.cell 0, x40.cell 1, x40.cell 2, x40.cell 3, x40.lt, x40.frozen⟩ : _ ∧ _ ∧ _ ∧ _ ∧ _ ∧ _)
        obtain ⟨q0, q1, q2, q3, ql, qf⟩ := (⟨r41.cell 0, r41.cell 1, r41.cell 2, r41.cell 3, r41.lt, r41.frozen⟩ : _ ∧ _ ∧ _ ∧ _ ∧ _ ∧ _)
        obtain ⟨t0, t1, t2, t3, tl, tf⟩ := (⟨t42.cell 0, t42.cell 1, t42.cell 2, t42.cell 3, t42.lt, t42.frozen⟩ : _ ∧ _ ∧ _ ∧ _ ∧ _ ∧ _)
        have ne_pq : ¬ w.heap.size = w.heap.size + 1 := by omega
        have ne_qp : ¬ w.heap.size + 1 = w.heap.size := by omega
        have ne_pt : ¬ w.heap.size = w4.heap.size := by omega
        have ne_tp : ¬ w4.heap.size = w.heap.size := by omega
        have ne_qt : ¬ w.heap.size + 1 = w4.heap.size := by omega
        have ne_tq : ¬ w4.heap.size = w.heap.size + 1 := by omega
        have hB45 := below_put hB43 (grown_set w7 (w4.heap.size) 2 (.slice Ad Y.length cd)) (by omega) (by have := hB43.size; omega)
        have x46 := x40.past (grown_set w7 (w4.heap.size) 2 (.slice Ad Y.length cd)) (by omega)
        have r47 := r41.past (grown_set w7 (w4.heap.size) 2 (.slice Ad Y.length cd)) (by omega)
        have o48 := o44.past t42 (grown_set w7 (w4.heap.size) 2 (.slice Ad Y.length cd))
        have t49 : At (w7.setCell ⟨w4.heap.size, 2, none⟩ (.slice Ad Y.length cd)) (w4.heap.size) 30 #[.int .i64 p.mx, .slice B1 p.idle.length d1, .slice Ad Y.length cd, .slice B3 p.wait.length d3] := by simpa using t42.set 2 (.slice Ad Y.length cd)
        clear hB43 x40 r41 o44 t42
        have hB50 := hB45.alloc hB45.size (.cells #[.int .i64 o] 3)
        have x51 := x46.alloc (.cells #[.int .i64 o] 3)
        have r52 := r47.alloc (.cells #[.int .i64 o] 3)
        have t53 := t49.alloc (.cells #[.int .i64 o] 3)
        have o54 := o48.alloc (.cells #[.int .i64 o] 3)
        clear hB45 x46 r47 t49 o48
        have hown := o54.1.out
        have hlow := o54.low.1
        go_wp2_with (at_builtin; refine wpList_append_own_at _ rfl _ _ 22 rfl (w.heap.size + 2) 3 i0 (.int .i64 0) 1 8 Try.underlying22 hi0 hz0 hz1 hz2 rfl (by decide) _ _ _ rfl hown ⟨w7.heap.size, 0, none⟩ 1 1 [.int .i64 o] rfl rfl (by simpa using cell_one_new (w7.setCell ⟨w4.heap.size, 2, none⟩ (.slice Ad Y.length cd)) (.int .i64 o) 3) ?c2 ?c3 ?c4 ?c5 ?_)
        case c2 => simp [Value.oneCell']
        case c3 => have := H1.out; unfold maxLen; omega
        case c4 => have := H1.out; omega
        case c5 => first | omega | (simp; omega) | (simp; done)
        case _ =>
          intro va w8 h1 hg1 _ hat
          obtain ⟨A55, c55, rfl, _, _⟩ := own_form h1
          have sz8 : w7.heap.size + 1 ≤ w8.heap.size := Nat.le_trans (by first | exact Nat.le_refl _ | (simp; done) | (simp; omega)) (hg1.size)
          have hB56 := hB50.grown hg1 hB50.size (fun q hq => Nat.le_trans (by omega) (hlow q hq))
          have x57 := x51.beside hown (by decide) hg1
          have r58 := r52.beside hown (by decide) hg1
          have t59 := t53.beside hown (by decide) hg1
          have o60 := o54.addIdle (x := o) h1 hg1 (by simpa using hat)
          clear h1 hg1 hat hown hlow hB50 x51 r52 t53 o54
          clear p0 p1 p2 p3 pl pf q0 q1 q2 q3 ql qf t0 t1 t2 t3 tl tf ne_pq ne_qp ne_pt ne_tp ne_qt ne_tq
          obtain ⟨p0, p1, p2, p3, pl, pf⟩ := (⟨x57.cell 0, x57.cell 1, x57.cell 2, x57.cell 3, x57.lt, x57.frozen⟩ : _ ∧ _ ∧ _ ∧ _ ∧ _ ∧ _)
          obtain ⟨q0, q1, q2, q3, ql, qf⟩ := (⟨r58.cell 0, r58.cell 1, r58.cell 2, r58.cell 3, r58.lt, r58.frozen⟩ : _ ∧ _ ∧ _ ∧ _ ∧ _ ∧ _)
          obtain ⟨t0, t1, t2, t3, tl, tf⟩ := (⟨t59.cell 0, t59.cell 1, t59.cell 2, t59.cell 3, t59.lt, t59.frozen⟩ : _ ∧ _ ∧ _ ∧ _ ∧ _ ∧ _)
          have ne_pq : ¬ w.heap.size = w.heap.size + 1 := by omega
          have ne_qp : ¬ w.heap.size + 1 = w.heap.size := by omega
          have ne_pt : ¬ w.heap.size = w4.heap.size := by omega
          have ne_tp : ¬ w4.heap.size = w.heap.size := by omega
          have ne_qt : ¬ w.heap.size + 1 = w4.heap.size := by omega
          have ne_tq : ¬ w4.heap.size = w.heap.size + 1 := by omega
          have hB61 := below_put hB56 (grown_set w8 (w4.heap.size) 1 (.slice A55 (p.idle.length + 1) c55)) (by omega) (by have := hB56.size; omega)
          have x62 := x57.past (grown_set w8 (w4.heap.size) 1 (.slice A55 (p.idle.length + 1) c55)) (by omega)
          have r63 := r58.past (grown_set w8 (w4.heap.size) 1 (.slice A55 (p.idle.length + 1) c55)) (by omega)
          have o64 := o60.past t59 (grown_set w8 (w4.heap.size) 1 (.slice A55 (p.idle.length + 1) c55))
          have t65 : At (w8.setCell ⟨w4.heap.size, 1, none⟩ (.slice A55 (p.idle.length + 1) c55)) (w4.heap.size) 30 #[.int .i64 p.mx, .slice A55 (p.idle.length + 1) c55, .slice Ad Y.length cd, .slice B3 p.wait.length d3] := by simpa using t59.set 1 (.slice A55 (p.idle.length + 1) c55)
          clear hB56 x57 r58 o60 t59
          have hB66 := below_put hB61 (grown_set (w8.setCell ⟨w4.heap.size, 1, none⟩ (.slice A55 (p.idle.length + 1) c55)) (w.heap.size + 1) 0 (.int .i64 p.mx)) (by omega) (by have := hB61.size; omega)
          have x67 := x62.past (grown_set (w8.setCell ⟨w4.heap.size, 1, none⟩ (.slice A55 (p.idle.length + 1) c55)) (w.heap.size + 1) 0 (.int .i64 p.mx)) (by omega)
          have t68 := t65.past (grown_set (w8.setCell ⟨w4.heap.size, 1, none⟩ (.slice A55 (p.idle.length + 1) c55)) (w.heap.size + 1) 0 (.int .i64 p.mx)) (by omega)
          have o69 := o64.past r63 (grown_set (w8.setCell ⟨w4.heap.size, 1, none⟩ (.slice A55 (p.idle.length + 1) c55)) (w.heap.size + 1) 0 (.int .i64 p.mx))
          have r70 : At ((w8.setCell ⟨w4.heap.size, 1, none⟩ (.slice A55 (p.idle.length + 1) c55)).setCell ⟨w.heap.size + 1, 0, none⟩ (.int .i64 p.mx)) (w.heap.size + 1) 30 #[.int .i64 p.mx, .slice none 0 0, .slice none 0 0, .slice none 0 0] := by simpa using r63.set 0 (.int .i64 p.mx)
          clear hB61 x62 t65 o64 r63
          have hB71 := below_put hB66 (grown_set ((w8.setCell ⟨w4.heap.size, 1, none⟩ (.slice A55 (p.idle.length + 1) c55)).setCell ⟨w.heap.size + 1, 0, none⟩ (.int .i64 p.mx)) (w.heap.size + 1) 1 (.slice A55 (p.idle.length + 1) c55)) (by omega) (by have := hB66.size; omega)
          have x72 := x67.past (grown_set ((w8.setCell ⟨w4.heap.size, 1, none⟩ (.slice A55 (p.idle.length + 1) c55)).setCell ⟨w.heap.size + 1, 0, none⟩ (.int .i64 p.mx)) (w.heap.size + 1) 1 (.slice A55 (p.idle.length + 1) c55)) (by omega)
          have t73 := t68.past (grown_set ((w8.setCell ⟨w4.heap.size, 1, none⟩ (.slice A55 (p.idle.length + 1) c55)).setCell ⟨w.heap.size + 1, 0, none⟩ (.int .i64 p.mx)) (w.heap.size + 1) 1 (.slice A55 (p.idle.length + 1) c55)) (by omega)
          have o74 := o69.past r70 (grown_set ((w8.setCell ⟨w4.heap.size, 1, none⟩ (.slice A55 (p.idle.length + 1) c55)).setCell ⟨w.heap.size + 1, 0, none⟩ (.int .i64 p.mx)) (w.heap.size + 1) 1 (.slice A55 (p.idle.length + 1) c55))
          have r75 : At (((w8.setCell ⟨w4.heap.size, 1, none⟩ (.slice A55 (p.idle.length + 1) c55)).setCell ⟨w.heap.size + 1, 0, none⟩ (.int .i64 p.mx)).setCell ⟨w.heap.size + 1, 1, none⟩ (.slice A55 (p.idle.length + 1) c55)) (w.heap.size + 1) 30 #[.int .i64 p.mx, .slice A55 (p.idle.length + 1) c55, .slice none 0 0, .slice none 0 0] := by simpa using r70.set 1 (.slice A55 (p.idle.length + 1) c55)
          clear hB66 x67 t68 o69 r70
          have hB76 := below_put hB71 (grown_set (((w8.setCell ⟨w4.heap.size, 1, none⟩ (.slice A55 (p.idle.length + 1) c55)).setCell ⟨w.heap.size + 1, 0, none⟩ (.int .i64 p.mx)).setCell ⟨w.heap.size + 1, 1, none⟩ (.slice A55 (p.idle.length + 1) c55)) (w.heap.size + 1) 2 (.slice Ad Y.length cd)) (by omega) (by have := hB71.size; omega)
          have x77 := x72.past (grown_set (((w8.setCell ⟨w4.heap.size, 1, none⟩ (.slice A55 (p.idle.length + 1) c55)).setCell ⟨w.heap.size + 1, 0, none⟩ (.int .i64 p.mx)).setCell ⟨w.heap.size + 1, 1, none⟩ (.slice A55 (p.idle.length + 1) c55)) (w.heap.size + 1) 2 (.slice Ad Y.length cd)) (by omega)
          have t78 := t73.past (grown_set (((w8.setCell ⟨w4.heap.size, 1, none⟩ (.slice A55 (p.idle.length + 1) c55)).setCell ⟨w.heap.size + 1, 0, none⟩ (.int .i64 p.mx)).setCell ⟨w.heap.size + 1, 1, none⟩ (.slice A55 (p.idle.length + 1) c55)) (w.heap.size + 1) 2 (.slice Ad Y.length cd)) (by omega)
          have o79 := o74.past r75 (grown_set (((w8.setCell ⟨w4.heap.size, 1, none⟩ (.slice A55 (p.idle.length + 1) c55)).setCell ⟨w.heap.size + 1, 0, none⟩ (.int .i64 p.mx)).setCell ⟨w.heap.size + 1, 1, none⟩ (.slice A55 (p.idle.length + 1) c55)) (w.heap.size + 1) 2 (.slice Ad Y.length cd))
          have r80 : At ((((w8.setCell ⟨w4.heap.size, 1, none⟩ (.slice A55 (p.idle.length + 1) c55)).setCell ⟨w.heap.size + 1, 0, none⟩ (.int .i64 p.mx)).setCell ⟨w.heap.size + 1, 1, none⟩ (.slice A55 (p.idle.length + 1) c55)).setCell ⟨w.heap.size + 1, 2, none⟩ (.slice Ad Y.length cd)) (w.heap.size + 1) 30 #[.int .i64 p.mx, .slice A55 (p.idle.length + 1) c55, .slice Ad Y.length cd, .slice none 0 0] := by simpa using r75.set 2 (.slice Ad Y.length cd)
          clear hB71 x72 t73 o74 r75
          have hB81 := below_put hB76 (grown_set ((((w8.setCell ⟨w4.heap.size, 1, none⟩ (.slice A55 (p.idle.length + 1) c55)).setCell ⟨w.heap.size + 1, 0, none⟩ (.int .i64 p.mx)).setCell ⟨w.heap.size + 1, 1, none⟩ (.slice A55 (p.idle.length + 1) c55)).setCell ⟨w.heap.size + 1, 2, none⟩ (.slice Ad Y.length cd)) (w.heap.size + 1) 3 (.slice B3 p.wait.length d3)) (by omega) (by have := hB76.size; omega)
          have x82 := x77.past (grown_set ((((w8.setCell ⟨w4.heap.size, 1, none⟩ (.slice A55 (p.idle.length + 1) c55)).setCell ⟨w.heap.size + 1, 0, none⟩ (.int .i64 p.mx)).setCell ⟨w.heap.size + 1, 1, none⟩ (.slice A55 (p.idle.length + 1) c55)).setCell ⟨w.heap.size + 1, 2, none⟩ (.slice Ad Y.length cd)) (w.heap.size + 1) 3 (.slice B3 p.wait.length d3)) (by omega)
          have t83 := t78.past (grown_set ((((w8.setCell ⟨w4.heap.size, 1, none⟩ (.slice A55 (p.idle.length + 1) c55)).setCell ⟨w.heap.size + 1, 0, none⟩ (.int .i64 p.mx)).setCell ⟨w.heap.size + 1, 1, none⟩ (.slice A55 (p.idle.length + 1) c55)).setCell ⟨w.heap.size + 1, 2, none⟩ (.slice Ad Y.length cd)) (w.heap.size + 1) 3 (.slice B3 p.wait.length d3)) (by omega)
          have o84 := o79.past r80 (grown_set ((((w8.setCell ⟨w4.heap.size, 1, none⟩ (.slice A55 (p.idle.length + 1) c55)).setCell ⟨w.heap.size + 1, 0, none⟩ (.int .i64 p.mx)).setCell ⟨w.heap.size + 1, 1, none⟩ (.slice A55 (p.idle.length + 1) c55)).setCell ⟨w.heap.size + 1, 2, none⟩ (.slice Ad Y.length cd)) (w.heap.size + 1) 3 (.slice B3 p.wait.length d3))
          have r85 : At (((((w8.setCell ⟨w4.heap.size, 1, none⟩ (.slice A55 (p.idle.length + 1) c55)).setCell ⟨w.heap.size + 1, 0, none⟩ (.int .i64 p.mx)).setCell ⟨w.heap.size + 1, 1, none⟩ (.slice A55 (p.idle.length + 1) c55)).setCell ⟨w.heap.size + 1, 2, none⟩ (.slice Ad Y.length cd)).setCell ⟨w.heap.size + 1, 3, none⟩ (.slice B3 p.wait.length d3)) (w.heap.size + 1) 30 #[.int .i64 p.mx, .slice A55 (p.idle.length + 1) c55, .slice Ad Y.length cd, .slice B3 p.wait.length d3] := by simpa using r80.set 3 (.slice B3 p.wait.length d3)
          clear hB76 x77 t78 o79 r80
          go_wp2
          refine bodyPost_ret (v := .tuple #[.agg #[.int .i64 p.mx, .slice A55 (p.idle.length + 1) c55, .slice Ad Y.length cd, .slice B3 p.wait.length d3], .int .i64 (-1), .bool true]) (by simp [results, Try.results87, go_sem, r85.cell]) rfl ?_
          rw [E1.out, E2.out, EB.out, HWO.out]
          exact ⟨A55, Ad, B3, c55, cd, d3, by simp [List.length_append], (by simpa [List.length_append] using o84.mono (show w.heap.size ≤ w.heap.size + 2 by omega)), hB81⟩
    · skip
      have hkc2 : ¬ K = c2 := fun e => hkc e.symm
      obtain ⟨X, hX⟩ : ∃ X, X = Y ++ D := ⟨_, rfl⟩
      rw [← hX] at HWO
      have HXl := hid (show X.length = Y.length + (p.held.length - K) by rw [hX, List.length_append, HDl.out])
      have HXs := hid (show strip hcells Y ++ strip hcells D = strip hcells X by rw [hX, strip_app])
      have HXb := hid (show X.length ≤ 6 by rw [HXl.out]; have := HKY.out; omega)
      clear hX
      go_wp2_with fail
      refine wp_region_still_tail 7 (by kernel_rfl) (by kernel_rfl) ?_
      simp only [List.take_succ_cons, List.take_zero, List.drop_succ_cons, List.drop_zero]
      change wpStill _ _ (World.drew (w5.setCell ⟨w4.heap.size, 2, none⟩ (.slice An5 Y.length cn5))) (fun a' => wpList _ _ _ _ a' (World.drew (w5.setCell ⟨w4.heap.size, 2, none⟩ (.slice An5 Y.length cn5)))) _ _
      have sz6 : w5.heap.size ≤ (World.drew (w5.setCell ⟨w4.heap.size, 2, none⟩ (.slice An5 Y.length cn5))).heap.size := by first | exact Nat.le_refl _ | (simp; done)
      have hB86 := hB30.drew
      clear hB30
      have x87 := x31.drew
      clear x31
      have r88 := r32.drew
      clear r32
      have t89 := t34.drew
      clear t34
      have o90 := o33.drew
      clear o33
      obtain ⟨w6, hwz⟩ : ∃ w6, w6 = World.drew (w5.setCell ⟨w4.heap.size, 2, none⟩ (.slice An5 Y.length cn5)) := ⟨_, rfl⟩
      rw [← hwz] at sz6 hB86 x87 r88 t89 o90 ⊢
      clear hwz
      clear p0 p1 p2 p3 pl pf q0 q1 q2 q3 ql qf t0 t1 t2 t3 tl tf ne_pq ne_qp ne_pt ne_tp ne_qt ne_tq
      obtain ⟨p0, p1, p2, p3, pl, pf⟩ := (⟨x87.cell 0, x87.cell 1, x87.cell 2, x87.cell 3, x87.lt, x87.frozen⟩ : _ ∧ _ ∧ _ ∧ _ ∧ _ ∧ _)
      obtain ⟨q0, q1, q2, q3, ql, qf⟩ := (⟨r88.cell 0, r88.cell 1, r88.cell 2, r88.cell 3, r88.lt, r88.frozen⟩ : _ ∧ _ ∧ _ ∧ _ ∧ _ ∧ _)
      obtain ⟨t0, t1, t2, t3, tl, tf⟩ := (⟨t89.cell 0, t89.cell 1, t89.cell 2, t89.cell 3, t89.lt, t89.frozen⟩ : _ ∧ _ ∧ _ ∧ _ ∧ _ ∧ _)
      have ne_pq : ¬ w.heap.size = w.heap.size + 1 := by omega
      have ne_qp : ¬ w.heap.size + 1 = w.heap.size := by omega
      have ne_pt : ¬ w.heap.size = w4.heap.size := by omega
      have ne_tp : ¬ w4.heap.size = w.heap.size := by omega
      have ne_qt : ¬ w.heap.size + 1 = w4.heap.size := by omega
      have ne_tq : ¬ w4.heap.size = w.heap.size + 1 := by omega
      repeat still_step
      refine wpStill_nil ?_
      have hown := o90.2.1.out
      have hlow := o90.low.2.1
      have hsd := HSl.out _ (h.on hB86).held
      go_wp2_with (at_builtin; refine wpList_append_own_at _ rfl _ _ 28 rfl (w.heap.size + 2) 91 ih0 (.agg #[.int .i64 0, .int .i64 0]) 2 16 Try.underlying28 hih0 hzh0 hzh1 hzh2 rfl (by decide) _ _ _ rfl hown ⟨b2, of2 + K * 2, none⟩ (p.held.length - K) (c2 - K) (strip hcells D) (by rfl) ?f1 ?fn ?f2 ?f3 ?f4 ?f5 ?_)
      case f1 => rw [strip_len hcells_len, HDl.out]
      case fn => intro j u hu; have := hsd.add j u hu; rwa [add_plain] at this
      case f2 => exact hcells_one _
      case f3 => unfold maxLen; omega
      case f4 => omega
      case f5 => first | omega | (simp; omega) | (simp; done)
      case _ =>
        intro va w7 hd hgd _ hatd
        obtain ⟨Ad, cd, rfl, _, _⟩ := own_form hd
        have sz7 : w6.heap.size ≤ w7.heap.size := Nat.le_trans (by first | exact Nat.le_refl _ | (simp; done) | (simp; omega)) (hgd.size)
        have x91 := x87.beside hown (by decide) hgd
        clear x87
        have r92 := r88.beside hown (by decide) hgd
        clear r88
        have t93 := t89.beside hown (by decide) hgd
        clear t89
        have hB94 := hB86.grown hgd hB86.size (fun q hq => Nat.le_trans (by omega) (hlow q hq))
        clear hB86
        have o95 := o90.moreHeld HXl.out HXs.out hd hgd hatd
        clear o90 hd hgd hatd hown hlow hsd
        clear p0 p1 p2 p3 pl pf q0 q1 q2 q3 ql qf t0 t1 t2 t3 tl tf ne_pq ne_qp ne_pt ne_tp ne_qt ne_tq
        obtain ⟨p0, p1, p2, p3, pl, pf⟩ := (⟨x91.cell 0, x91.cell 1, x91.cell 2, x91.cell 3, x91.lt, x91.frozen⟩ : _ ∧ _ ∧ _ ∧ _ ∧ _ ∧ _)
        obtain ⟨q0, q1, q2, q3, ql, qf⟩ := (⟨r92.cell 0, r92.cell 1, r92.cell 2, r92.cell 3, r92.lt, r92.frozen⟩ : _ ∧ _ ∧ _ ∧ _ ∧ _ ∧ _)
        obtain ⟨t0, t1, t2, t3, tl, tf⟩ := (⟨t93.cell 0, t93.cell 1, t93.cell 2, t93.cell 3, t93.lt, t93.frozen⟩ : _ ∧ _ ∧ _ ∧ _ ∧ _ ∧ _)
        have ne_pq : ¬ w.heap.size = w.heap.size + 1 := by omega
        have ne_qp : ¬ w.heap.size + 1 = w.heap.size := by omega
        have ne_pt : ¬ w.heap.size = w4.heap.size := by omega
        have ne_tp : ¬ w4.heap.size = w.heap.size := by omega
        have ne_qt : ¬ w.heap.size + 1 = w4.heap.size := by omega
        have ne_tq : ¬ w4.heap.size = w.heap.size + 1 := by omega
        have hB96 := below_put hB94 (grown_set w7 (w4.heap.size) 2 (.slice Ad (Y.length + (p.held.length - K)) cd)) (by omega) (by have := hB94.size; omega)
        have x97 := x91.past (grown_set w7 (w4.heap.size) 2 (.slice Ad (Y.length + (p.held.length - K)) cd)) (by omega)
        have r98 := r92.past (grown_set w7 (w4.heap.size) 2 (.slice Ad (Y.length + (p.held.length - K)) cd)) (by omega)
        have o99 := o95.past t93 (grown_set w7 (w4.heap.size) 2 (.slice Ad (Y.length + (p.held.length - K)) cd))
        have t100 : At (w7.setCell ⟨w4.heap.size, 2, none⟩ (.slice Ad (Y.length + (p.held.length - K)) cd)) (w4.heap.size) 30 #[.int .i64 p.mx, .slice B1 p.idle.length d1, .slice Ad (Y.length + (p.held.length - K)) cd, .slice B3 p.wait.length d3] := by simpa using t93.set 2 (.slice Ad (Y.length + (p.held.length - K)) cd)
        clear hB94 x91 r92 o95 t93
        rw [← HXl.out] at hB96 x97 r98 t100 o99 ⊢
        have hB101 := hB96.alloc hB96.size (.cells #[.int .i64 o] 3)
        have x102 := x97.alloc (.cells #[.int .i64 o] 3)
        have r103 := r98.alloc (.cells #[.int .i64 o] 3)
        have t104 := t100.alloc (.cells #[.int .i64 o] 3)
        have o105 := o99.alloc (.cells #[.int .i64 o] 3)
        clear hB96 x97 r98 t100 o99
        have hown := o105.1.out
        have hlow := o105.low.1
        go_wp2_with (at_builtin; refine wpList_append_own_at _ rfl _ _ 22 rfl (w.heap.size + 2) 3 i0 (.int .i64 0) 1 8 Try.underlying22 hi0 hz0 hz1 hz2 rfl (by decide) _ _ _ rfl hown ⟨w7.heap.size, 0, none⟩ 1 1 [.int .i64 o] rfl rfl (by simpa using cell_one_new (w7.setCell ⟨w4.heap.size, 2, none⟩ (.slice Ad X.length cd)) (.int .i64 o) 3) ?c2 ?c3 ?c4 ?c5 ?_)
        case c2 => simp [Value.oneCell']
        case c3 => have := H1.out; unfold maxLen; omega
        case c4 => have := H1.out; omega
        case c5 => first | omega | (simp; omega) | (simp; done)
        case _ =>
          intro va w8 h1 hg1 _ hat
          obtain ⟨A106, c106, rfl, _, _⟩ := own_form h1
          have sz8 : w7.heap.size + 1 ≤ w8.heap.size := Nat.le_trans (by first | exact Nat.le_refl _ | (simp; done) | (simp; omega)) (hg1.size)
          have hB107 := hB101.grown hg1 hB101.size (fun q hq => Nat.le_trans (by omega) (hlow q hq))
          have x108 := x102.beside hown (by decide) hg1
          have r109 := r103.beside hown (by decide) hg1
          have t110 := t104.beside hown (by decide) hg1
          have o111 := o105.addIdle (x := o) h1 hg1 (by simpa using hat)
          clear h1 hg1 hat hown hlow hB101 x102 r103 t104 o105
          clear p0 p1 p2 p3 pl pf q0 q1 q2 q3 ql qf t0 t1 t2 t3 tl tf ne_pq ne_qp ne_pt ne_tp ne_qt ne_tq
          obtain ⟨p0, p1, p2, p3, pl, pf⟩ := (⟨x108.cell 0, x108.cell 1, x108.cell 2, x108.cell 3, x108.lt, x108.frozen⟩ : _ ∧ _ ∧ _ ∧ _ ∧ _ ∧ _)
          obtain ⟨q0, q1, q2, q3, ql, qf⟩ := (⟨r109.cell 0, r109.cell 1, r109.cell 2, r109.cell 3, r109.lt, r109.frozen⟩ : _ ∧ _ ∧ _ ∧ _ ∧ _ ∧ _)
          obtain ⟨t0, t1, t2, t3, tl, tf⟩ := (⟨t110.cell 0, t110.cell 1, t110.cell 2, t110.cell 3, t110.lt, t110.frozen⟩ : _ ∧ _ ∧ _ ∧ _ ∧ _ ∧ _)
          have ne_pq : ¬ w.heap.size = w.heap.size + 1 := by omega
          have ne_qp : ¬ w.heap.size + 1 = w.heap.size := by omega
          have ne_pt : ¬ w.heap.size = w4.heap.size := by omega
          have ne_tp : ¬ w4.heap.size = w.heap.size := by omega
          have ne_qt : ¬ w.heap.size + 1 = w4.heap.size := by omega
          have ne_tq : ¬ w4.heap.size = w.heap.size + 1 := by omega
          have hB112 := below_put hB107 (grown_set w8 (w4.heap.size) 1 (.slice A106 (p.idle.length + 1) c106)) (by omega) (by have := hB107.size; omega)
          have x113 := x108.past (grown_set w8 (w4.heap.size) 1 (.slice A106 (p.idle.length + 1) c106)) (by omega)
          have r114 := r109.past (grown_set w8 (w4.heap.size) 1 (.slice A106 (p.idle.length + 1) c106)) (by omega)
          have o115 := o111.past t110 (grown_set w8 (w4.heap.size) 1 (.slice A106 (p.idle.length + 1) c106))
          have t116 : At (w8.setCell ⟨w4.heap.size, 1, none⟩ (.slice A106 (p.idle.length + 1) c106)) (w4.heap.size) 30 #[.int .i64 p.mx, .slice A106 (p.idle.length + 1) c106, .slice Ad X.length cd, .slice B3 p.wait.length d3] := by simpa using t110.set 1 (.slice A106 (p.idle.length + 1) c106)
          clear hB107 x108 r109 o111 t110
          have hB117 := below_put hB112 (grown_set (w8.setCell ⟨w4.heap.size, 1, none⟩ (.slice A106 (p.idle.length + 1) c106)) (w.heap.size + 1) 0 (.int .i64 p.mx)) (by omega) (by have := hB112.size; omega)
          have x118 := x113.past (grown_set (w8.setCell ⟨w4.heap.size, 1, none⟩ (.slice A106 (p.idle.length + 1) c106)) (w.heap.size + 1) 0 (.int .i64 p.mx)) (by omega)
          have t119 := t116.past (grown_set (w8.setCell ⟨w4.heap.size, 1, none⟩ (.slice A106 (p.idle.length + 1) c106)) (w.heap.size + 1) 0 (.int .i64 p.mx)) (by omega)
          have o120 := o115.past r114 (grown_set (w8.setCell ⟨w4.heap.size, 1, none⟩ (.slice A106 (p.idle.length + 1) c106)) (w.heap.size + 1) 0 (.int .i64 p.mx))
          have r121 : At ((w8.setCell ⟨w4.heap.size, 1, none⟩ (.slice A106 (p.idle.length + 1) c106)).setCell ⟨w.heap.size + 1, 0, none⟩ (.int .i64 p.mx)) (w.heap.size + 1) 30 #[.int .i64 p.mx, .slice none 0 0, .slice none 0 0, .slice none 0 0] := by simpa using r114.set 0 (.int .i64 p.mx)
          clear hB112 x113 t116 o115 r114
          have hB122 := below_put hB117 (grown_set ((w8.setCell ⟨w4.heap.size, 1, none⟩ (.slice A106 (p.idle.length + 1) c106)).setCell ⟨w.heap.size + 1, 0, none⟩ (.int .i64 p.mx)) (w.heap.size + 1) 1 (.slice A106 (p.idle.length + 1) c106)) (by omega) (by have := hB117.size; omega)
          have x123 := x118.past (grown_set ((w8.setCell ⟨w4.heap.size, 1, none⟩ (.slice A106 (p.idle.length + 1) c106)).setCell ⟨w.heap.size + 1, 0, none⟩ (.int .i64 p.mx)) (w.heap.size + 1) 1 (.slice A106 (p.idle.length + 1) c106)) (by omega)
          have t124 := t119.past (grown_set ((w8.setCell ⟨w4.heap.size, 1, none⟩ (.slice A106 (p.idle.length + 1) c106)).setCell ⟨w.heap.size + 1, 0, none⟩ (.int .i64 p.mx)) (w.heap.size + 1) 1 (.slice A106 (p.idle.length + 1) c106)) (by omega)
          have o125 := o120.past r121 (grown_set ((w8.setCell ⟨w4.heap.size, 1, none⟩ (.slice A106 (p.idle.length + 1) c106)).setCell ⟨w.heap.size + 1, 0, none⟩ (.int .i64 p.mx)) (w.heap.size + 1) 1 (.slice A106 (p.idle.length + 1) c106))
          have r126 : At (((w8.setCell ⟨w4.heap.size, 1, none⟩ (.slice A106 (p.idle.length + 1) c106)).setCell ⟨w.heap.size + 1, 0, none⟩ (.int .i64 p.mx)).setCell ⟨w.heap.size + 1, 1, none⟩ (.slice A106 (p.idle.length + 1) c106)) (w.heap.size + 1) 30 #[.int .i64 p.mx, .slice A106 (p.idle.length + 1) c106, .slice none 0 0, .slice none 0 0] := by simpa using r121.set 1 (.slice A106 (p.idle.length + 1) c106)
          clear hB117 x118 t119 o120 r121
          have hB127 := below_put hB122 (grown_set (((w8.setCell ⟨w4.heap.size, 1, none⟩ (.slice A106 (p.idle.length + 1) c106)).setCell ⟨w.heap.size + 1, 0, none⟩ (.int .i64 p.mx)).setCell ⟨w.heap.size + 1, 1, none⟩ (.slice A106 (p.idle.length + 1) c106)) (w.heap.size + 1) 2 (.slice Ad X.length cd)) (by omega) (by have := hB122.size; omega)
          have x128 := x123.past (grown_set (((w8.setCell ⟨w4.heap.size, 1, none⟩ (.slice A106 (p.idle.length + 1) c106)).setCell ⟨w.heap.size + 1, 0, none⟩ (.int .i64 p.mx)).setCell ⟨w.heap.size + 1, 1, none⟩ (.slice A106 (p.idle.length + 1) c106)) (w.heap.size + 1) 2 (.slice Ad X.length cd)) (by omega)
          have t129 := t124.past (grown_set (((w8.setCell ⟨w4.heap.size, 1, none⟩ (.slice A106 (p.idle.length + 1) c106)).setCell ⟨w.heap.size + 1, 0, none⟩ (.int .i64 p.mx)).setCell ⟨w.heap.size + 1, 1, none⟩ (.slice A106 (p.idle.length + 1) c106)) (w.heap.size + 1) 2 (.slice Ad X.length cd)) (by omega)
          have o130 := o125.past r126 (grown_set (((w8.setCell ⟨w4.heap.size, 1, none⟩ (.slice A106 (p.idle.length + 1) c106)).setCell ⟨w.heap.size + 1, 0, none⟩ (.int .i64 p.mx)).setCell ⟨w.heap.size + 1, 1, none⟩ (.slice A106 (p.idle.length + 1) c106)) (w.heap.size + 1) 2 (.slice Ad X.length cd))
          have r131 : At ((((w8.setCell ⟨w4.heap.size, 1, none⟩ (.slice A106 (p.idle.length + 1) c106)).setCell ⟨w.heap.size + 1, 0, none⟩ (.int .i64 p.mx)).setCell ⟨w.heap.size + 1, 1, none⟩ (.slice A106 (p.idle.length + 1) c106)).setCell ⟨w.heap.size + 1, 2, none⟩ (.slice Ad X.length cd)) (w.heap.size + 1) 30 #[.int .i64 p.mx, .slice A106 (p.idle.length + 1) c106, .slice Ad X.length cd, .slice none 0 0] := by simpa using r126.set 2 (.slice Ad X.length cd)
          clear hB122 x123 t124 o125 r126
          have hB132 := below_put hB127 (grown_set ((((w8.setCell ⟨w4.heap.size, 1, none⟩ (.slice A106 (p.idle.length + 1) c106)).setCell ⟨w.heap.size + 1, 0, none⟩ (.int .i64 p.mx)).setCell ⟨w.heap.size + 1, 1, none⟩ (.slice A106 (p.idle.length + 1) c106)).setCell ⟨w.heap.size + 1, 2, none⟩ (.slice Ad X.length cd)) (w.heap.size + 1) 3 (.slice B3 p.wait.length d3)) (by omega) (by have := hB127.size; omega)
          have x133 := x128.past (grown_set ((((w8.setCell ⟨w4.heap.size, 1, none⟩ (.slice A106 (p.idle.length + 1) c106)).setCell ⟨w.heap.size + 1, 0, none⟩ (.int .i64 p.mx)).setCell ⟨w.heap.size + 1, 1, none⟩ (.slice A106 (p.idle.length + 1) c106)).setCell ⟨w.heap.size + 1, 2, none⟩ (.slice Ad X.length cd)) (w.heap.size + 1) 3 (.slice B3 p.wait.length d3)) (by omega)
          have t134 := t129.past (grown_set ((((w8.setCell ⟨w4.heap.size, 1, none⟩ (.slice A106 (p.idle.length + 1) c106)).setCell ⟨w.heap.size + 1, 0, none⟩ (.int .i64 p.mx)).setCell ⟨w.heap.size + 1, 1, none⟩ (.slice A106 (p.idle.length + 1) c106)).setCell ⟨w.heap.size + 1, 2, none⟩ (.slice Ad X.length cd)) (w.heap.size + 1) 3 (.slice B3 p.wait.length d3)) (by omega)
          have o135 := o130.past r131 (grown_set ((((w8.setCell ⟨w4.heap.size, 1, none⟩ (.slice A106 (p.idle.length + 1) c106)).setCell ⟨w.heap.size + 1, 0, none⟩ (.int .i64 p.mx)).setCell ⟨w.heap.size + 1, 1, none⟩ (.slice A106 (p.idle.length + 1) c106)).setCell ⟨w.heap.size + 1, 2, none⟩ (.slice Ad X.length cd)) (w.heap.size + 1) 3 (.slice B3 p.wait.length d3))
          have r136 : At (((((w8.setCell ⟨w4.heap.size, 1, none⟩ (.slice A106 (p.idle.length + 1) c106)).setCell ⟨w.heap.size + 1, 0, none⟩ (.int .i64 p.mx)).setCell ⟨w.heap.size + 1, 1, none⟩ (.slice A106 (p.idle.length + 1) c106)).setCell ⟨w.heap.size + 1, 2, none⟩ (.slice Ad X.length cd)).setCell ⟨w.heap.size + 1, 3, none⟩ (.slice B3 p.wait.length d3)) (w.heap.size + 1) 30 #[.int .i64 p.mx, .slice A106 (p.idle.length + 1) c106, .slice Ad X.length cd, .slice B3 p.wait.length d3] := by simpa using r131.set 3 (.slice B3 p.wait.length d3)
          clear hB127 x128 t129 o130 r131
          go_wp2
          refine bodyPost_ret (v := .tuple #[.agg #[.int .i64 p.mx, .slice A106 (p.idle.length + 1) c106, .slice Ad X.length cd, .slice B3 p.wait.length d3], .int .i64 (-1), .bool true]) (by simp [results, Try.results87, go_sem, r136.cell]) rfl ?_
          rw [E1.out, E2.out, EB.out, HWO.out]
          exact ⟨A106, Ad, B3, c106, cd, d3, by simp [List.length_append, HXl.out], (by simpa [List.length_append, HXl.out] using o135.mono (show w.heap.size ≤ w.heap.size + 2 by omega)), hB132⟩

end Go.Proofs.Ytehdbllpiokbnaa

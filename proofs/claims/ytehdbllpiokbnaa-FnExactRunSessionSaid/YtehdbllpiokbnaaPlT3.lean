/-
  What the model's ReleaseConn answers: somebody waits. Condition: the lists lie in memory.
-/
import Derived.Test.YtehdbllpiokbnaaPlT0
import Derived.StillTailTactics
import Derived.Deep.RegionHeld3
import Derived.Deep.RegionLaw
import Derived.Deep.CutRange

namespace Go.Proofs.Ytehdbllpiokbnaa
open Go.RowKit Pol

set_option maxRecDepth 16384 in
set_option maxHeartbeats 4000000 in
theorem sReleaseConn_m2 (p : Pl) (A1 A2 A3 : Option Addr) (c1 c2 c3 : Nat) (o : Int) (w : World) (h : SeesP w w.heap.size A1 A2 A3 p) (hcap : p.wait.length ≤ c3) (hcap2 : p.held.length ≤ c2) (h1 : p.idle.length ≤ 2097152) (h2 : p.held.length ≤ 2097152) (h3 : p.wait.length ≤ 2097152) (hok : Ok p) (hm : o ∈ p.held.map Ho.c) (hI : 0 < p.wait.length) (hc1 : ¬ c3 = 1) :
    Calls Try.prog 87 #[.agg #[.int .i64 p.mx, .slice A1 p.idle.length c1, .slice A2 p.held.length c2, .slice A3 p.wait.length c3], .int .i64 o] w (PAns3 (relR p o) (relN p o) (relB p o) w) := by
  obtain ⟨i0, hi0, hz0, hz1, hz2⟩ := info_parts intInfo
  obtain ⟨ih0, hih0, hzh0, hzh1, hzh2⟩ := info_parts holdInfo
  have H1 := hid h1
  have H2 := hid h2
  have H3 := hid h3
  clear h1 h2 h3
  have HK := hid (okB_iff.2 hok)
  have hb : relB p o = true := relB_iff.2 ⟨hok, hm⟩
  have EB := hid hb
  obtain ⟨k, hk, hp, hwo⟩ := place_split (nodup_held hok) hm
  have hsm := hok.small
  obtain ⟨b2, of2, rfl, hbl2, _, _⟩ := h.held.hold hk
  have HP := hid hp
  have HBB := hid hb
  have hkn : ¬ (k : Int) < 0 := by omega
  clear hp hm hok hb
  have hwl : ((p.wait.length : Int) == 0) = false := beq_eq_false_iff_ne.2 (by omega)
  obtain ⟨b, of, rfl, hbl, hce⟩ := h.wait.int hI
  clear hce
  have HWe := hid (fun (w1 : World) (hs : Sees w1 w1.heap.size (some ⟨b, of, none⟩) (ints p.wait)) => (show w1.cell? ⟨b, of, none⟩ = some (.int .i64 p.wait[0]) by obtain ⟨b2, o2, e, _, h2⟩ := hs.int hI; injection e with e; injection e with ea eb; subst ea eb; exact h2))
  have HL := hid (show (p.wait.drop 1).length = p.wait.length - 1 from List.length_drop)
  have hwe : p.wait = p.wait[0] :: p.wait.drop 1 := (List.drop_zero (l := p.wait)).symm.trans (List.drop_eq_getElem_cons hI)
  obtain ⟨e1, e2, _⟩ := rel_some HBB.out hwe
  have HSl2 := hid (fun (w1 : World) (hs : Sees w1 w1.heap.size (some ⟨b, of, none⟩) (ints p.wait)) => (show Sees w1 w1.heap.size (some ⟨b, of + 1, none⟩) (ints (p.wait.drop 1)) by have e : ints (p.wait.drop 1) = (ints p.wait).drop 1 := (by simp [ints]); rw [e]; exact hs.drop rfl))
  have HNil := hid (fun (hc : c3 = 1) => (show p.wait.drop 1 = [] from List.drop_eq_nil_of_le (by omega)))
  obtain ⟨C, hC⟩ : ∃ C, C = p.wait[0] := ⟨_, rfl⟩
  obtain ⟨L, hL⟩ : ∃ L, L = p.wait.drop 1 := ⟨_, rfl⟩
  rw [← hC] at HWe e1 e2
  rw [← hL] at HL e2 HSl2 HNil
  have E1 := hid e1
  have E2 := hid e2
  have HLn := hid (show L.length ≤ 4194304 by rw [HL.out]; have := H3.out; omega)
  clear hC hL hwe e1 e2
  have h1l : (1 : Int) ≤ (p.wait.length : Int) := by omega
  have h0l : (0 : Int) < (p.wait.length : Int) := by omega
  have hlc : (p.wait.length : Int) ≤ (c3 : Int) := by omega
  have h1c : (1 : Int) ≤ (c3 : Int) := by omega
  have HI := hid hI
  clear hI
  have hc1b : ¬ 1 = c3 := fun e => hc1 e.symm
  have hB1 := Below.refl w.heap.size w
  have hB2 := hB1.alloc hB1.size (.cells #[.int .i64 p.mx, .slice A1 p.idle.length c1, .slice (some ⟨b2, of2, none⟩) p.held.length c2, .slice (some ⟨b, of, none⟩) p.wait.length c3] 30)
  clear hB1
  have x3 : At (w.alloc (.cells #[.int .i64 p.mx, .slice A1 p.idle.length c1, .slice (some ⟨b2, of2, none⟩) p.held.length c2, .slice (some ⟨b, of, none⟩) p.wait.length c3] 30)) (w.heap.size) 30 #[.int .i64 p.mx, .slice A1 p.idle.length c1, .slice (some ⟨b2, of2, none⟩) p.held.length c2, .slice (some ⟨b, of, none⟩) p.wait.length c3] := At.newAt _ _ (by first | rfl | (simp; done) | (simp; omega))
  have hB4 := hB2.alloc hB2.size (.cells #[.int .i64 0, .slice none 0 0, .slice none 0 0, .slice none 0 0] 30)
  have x5 := x3.alloc (.cells #[.int .i64 0, .slice none 0 0, .slice none 0 0, .slice none 0 0] 30)
  clear hB2 x3
  have r6 : At ((w.alloc (.cells #[.int .i64 p.mx, .slice A1 p.idle.length c1, .slice (some ⟨b2, of2, none⟩) p.held.length c2, .slice (some ⟨b, of, none⟩) p.wait.length c3] 30)).alloc (.cells #[.int .i64 0, .slice none 0 0, .slice none 0 0, .slice none 0 0] 30)) (w.heap.size + 1) 30 #[.int .i64 0, .slice none 0 0, .slice none 0 0, .slice none 0 0] := At.newAt _ _ (by first | rfl | (simp; done) | (simp; omega))
  go_enter Try.func87, Try.ntmps87
  obtain ⟨p0, p1, p2, p3, pl, pf⟩ := (⟨x5.cell 0, x5.cell 1, x5.cell 2, x5.cell 3, x5.lt, x5.frozen⟩ : _ ∧ _ ∧ _ ∧ _ ∧ _ ∧ _)
  obtain ⟨q0, q1, q2, q3, ql, qf⟩ := (⟨r6.cell 0, r6.cell 1, r6.cell 2, r6.cell 3, r6.lt, r6.frozen⟩ : _ ∧ _ ∧ _ ∧ _ ∧ _ ∧ _)
  go_wp2_with fail
  with_reducible refine (svalidPool_any p A1 (some ⟨b2, of2, none⟩) (some ⟨b, of, none⟩) c1 c2 c3 _ (h.on hB4) H1.out H2.out (Nat.le_trans H3.out (by decide))).mono ?_
  rintro e w1 ⟨he, hb1⟩
  rw [HK.out] at he
  subst he
  have sz1 : w.heap.size + 2 ≤ w1.heap.size := Nat.le_trans (by first | exact Nat.le_refl _ | (simp; done) | (simp; omega)) (hb1.size)
  have hB7 := hB4.trans (hb1.mono hB4.size)
  have x8 := x5.below hb1 x5.lt
  have r9 := r6.below hb1 r6.lt
  clear hB4 x5 r6
  clear p0 p1 p2 p3 pl pf q0 q1 q2 q3 ql qf
  obtain ⟨p0, p1, p2, p3, pl, pf⟩ := (⟨x8.cell 0, x8.cell 1, x8.cell 2, x8.cell 3, x8.lt, x8.frozen⟩ : _ ∧ _ ∧ _ ∧ _ ∧ _ ∧ _)
  obtain ⟨q0, q1, q2, q3, ql, qf⟩ := (⟨r9.cell 0, r9.cell 1, r9.cell 2, r9.cell 3, r9.lt, r9.frozen⟩ : _ ∧ _ ∧ _ ∧ _ ∧ _ ∧ _)
  go_wp2_with fail
  with_reducible refine (sholder_any p A1 (some ⟨b2, of2, none⟩) (some ⟨b, of, none⟩) c1 c2 c3 o _ (h.on hB7).held (Nat.le_trans H2.out (by decide))).mono ?_
  rintro e w2 ⟨he, hb2⟩
  rw [HP.out] at he
  subst he
  have sz2 : w1.heap.size ≤ w2.heap.size := Nat.le_trans (by first | exact Nat.le_refl _ | (simp; done) | (simp; omega)) (hb2.size)
  have hB10 := hB7.trans (hb2.mono hB7.size)
  have x11 := x8.below hb2 x8.lt
  have r12 := r9.below hb2 r9.lt
  clear hB7 x8 r9
  clear p0 p1 p2 p3 pl pf q0 q1 q2 q3 ql qf
  obtain ⟨p0, p1, p2, p3, pl, pf⟩ := (⟨x11.cell 0, x11.cell 1, x11.cell 2, x11.cell 3, x11.lt, x11.frozen⟩ : _ ∧ _ ∧ _ ∧ _ ∧ _ ∧ _)
  obtain ⟨q0, q1, q2, q3, ql, qf⟩ := (⟨r12.cell 0, r12.cell 1, r12.cell 2, r12.cell 3, r12.lt, r12.frozen⟩ : _ ∧ _ ∧ _ ∧ _ ∧ _ ∧ _)
  go_wp2_with fail
  with_reducible refine (sholder_any p A1 (some ⟨b2, of2, none⟩) (some ⟨b, of, none⟩) c1 c2 c3 o _ (h.on hB10).held (Nat.le_trans H2.out (by decide))).mono ?_
  rintro e w3 ⟨he, hb3⟩
  rw [HP.out] at he
  subst he
  have sz3 : w2.heap.size ≤ w3.heap.size := Nat.le_trans (by first | exact Nat.le_refl _ | (simp; done) | (simp; omega)) (hb3.size)
  have hB13 := hB10.trans (hb3.mono hB10.size)
  have x14 := x11.below hb3 x11.lt
  have r15 := r12.below hb3 r12.lt
  clear hB10 x11 r12
  clear p0 p1 p2 p3 pl pf q0 q1 q2 q3 ql qf
  obtain ⟨p0, p1, p2, p3, pl, pf⟩ := (⟨x14.cell 0, x14.cell 1, x14.cell 2, x14.cell 3, x14.lt, x14.frozen⟩ : _ ∧ _ ∧ _ ∧ _ ∧ _ ∧ _)
  obtain ⟨q0, q1, q2, q3, ql, qf⟩ := (⟨r15.cell 0, r15.cell 1, r15.cell 2, r15.cell 3, r15.lt, r15.frozen⟩ : _ ∧ _ ∧ _ ∧ _ ∧ _ ∧ _)
  go_wp2_with fail
  with_reducible refine (scopyPool_any p A1 (some ⟨b2, of2, none⟩) (some ⟨b, of, none⟩) c1 c2 c3 _ (h.on hB13) (Nat.le_trans H1.out (by decide)) (Nat.le_trans H2.out (by decide)) (Nat.le_trans H3.out (by decide))).mono ?_
  rintro e w4 ⟨B1, B2, B3, d1, d2, d3, rfl, ho, hb4⟩
  have sz4 : w3.heap.size ≤ w4.heap.size := Nat.le_trans (by first | exact Nat.le_refl _ | (simp; done) | (simp; omega)) (hb4.size)
  have hB16 := hB13.trans (hb4.mono hB13.size)
  have x17 := x14.below hb4 x14.lt
  have r18 := r15.below hb4 r15.lt
  clear hB13 x14 r15
  clear p0 p1 p2 p3 pl pf q0 q1 q2 q3 ql qf
  have o19 := ho.mono (show w.heap.size + 2 ≤ _ by omega)
  clear ho
  obtain ⟨p0, p1, p2, p3, pl, pf⟩ := (⟨x17.cell 0, x17.cell 1, x17.cell 2, x17.cell 3, x17.lt, x17.frozen⟩ : _ ∧ _ ∧ _ ∧ _ ∧ _ ∧ _)
  obtain ⟨q0, q1, q2, q3, ql, qf⟩ := (⟨r18.cell 0, r18.cell 1, r18.cell 2, r18.cell 3, r18.lt, r18.frozen⟩ : _ ∧ _ ∧ _ ∧ _ ∧ _ ∧ _)
  have hB20 := hB16.alloc hB16.size (.cells #[.int .i64 p.mx, .slice B1 p.idle.length d1, .slice B2 p.held.length d2, .slice B3 p.wait.length d3] 30)
  have x21 := x17.alloc (.cells #[.int .i64 p.mx, .slice B1 p.idle.length d1, .slice B2 p.held.length d2, .slice B3 p.wait.length d3] 30)
  have r22 := r18.alloc (.cells #[.int .i64 p.mx, .slice B1 p.idle.length d1, .slice B2 p.held.length d2, .slice B3 p.wait.length d3] 30)
  have o23 := o19.alloc (.cells #[.int .i64 p.mx, .slice B1 p.idle.length d1, .slice B2 p.held.length d2, .slice B3 p.wait.length d3] 30)
  clear hB16 x17 r18 o19
  have t24 : At (w4.alloc (.cells #[.int .i64 p.mx, .slice B1 p.idle.length d1, .slice B2 p.held.length d2, .slice B3 p.wait.length d3] 30)) (w4.heap.size) 30 #[.int .i64 p.mx, .slice B1 p.idle.length d1, .slice B2 p.held.length d2, .slice B3 p.wait.length d3] := At.newAt _ _ (by first | rfl | (simp; done) | (simp; omega))
  have hk0 : (0 : Int) ≤ (k : Int) := by omega
  have hkl : (k : Int) ≤ (p.held.length : Int) := by omega
  have hkc : (k : Int) ≤ (c2 : Int) := by omega
  have hk6 : k ≤ 6 := by omega
  have hrow : World.ownsRow ((w4.alloc (.cells #[.int .i64 p.mx, .slice B1 p.idle.length d1, .slice B2 p.held.length d2, .slice B3 p.wait.length d3] 30)).alloc (.cells #[] 91)) (w4.alloc (.cells #[.int .i64 p.mx, .slice B1 p.idle.length d1, .slice B2 p.held.length d2, .slice B3 p.wait.length d3] 30)).heap.size 91 2 (.slice (some ⟨w4.heap.size + 1, 0, none⟩) 0 0) 0 [] := by simpa using made_at 91 2 (w := (w4.alloc (.cells #[.int .i64 p.mx, .slice B1 p.idle.length d1, .slice B2 p.held.length d2, .slice B3 p.wait.length d3] 30))) rfl (Nat.le_refl _)
  have hst := ((h.on hB20).alloc (.cells #[] 91)).held.stake hcells_len k
  have HTk := hid (show (p.held.take k).length = k by rw [List.length_take]; omega)
  go_wp2_with (at_builtin; refine wpList_append_own _ rfl _ _ 28 rfl ((w4.alloc (.cells #[.int .i64 p.mx, .slice B1 p.idle.length d1, .slice B2 p.held.length d2, .slice B3 p.wait.length d3] 30)).heap.size) 91 ih0 (.agg #[.int .i64 0, .int .i64 0]) 2 16 Try.underlying28 hih0 hzh0 hzh1 hzh2 rfl (by decide) _ _ _ rfl hrow ⟨b2, of2, none⟩ k c2 (strip hcells (p.held.take k)) rfl ?c1 ?cn ?c2 ?c3 ?c4 ?c5 ?_)
  case c1 => rw [strip_len hcells_len, HTk.out]
  case cn => exact hst.add
  case c2 => exact hcells_one _
  case c3 => unfold maxLen; omega
  case c4 => omega
  case c5 => simp
  case _ =>
    intro va w5 hh hg1 _
    obtain ⟨An5, cn5, rfl, _, _⟩ := own_form hh
    have hb5 : Below (w4.alloc (.cells #[.int .i64 p.mx, .slice B1 p.idle.length d1, .slice B2 p.held.length d2, .slice B3 p.wait.length d3] 30)).heap.size (w4.alloc (.cells #[.int .i64 p.mx, .slice B1 p.idle.length d1, .slice B2 p.held.length d2, .slice B3 p.wait.length d3] 30)) w5 := ((Below.refl _ (w4.alloc (.cells #[.int .i64 p.mx, .slice B1 p.idle.length d1, .slice B2 p.held.length d2, .slice B3 p.wait.length d3] 30))).alloc (Nat.le_refl _) (.cells #[] 91)).grown hg1 (by simp) (fun q hq => by have := own1 q hq; subst this; simp)
    obtain ⟨Y, hY⟩ : ∃ Y, Y = p.held.take k := ⟨_, rfl⟩
    rw [← hY] at hh HTk hwo
    have hn5 : OwnS 91 2 hcells w5 (w4.alloc (.cells #[.int .i64 p.mx, .slice B1 p.idle.length d1, .slice B2 p.held.length d2, .slice B3 p.wait.length d3] 30)).heap.size (.slice An5 Y.length cn5) Y := by unfold OwnS; rw [HTk.out]; simpa using hh
    have sz5 : w4.heap.size + 1 ≤ w5.heap.size := Nat.le_trans (by first | exact Nat.le_refl _ | (simp; done) | (simp; omega)) (hb5.size)
    have o25 := o23.newHeld (by first | omega | (simp; omega) | (simp; done)) hn5 hb5
    have hB26 := hB20.trans (hb5.mono hB20.size)
    have x27 := x21.below hb5 x21.lt
    have r28 := r22.below hb5 r22.lt
    have t29 := t24.below hb5 t24.lt
    clear hB20 x21 r22 t24
    clear p0 p1 p2 p3 pl pf q0 q1 q2 q3 ql qf
    clear o23 hn5 hrow hst hh hg1 hY
    obtain ⟨p0, p1, p2, p3, pl, pf⟩ := (⟨x27.cell 0, x27.cell 1, x27.cell 2, x27.cell 3, x27.lt, x27.frozen⟩ : _ ∧ _ ∧ _ ∧ _ ∧ _ ∧ _)
    obtain ⟨q0, q1, q2, q3, ql, qf⟩ := (⟨r28.cell 0, r28.cell 1, r28.cell 2, r28.cell 3, r28.lt, r28.frozen⟩ : _ ∧ _ ∧ _ ∧ _ ∧ _ ∧ _)
    obtain ⟨t0, t1, t2, t3, tl, tf⟩ := (⟨t29.cell 0, t29.cell 1, t29.cell 2, t29.cell 3, t29.lt, t29.frozen⟩ : _ ∧ _ ∧ _ ∧ _ ∧ _ ∧ _)
    have ne_pq : ¬ w.heap.size = w.heap.size + 1 := by omega
    have ne_qp : ¬ w.heap.size + 1 = w.heap.size := by omega
    have ne_pt : ¬ w.heap.size = w4.heap.size := by omega
    have ne_tp : ¬ w4.heap.size = w.heap.size := by omega
    have ne_qt : ¬ w.heap.size + 1 = w4.heap.size := by omega
    have ne_tq : ¬ w4.heap.size = w.heap.size + 1 := by omega
    have e := HTk.out
    subst e
    clear HTk
    clear p0 p1 p2 p3 pl pf q0 q1 q2 q3 ql qf t0 t1 t2 t3 tl tf ne_pq ne_qp ne_pt ne_tp ne_qt ne_tq
    obtain ⟨K, hK⟩ : ∃ K, K = Y.length + 1 := ⟨_, rfl⟩
    rw [← hK] at hwo
    have hwk : IntKind.i64.wrap ((Y.length : Int) + 1) = (K : Int) := by rw [IntKind.wrap_i64]; omega
    have hK0 : (0 : Int) ≤ (K : Int) := by omega
    have hKl : (K : Int) ≤ (p.held.length : Int) := by omega
    have hKc : (K : Int) ≤ (c2 : Int) := by omega
    have hK7 : K ≤ 7 := by omega
    obtain ⟨D, hD⟩ : ∃ D, D = p.held.drop K := ⟨_, rfl⟩
    have HDl := hid (show D.length = p.held.length - K by rw [hD]; exact List.length_drop)
    rw [← hD] at hwo
    have HSl := hid (fun (w1 : World) (hs : Sees w1 w1.heap.size (some ⟨b2, of2, none⟩) (strip hcells p.held)) => (show Sees w1 w1.heap.size (some ⟨b2, of2 + K * 2, none⟩) (strip hcells D) by rw [hD]; exact hslide hs K))
    have HKY := hid hK
    clear hD hk0 hkl hkc hk6 hkn hK
    have HWO := hid hwo
    clear hwo
    obtain ⟨p0, p1, p2, p3, pl, pf⟩ := (⟨x27.cell 0, x27.cell 1, x27.cell 2, x27.cell 3, x27.lt, x27.frozen⟩ : _ ∧ _ ∧ _ ∧ _ ∧ _ ∧ _)
    obtain ⟨q0, q1, q2, q3, ql, qf⟩ := (⟨r28.cell 0, r28.cell 1, r28.cell 2, r28.cell 3, r28.lt, r28.frozen⟩ : _ ∧ _ ∧ _ ∧ _ ∧ _ ∧ _)
    obtain ⟨t0, t1, t2, t3, tl, tf⟩ := (⟨t29.cell 0, t29.cell 1, t29.cell 2, t29.cell 3, t29.lt, t29.frozen⟩ : _ ∧ _ ∧ _ ∧ _ ∧ _ ∧ _)
    have ne_pq : ¬ w.heap.size = w.heap.size + 1 := by omega
    have ne_qp : ¬ w.heap.size + 1 = w.heap.size := by omega
    have ne_pt : ¬ w.heap.size = w4.heap.size := by omega
    have ne_tp : ¬ w4.heap.size = w.heap.size := by omega
    have ne_qt : ¬ w.heap.size + 1 = w4.heap.size := by omega
    have ne_tq : ¬ w4.heap.size = w.heap.size + 1 := by omega
    have hB30 := below_put hB26 (grown_set w5 (w4.heap.size) 2 (.slice An5 Y.length cn5)) (by omega) (by have := hB26.size; omega)
    have x31 := x27.past (grown_set w5 (w4.heap.size) 2 (.slice An5 Y.length cn5)) (by omega)
    have r32 := r28.past (grown_set w5 (w4.heap.size) 2 (.slice An5 Y.length cn5)) (by omega)
    have o33 := o25.past t29 (grown_set w5 (w4.heap.size) 2 (.slice An5 Y.length cn5))
    have t34 : At (w5.setCell ⟨w4.heap.size, 2, none⟩ (.slice An5 Y.length cn5)) (w4.heap.size) 30 #[.int .i64 p.mx, .slice B1 p.idle.length d1, .slice An5 Y.length cn5, .slice B3 p.wait.length d3] := by simpa using t29.set 2 (.slice An5 Y.length cn5)
    clear hB26 x27 r28 o25 t29
    by_cases hkc : c2 = K
    · skip
      subst hkc
      have HD0 := hid (show D = [] from List.eq_nil_of_length_eq_zero (by rw [HDl.out]; omega))
      rw [HD0.out, List.append_nil] at HWO
      have HXb := hid (show Y.length ≤ 6 by omega)
      go_wp2_with fail
      refine wp_region_still_tail 7 (by kernel_rfl) (by kernel_rfl) ?_
      simp only [List.take_succ_cons, List.take_zero, List.drop_succ_cons, List.drop_zero]
      change wpStill _ _ (World.drew (w5.setCell ⟨w4.heap.size, 2, none⟩ (.slice An5 Y.length cn5))) (fun a' => wpList _ _ _ _ a' (World.drew (w5.setCell ⟨w4.heap.size, 2, none⟩ (.slice An5 Y.length cn5)))) _ _
      have sz6 : w5.heap.size ≤ (World.drew (w5.setCell ⟨w4.heap.size, 2, none⟩ (.slice An5 Y.length cn5))).heap.size := by first | exact Nat.le_refl _ | (simp; done)
      have hB35 := hB30.drew
      clear hB30
      have x36 := x31.drew
      clear x31
      have r37 := r32.drew
      clear r32
      have t38 := t34.drew
      clear t34
      have o39 := o33.drew
      clear o33
      obtain ⟨w6, hwz⟩ : ∃ w6, w6 = World.drew (w5.setCell ⟨w4.heap.size, 2, none⟩ (.slice An5 Y.length cn5)) := ⟨_, rfl⟩
      rw [← hwz] at sz6 hB35 x36 r37 t38 o39 ⊢
      clear hwz
      clear p0 p1 p2 p3 pl pf q0 q1 q2 q3 ql qf t0 t1 t2 t3 tl tf ne_pq ne_qp ne_pt ne_tp ne_qt ne_tq
      obtain ⟨p0, p1, p2, p3, pl, pf⟩ := (⟨x36.cell 0, x36.cell 1, x36.cell 2, x36.cell 3, x36.lt, x36.frozen⟩ : _ ∧ _ ∧ _ ∧ _ ∧ _ ∧ _)
      obtain ⟨q0, q1, q2, q3, ql, qf⟩ := (⟨r37.cell 0, r37.cell 1, r37.cell 2, r37.cell 3, r37.lt, r37.frozen⟩ : _ ∧ _ ∧ _ ∧ _ ∧ _ ∧ _)
      obtain ⟨t0, t1, t2, t3, tl, tf⟩ := (⟨t38.cell 0, t38.cell 1, t38.cell 2, t38.cell 3, t38.lt, t38.frozen⟩ : _ ∧ _ ∧ _ ∧ _ ∧ _ ∧ _)
      have ne_pq : ¬ w.heap.size = w.heap.size + 1 := by omega
      have ne_qp : ¬ w.heap.size + 1 = w.heap.size := by omega
      have ne_pt : ¬ w.heap.size = w4.heap.size := by omega
      have ne_tp : ¬ w4.heap.size = w.heap.size := by omega
      have ne_qt : ¬ w.heap.size + 1 = w4.heap.size := by omega
      have ne_tq : ¬ w4.heap.size = w.heap.size + 1 := by omega
      repeat still_step
      refine wpStill_nil ?_
      have hown := o39.2.1.out
      have hlow := o39.low.2.1
      go_wp2_with (at_builtin; refine wpList_append_own_at _ rfl _ _ 28 rfl (w.heap.size + 2) 91 ih0 (.agg #[.int .i64 0, .int .i64 0]) 2 16 Try.underlying28 hih0 hzh0 hzh1 hzh2 rfl (by decide) _ _ _ rfl hown ⟨b2, of2, none⟩ 0 0 ([]) (by rfl) ?e1 ?en ?e2 ?e3 ?e4 ?e5 ?_)
      case e3 => unfold maxLen; omega
      case e4 => omega
      case e5 => first | omega | (simp; omega) | (simp; done)
      case _ =>
        intro va w7 hd hgd _ hatd
        obtain ⟨Ad, cd, rfl, _, _⟩ := own_form hd
        have sz7 : w6.heap.size ≤ w7.heap.size := Nat.le_trans (by first | exact Nat.le_refl _ | (simp; done) | (simp; omega)) (hgd.size)
        have x40 := x36.beside hown (by decide) hgd
        clear x36
        have r41 := r37.beside hown (by decide) hgd
        clear r37
        have t42 := t38.beside hown (by decide) hgd
        clear t38
        have hB43 := hB35.grown hgd hB35.size (fun q hq => Nat.le_trans (by omega) (hlow q hq))
        clear hB35
        have o44 := o39.moreHeld rfl rfl hd hgd hatd
        clear o39 hd hgd hatd hown hlow
        clear p0 p1 p2 p3 pl pf q0 q1 q2 q3 ql qf t0 t1 t2 t3 tl tf ne_pq ne_qp ne_pt ne_tp ne_qt ne_tq
        obtain ⟨p0, p1, p2, p3, pl, pf⟩ := (⟨x40.cell 0, x40.cell 1, x40.cell 2, x40.cell 3, x40.lt, x40.frozen⟩ : _ ∧ _ ∧ _ ∧ _ ∧ _ ∧ _)
        obtain ⟨q0, q1, q2, q3, ql, qf⟩ := (⟨r41.cell 0, r41.cell 1, r41.cell 2, r41.cell 3, r41.lt, r41.frozen⟩ : _ ∧ _ ∧ _ ∧ _ ∧ _ ∧ _)
        obtain ⟨t0, t1, t2, t3, tl, tf⟩ := (⟨t42.cell 0, t42.cell 1, t42.cell 2, t42.cell 3, t42.lt, t42.frozen⟩ : _ ∧ _ ∧ _ ∧ _ ∧ _ ∧ _)
        have ne_pq : ¬ w.heap.size = w.heap.size + 1 := by omega
        have ne_qp : ¬ w.heap.size + 1 = w.heap.size := by omega
        have ne_pt : ¬ w.heap.size = w4.heap.size := by omega
        have ne_tp : ¬ w4.heap.size = w.heap.size := by omega
        have ne_qt : ¬ w.heap.size + 1 = w4.heap.size := by omega
        have ne_tq : ¬ w4.heap.size = w.heap.size + 1 := by omega
        have hB45 := below_put hB43 (grown_set w7 (w4.heap.size) 2 (.slice Ad Y.length cd)) (by omega) (by have := hB43.size; omega)
        have x46 := x40.past (grown_set w7 (w4.heap.size) 2 (.slice Ad Y.length cd)) (by omega)
        have r47 := r41.past (grown_set w7 (w4.heap.size) 2 (.slice Ad Y.length cd)) (by omega)
        have o48 := o44.past t42 (grown_set w7 (w4.heap.size) 2 (.slice Ad Y.length cd))
        have t49 : At (w7.setCell ⟨w4.heap.size, 2, none⟩ (.slice Ad Y.length cd)) (w4.heap.size) 30 #[.int .i64 p.mx, .slice B1 p.idle.length d1, .slice Ad Y.length cd, .slice B3 p.wait.length d3] := by simpa using t42.set 2 (.slice Ad Y.length cd)
        clear hB43 x40 r41 o44 t42
        have hI0 : 0 < p.wait.length := HI.out
        have neb1 : ¬ w4.heap.size = b := by omega
        have neb2 : ¬ b = w4.heap.size := by omega
        have neb3 : ¬ w.heap.size + 1 = b := by omega
        have neb4 : ¬ b = w.heap.size + 1 := by omega
        go_upto_region 10 with fail
        go_cut [] from 51 to 61 (fun wx => ∃ (we : World) (Ae : Option Addr) (ce : Nat), wx = we.setCell ⟨w4.heap.size, 2, none⟩ (.slice Ae (Y.length + 1) ce) ∧ At we w.heap.size 30 #[.int .i64 p.mx, .slice A1 p.idle.length c1, .slice (some ⟨b2, of2, none⟩) p.held.length c2, .slice (some ⟨b, of, none⟩) p.wait.length c3] ∧ At we (w.heap.size + 1) 30 #[.int .i64 0, .slice none 0 0, .slice none 0 0, .slice none 0 0] ∧ At we (w4.heap.size) 30 #[.int .i64 p.mx, .slice B1 p.idle.length d1, .slice Ad Y.length cd, .slice B3 p.wait.length d3] ∧ OwnP we (w.heap.size + 2) B1 Ae B3 d1 ce d3 ⟨p.mx, p.idle, Y ++ [⟨o, C⟩], p.wait⟩ ∧ Below w.heap.size w we ∧ w7.heap.size ≤ we.heap.size)
        case first =>
          have hcd := HWe.out _ (h.on hB45.drew).wait
          have dx := x46.drew.cell
          have dt := t49.drew.cell
          have hown := (o48.alloc (.cells #[.int .i64 o, .int .i64 C] 91)).drew.2.1.out
          have hlow := o48.low.2.1
          have hnew := (At.newAt 91 #[.int .i64 o, .int .i64 C] rfl : At ((w7.setCell ⟨w4.heap.size, 2, none⟩ (.slice Ad Y.length cd)).alloc (.cells #[.int .i64 o, .int .i64 C] 91)) (w7.setCell ⟨w4.heap.size, 2, none⟩ (.slice Ad Y.length cd)).heap.size 91 #[.int .i64 o, .int .i64 C]).drew.news (cs := [.int .i64 o, .int .i64 C])
          simp only [World.size_setCell] at hnew
          go_region_law (first
            | (refine step_append_own_at _ (by rfl) _ _ 28 (by rfl) (w.heap.size + 2) 91 ih0 (.agg #[.int .i64 0, .int .i64 0]) 2 16 Try.underlying28 hih0 hzh0 hzh1 hzh2 rfl (by decide) (.slice Ad Y.length cd) Y.length _ (by rfl) hown ⟨w7.heap.size, 0, none⟩ 1 1 [.int .i64 o, .int .i64 C] (by rfl) (by rfl) hnew (by simp [Value.oneCell']) (by have := HXb.out; unfold maxLen; omega) (by have := HXb.out; omega) (by first | omega | (simp; omega)) ?_; intro ve we he heg hate; obtain ⟨Ae, ce, rfl, _, _⟩ := own_form he; have xe := At.beside (x46.alloc (.cells #[.int .i64 o, .int .i64 C] 91)).drew hown (by decide) heg; have re := At.beside (r47.alloc (.cells #[.int .i64 o, .int .i64 C] 91)).drew hown (by decide) heg; have te := At.beside (t49.alloc (.cells #[.int .i64 o, .int .i64 C] 91)).drew hown (by decide) heg; have be := (hB45.alloc hB45.size (.cells #[.int .i64 o, .int .i64 C] 91)).drew.grown heg (hB45.alloc hB45.size (.cells #[.int .i64 o, .int .i64 C] 91)).drew.size (fun q hq => Nat.le_trans (by omega) (hlow q hq)); have tc := te.cell; have tf := te.frozen)
            | fail)
          all_goals
            have oe := (o48.alloc (.cells #[.int .i64 o, .int .i64 C] 91)).drew.moreHeld (X := Y ++ [⟨o, C⟩]) (m := Y.length + 1) (by rw [List.length_append]; rfl) (strip_snoc _ _).symm he heg hate
            have se := heg.size
            go_wp2_with fail
            go_meet
            exact ⟨we, Ae, ce, rfl, xe, re, te, oe, be, by simp at se; omega⟩
        case rest =>
        obtain ⟨we, Ae, ce, rfl, xe, re, te, oe, be, sze⟩ := hcut
        have x50 := xe
        clear xe x46
        have r51 := re
        clear re r47
        have t52 := te
        clear te t49
        have hB53 := be
        clear be hB45
        have o54 := oe
        clear oe o48
        clear p0 p1 p2 p3 pl pf q0 q1 q2 q3 ql qf t0 t1 t2 t3 tl tf ne_pq ne_qp ne_pt ne_tp ne_qt ne_tq
        obtain ⟨p0, p1, p2, p3, pl, pf⟩ := (⟨x50.cell 0, x50.cell 1, x50.cell 2, x50.cell 3, x50.lt, x50.frozen⟩ : _ ∧ _ ∧ _ ∧ _ ∧ _ ∧ _)
        obtain ⟨q0, q1, q2, q3, ql, qf⟩ := (⟨r51.cell 0, r51.cell 1, r51.cell 2, r51.cell 3, r51.lt, r51.frozen⟩ : _ ∧ _ ∧ _ ∧ _ ∧ _ ∧ _)
        obtain ⟨t0, t1, t2, t3, tl, tf⟩ := (⟨t52.cell 0, t52.cell 1, t52.cell 2, t52.cell 3, t52.lt, t52.frozen⟩ : _ ∧ _ ∧ _ ∧ _ ∧ _ ∧ _)
        have ne_pq : ¬ w.heap.size = w.heap.size + 1 := by omega
        have ne_qp : ¬ w.heap.size + 1 = w.heap.size := by omega
        have ne_pt : ¬ w.heap.size = w4.heap.size := by omega
        have ne_tp : ¬ w4.heap.size = w.heap.size := by omega
        have ne_qt : ¬ w.heap.size + 1 = w4.heap.size := by omega
        have ne_tq : ¬ w4.heap.size = w.heap.size + 1 := by omega
        have hB55 := below_put hB53 (grown_set we (w4.heap.size) 2 (.slice Ae (Y.length + 1) ce)) (by omega) (by have := hB53.size; omega)
        have x56 := x50.past (grown_set we (w4.heap.size) 2 (.slice Ae (Y.length + 1) ce)) (by omega)
        have r57 := r51.past (grown_set we (w4.heap.size) 2 (.slice Ae (Y.length + 1) ce)) (by omega)
        have o58 := o54.past t52 (grown_set we (w4.heap.size) 2 (.slice Ae (Y.length + 1) ce))
        have t59 : At (we.setCell ⟨w4.heap.size, 2, none⟩ (.slice Ae (Y.length + 1) ce)) (w4.heap.size) 30 #[.int .i64 p.mx, .slice B1 p.idle.length d1, .slice Ae (Y.length + 1) ce, .slice B3 p.wait.length d3] := by simpa using t52.set 2 (.slice Ae (Y.length + 1) ce)
        clear hB53 x50 r51 o54 t52
        go_wp2_with fail
        with_reducible refine (copyInts_len HL.out (HSl2.out _ (h.on hB55).wait) HLn.out).mono ?_
        rintro e w8 ⟨v8, rfl, hn8, hb8⟩
        obtain ⟨An8, cn8, rfl, _⟩ := hn8.form
        have sz8 : we.heap.size ≤ w8.heap.size := Nat.le_trans (by first | exact Nat.le_refl _ | (simp; done) | (simp; omega)) (hb8.size)
        have o60 := o58.newWait (by first | omega | (simp; omega) | (simp; done)) hn8 hb8
        have hB61 := hB55.trans (hb8.mono hB55.size)
        have x62 := x56.below hb8 x56.lt
        have r63 := r57.below hb8 r57.lt
        have t64 := t59.below hb8 t59.lt
        clear hB55 x56 r57 t59
        clear p0 p1 p2 p3 pl pf q0 q1 q2 q3 ql qf t0 t1 t2 t3 tl tf ne_pq ne_qp ne_pt ne_tp ne_qt ne_tq
        clear o58 hn8
        obtain ⟨p0, p1, p2, p3, pl, pf⟩ := (⟨x62.cell 0, x62.cell 1, x62.cell 2, x62.cell 3, x62.lt, x62.frozen⟩ : _ ∧ _ ∧ _ ∧ _ ∧ _ ∧ _)
        obtain ⟨q0, q1, q2, q3, ql, qf⟩ := (⟨r63.cell 0, r63.cell 1, r63.cell 2, r63.cell 3, r63.lt, r63.frozen⟩ : _ ∧ _ ∧ _ ∧ _ ∧ _ ∧ _)
        obtain ⟨t0, t1, t2, t3, tl, tf⟩ := (⟨t64.cell 0, t64.cell 1, t64.cell 2, t64.cell 3, t64.lt, t64.frozen⟩ : _ ∧ _ ∧ _ ∧ _ ∧ _ ∧ _)
        have ne_pq : ¬ w.heap.size = w.heap.size + 1 := by omega
        have ne_qp : ¬ w.heap.size + 1 = w.heap.size := by omega
        have ne_pt : ¬ w.heap.size = w4.heap.size := by omega
        have ne_tp : ¬ w4.heap.size = w.heap.size := by omega
        have ne_qt : ¬ w.heap.size + 1 = w4.heap.size := by omega
        have ne_tq : ¬ w4.heap.size = w.heap.size + 1 := by omega
        have hB65 := below_put hB61 (grown_set w8 (w4.heap.size) 3 (.slice An8 L.length cn8)) (by omega) (by have := hB61.size; omega)
        have x66 := x62.past (grown_set w8 (w4.heap.size) 3 (.slice An8 L.length cn8)) (by omega)
        have r67 := r63.past (grown_set w8 (w4.heap.size) 3 (.slice An8 L.length cn8)) (by omega)
        have o68 := o60.past t64 (grown_set w8 (w4.heap.size) 3 (.slice An8 L.length cn8))
        have t69 : At (w8.setCell ⟨w4.heap.size, 3, none⟩ (.slice An8 L.length cn8)) (w4.heap.size) 30 #[.int .i64 p.mx, .slice B1 p.idle.length d1, .slice Ae (Y.length + 1) ce, .slice An8 L.length cn8] := by simpa using t64.set 3 (.slice An8 L.length cn8)
        clear hB61 x62 r63 o60 t64
        have hce := HWe.out _ (h.on hB65).wait
        have hxc : (w8.setCell ⟨w4.heap.size, 3, none⟩ (.slice An8 L.length cn8)).cell? ⟨w.heap.size, 3, none⟩ = some (.slice (some ⟨b, of, none⟩) p.wait.length c3) := x66.cell 3
        have hu0 : (w8.setCell ⟨w4.heap.size, 3, none⟩ (.slice An8 L.length cn8)).cell? ⟨w4.heap.size, 0, none⟩ = some (.int .i64 p.mx) := t69.cell 0
        have hu1 : (w8.setCell ⟨w4.heap.size, 3, none⟩ (.slice An8 L.length cn8)).cell? ⟨w4.heap.size, 1, none⟩ = some (.slice B1 p.idle.length d1) := t69.cell 1
        have hu2 : (w8.setCell ⟨w4.heap.size, 3, none⟩ (.slice An8 L.length cn8)).cell? ⟨w4.heap.size, 2, none⟩ = some (.slice Ae (Y.length + 1) ce) := t69.cell 2
        have hu3 : (w8.setCell ⟨w4.heap.size, 3, none⟩ (.slice An8 L.length cn8)).cell? ⟨w4.heap.size, 3, none⟩ = some (.slice An8 L.length cn8) := t69.cell 3
        have k1 := (⟨hxc, hce, hu0, hu1, hu2, hu3⟩ : (fun w' => w'.cell? ⟨w.heap.size, 3, none⟩ = some (.slice (some ⟨b, of, none⟩) p.wait.length c3) ∧ w'.cell? ⟨b, of, none⟩ = some (.int .i64 C) ∧ w'.cell? ⟨w4.heap.size, 0, none⟩ = some (.int .i64 p.mx) ∧ w'.cell? ⟨w4.heap.size, 1, none⟩ = some (.slice B1 p.idle.length d1) ∧ w'.cell? ⟨w4.heap.size, 2, none⟩ = some (.slice Ae (Y.length + 1) ce) ∧ w'.cell? ⟨w4.heap.size, 3, none⟩ = some (.slice An8 L.length cn8)) (w8.setCell ⟨w4.heap.size, 3, none⟩ (.slice An8 L.length cn8)))
        have k2 : (fun w' => w'.cell? ⟨w.heap.size, 3, none⟩ = some (.slice (some ⟨b, of, none⟩) p.wait.length c3) ∧ w'.cell? ⟨b, of, none⟩ = some (.int .i64 C) ∧ w'.cell? ⟨w4.heap.size, 0, none⟩ = some (.int .i64 p.mx) ∧ w'.cell? ⟨w4.heap.size, 1, none⟩ = some (.slice B1 p.idle.length d1) ∧ w'.cell? ⟨w4.heap.size, 2, none⟩ = some (.slice Ae (Y.length + 1) ce) ∧ w'.cell? ⟨w4.heap.size, 3, none⟩ = some (.slice An8 L.length cn8)) ((w8.setCell ⟨w4.heap.size, 3, none⟩ (.slice An8 L.length cn8)).drew) := k1
        have hB70 := below_put hB65 (grown_set (w8.setCell ⟨w4.heap.size, 3, none⟩ (.slice An8 L.length cn8)) (w.heap.size + 1) 0 (.int .i64 p.mx)) (by omega) (by have := hB65.size; omega)
        have x71 := x66.past (grown_set (w8.setCell ⟨w4.heap.size, 3, none⟩ (.slice An8 L.length cn8)) (w.heap.size + 1) 0 (.int .i64 p.mx)) (by omega)
        have t72 := t69.past (grown_set (w8.setCell ⟨w4.heap.size, 3, none⟩ (.slice An8 L.length cn8)) (w.heap.size + 1) 0 (.int .i64 p.mx)) (by omega)
        have o73 := o68.past r67 (grown_set (w8.setCell ⟨w4.heap.size, 3, none⟩ (.slice An8 L.length cn8)) (w.heap.size + 1) 0 (.int .i64 p.mx))
        have r74 : At ((w8.setCell ⟨w4.heap.size, 3, none⟩ (.slice An8 L.length cn8)).setCell ⟨w.heap.size + 1, 0, none⟩ (.int .i64 p.mx)) (w.heap.size + 1) 30 #[.int .i64 p.mx, .slice none 0 0, .slice none 0 0, .slice none 0 0] := by simpa using r67.set 0 (.int .i64 p.mx)
        clear hB65 x66 t69 o68 r67
        have hB75 := below_put hB70 (grown_set ((w8.setCell ⟨w4.heap.size, 3, none⟩ (.slice An8 L.length cn8)).setCell ⟨w.heap.size + 1, 0, none⟩ (.int .i64 p.mx)) (w.heap.size + 1) 1 (.slice B1 p.idle.length d1)) (by omega) (by have := hB70.size; omega)
        have x76 := x71.past (grown_set ((w8.setCell ⟨w4.heap.size, 3, none⟩ (.slice An8 L.length cn8)).setCell ⟨w.heap.size + 1, 0, none⟩ (.int .i64 p.mx)) (w.heap.size + 1) 1 (.slice B1 p.idle.length d1)) (by omega)
        have t77 := t72.past (grown_set ((w8.setCell ⟨w4.heap.size, 3, none⟩ (.slice An8 L.length cn8)).setCell ⟨w.heap.size + 1, 0, none⟩ (.int .i64 p.mx)) (w.heap.size + 1) 1 (.slice B1 p.idle.length d1)) (by omega)
        have o78 := o73.past r74 (grown_set ((w8.setCell ⟨w4.heap.size, 3, none⟩ (.slice An8 L.length cn8)).setCell ⟨w.heap.size + 1, 0, none⟩ (.int .i64 p.mx)) (w.heap.size + 1) 1 (.slice B1 p.idle.length d1))
        have r79 : At (((w8.setCell ⟨w4.heap.size, 3, none⟩ (.slice An8 L.length cn8)).setCell ⟨w.heap.size + 1, 0, none⟩ (.int .i64 p.mx)).setCell ⟨w.heap.size + 1, 1, none⟩ (.slice B1 p.idle.length d1)) (w.heap.size + 1) 30 #[.int .i64 p.mx, .slice B1 p.idle.length d1, .slice none 0 0, .slice none 0 0] := by simpa using r74.set 1 (.slice B1 p.idle.length d1)
        clear hB70 x71 t72 o73 r74
        have hB80 := below_put hB75 (grown_set (((w8.setCell ⟨w4.heap.size, 3, none⟩ (.slice An8 L.length cn8)).setCell ⟨w.heap.size + 1, 0, none⟩ (.int .i64 p.mx)).setCell ⟨w.heap.size + 1, 1, none⟩ (.slice B1 p.idle.length d1)) (w.heap.size + 1) 2 (.slice Ae (Y.length + 1) ce)) (by omega) (by have := hB75.size; omega)
        have x81 := x76.past (grown_set (((w8.setCell ⟨w4.heap.size, 3, none⟩ (.slice An8 L.length cn8)).setCell ⟨w.heap.size + 1, 0, none⟩ (.int .i64 p.mx)).setCell ⟨w.heap.size + 1, 1, none⟩ (.slice B1 p.idle.length d1)) (w.heap.size + 1) 2 (.slice Ae (Y.length + 1) ce)) (by omega)
        have t82 := t77.past (grown_set (((w8.setCell ⟨w4.heap.size, 3, none⟩ (.slice An8 L.length cn8)).setCell ⟨w.heap.size + 1, 0, none⟩ (.int .i64 p.mx)).setCell ⟨w.heap.size + 1, 1, none⟩ (.slice B1 p.idle.length d1)) (w.heap.size + 1) 2 (.slice Ae (Y.length + 1) ce)) (by omega)
        have o83 := o78.past r79 (grown_set (((w8.setCell ⟨w4.heap.size, 3, none⟩ (.slice An8 L.length cn8)).setCell ⟨w.heap.size + 1, 0, none⟩ (.int .i64 p.mx)).setCell ⟨w.heap.size + 1, 1, none⟩ (.slice B1 p.idle.length d1)) (w.heap.size + 1) 2 (.slice Ae (Y.length + 1) ce))
        have r84 : At ((((w8.setCell ⟨w4.heap.size, 3, none⟩ (.slice An8 L.length cn8)).setCell ⟨w.heap.size + 1, 0, none⟩ (.int .i64 p.mx)).setCell ⟨w.heap.size + 1, 1, none⟩ (.slice B1 p.idle.length d1)).setCell ⟨w.heap.size + 1, 2, none⟩ (.slice Ae (Y.length + 1) ce)) (w.heap.size + 1) 30 #[.int .i64 p.mx, .slice B1 p.idle.length d1, .slice Ae (Y.length + 1) ce, .slice none 0 0] := by simpa using r79.set 2 (.slice Ae (Y.length + 1) ce)
        clear hB75 x76 t77 o78 r79
        have hB85 := below_put hB80 (grown_set ((((w8.setCell ⟨w4.heap.size, 3, none⟩ (.slice An8 L.length cn8)).setCell ⟨w.heap.size + 1, 0, none⟩ (.int .i64 p.mx)).setCell ⟨w.heap.size + 1, 1, none⟩ (.slice B1 p.idle.length d1)).setCell ⟨w.heap.size + 1, 2, none⟩ (.slice Ae (Y.length + 1) ce)) (w.heap.size + 1) 3 (.slice An8 L.length cn8)) (by omega) (by have := hB80.size; omega)
        have x86 := x81.past (grown_set ((((w8.setCell ⟨w4.heap.size, 3, none⟩ (.slice An8 L.length cn8)).setCell ⟨w.heap.size + 1, 0, none⟩ (.int .i64 p.mx)).setCell ⟨w.heap.size + 1, 1, none⟩ (.slice B1 p.idle.length d1)).setCell ⟨w.heap.size + 1, 2, none⟩ (.slice Ae (Y.length + 1) ce)) (w.heap.size + 1) 3 (.slice An8 L.length cn8)) (by omega)
        have t87 := t82.past (grown_set ((((w8.setCell ⟨w4.heap.size, 3, none⟩ (.slice An8 L.length cn8)).setCell ⟨w.heap.size + 1, 0, none⟩ (.int .i64 p.mx)).setCell ⟨w.heap.size + 1, 1, none⟩ (.slice B1 p.idle.length d1)).setCell ⟨w.heap.size + 1, 2, none⟩ (.slice Ae (Y.length + 1) ce)) (w.heap.size + 1) 3 (.slice An8 L.length cn8)) (by omega)
        have o88 := o83.past r84 (grown_set ((((w8.setCell ⟨w4.heap.size, 3, none⟩ (.slice An8 L.length cn8)).setCell ⟨w.heap.size + 1, 0, none⟩ (.int .i64 p.mx)).setCell ⟨w.heap.size + 1, 1, none⟩ (.slice B1 p.idle.length d1)).setCell ⟨w.heap.size + 1, 2, none⟩ (.slice Ae (Y.length + 1) ce)) (w.heap.size + 1) 3 (.slice An8 L.length cn8))
        have r89 : At (((((w8.setCell ⟨w4.heap.size, 3, none⟩ (.slice An8 L.length cn8)).setCell ⟨w.heap.size + 1, 0, none⟩ (.int .i64 p.mx)).setCell ⟨w.heap.size + 1, 1, none⟩ (.slice B1 p.idle.length d1)).setCell ⟨w.heap.size + 1, 2, none⟩ (.slice Ae (Y.length + 1) ce)).setCell ⟨w.heap.size + 1, 3, none⟩ (.slice An8 L.length cn8)) (w.heap.size + 1) 30 #[.int .i64 p.mx, .slice B1 p.idle.length d1, .slice Ae (Y.length + 1) ce, .slice An8 L.length cn8] := by simpa using r84.set 3 (.slice An8 L.length cn8)
        clear hB80 x81 t82 o83 r84
        have x90 := x86.drew
        clear x86
        have r91 := r89.drew
        clear r89
        have t92 := t87.drew
        clear t87
        have o93 := o88.drew
        clear o88
        have hB94 := hB85.drew
        clear hB85
        have k3 : (fun w' => w'.cell? ⟨w.heap.size, 3, none⟩ = some (.slice (some ⟨b, of, none⟩) p.wait.length c3) ∧ w'.cell? ⟨b, of, none⟩ = some (.int .i64 C) ∧ w'.cell? ⟨w4.heap.size, 0, none⟩ = some (.int .i64 p.mx) ∧ w'.cell? ⟨w4.heap.size, 1, none⟩ = some (.slice B1 p.idle.length d1) ∧ w'.cell? ⟨w4.heap.size, 2, none⟩ = some (.slice Ae (Y.length + 1) ce) ∧ w'.cell? ⟨w4.heap.size, 3, none⟩ = some (.slice An8 L.length cn8)) ((((((w8.setCell ⟨w4.heap.size, 3, none⟩ (.slice An8 L.length cn8)).setCell ⟨w.heap.size + 1, 0, none⟩ (.int .i64 p.mx)).setCell ⟨w.heap.size + 1, 1, none⟩ (.slice B1 p.idle.length d1)).setCell ⟨w.heap.size + 1, 2, none⟩ (.slice Ae (Y.length + 1) ce)).setCell ⟨w.heap.size + 1, 3, none⟩ (.slice An8 L.length cn8)).drew) := ⟨x90.cell 3, HWe.out _ (h.on hB94).wait, t92.cell 0, t92.cell 1, t92.cell 2, t92.cell 3⟩
        have K1 := hid k1
        have K2 := hid k2
        have K3 := hid k3
        clear k1 k2 k3
        go_wp2_with fail
        go_region_held3 (fun w' => w'.cell? ⟨w.heap.size, 3, none⟩ = some (.slice (some ⟨b, of, none⟩) p.wait.length c3) ∧ w'.cell? ⟨b, of, none⟩ = some (.int .i64 C) ∧ w'.cell? ⟨w4.heap.size, 0, none⟩ = some (.int .i64 p.mx) ∧ w'.cell? ⟨w4.heap.size, 1, none⟩ = some (.slice B1 p.idle.length d1) ∧ w'.cell? ⟨w4.heap.size, 2, none⟩ = some (.slice Ae (Y.length + 1) ce) ∧ w'.cell? ⟨w4.heap.size, 3, none⟩ = some (.slice An8 L.length cn8))
          (first | with_reducible exact K1.out | with_reducible exact K2.out | with_reducible exact K3.out | go_keep)
          (fail)
        go_wp2
        refine bodyPost_ret (v := .tuple #[.agg #[.int .i64 p.mx, .slice B1 p.idle.length d1, .slice Ae (Y.length + 1) ce, .slice An8 L.length cn8], .int .i64 C, .bool true]) (by simp [results, Try.results87, go_sem, r91.cell]) rfl ?_
        rw [E1.out, E2.out, EB.out, HWO.out]
        exact ⟨B1, Ae, An8, d1, ce, cn8, by simp [List.length_append], (by simpa [List.length_append] using o93.mono (show w.heap.size ≤ w.heap.size + 2 by omega)), hB94⟩
    · skip
      have hkc2 : ¬ K = c2 := fun e => hkc e.symm
      obtain ⟨X, hX⟩ : ∃ X, X = Y ++ D := ⟨_, rfl⟩
      rw [← hX] at HWO
      have HXl := hid (show X.length = Y.length + (p.held.length - K) by rw [hX, List.length_append, HDl.out])
      have HXs := hid (show strip hcells Y ++ strip hcells D = strip hcells X by rw [hX, strip_app])
      have HXb := hid (show X.length ≤ 6 by rw [HXl.out]; have := HKY.out; omega)
      clear hX
      go_wp2_with fail
      refine wp_region_still_tail 7 (by kernel_rfl) (by kernel_rfl) ?_
      simp only [List.take_succ_cons, List.take_zero, List.drop_succ_cons, List.drop_zero]
      change wpStill _ _ (World.drew (w5.setCell ⟨w4.heap.size, 2, none⟩ (.slice An5 Y.length cn5))) (fun a' => wpList _ _ _ _ a' (World.drew (w5.setCell ⟨w4.heap.size, 2, none⟩ (.slice An5 Y.length cn5)))) _ _
      have sz6 : w5.heap.size ≤ (World.drew (w5.setCell ⟨w4.heap.size, 2, none⟩ (.slice An5 Y.length cn5))).heap.size := by first | exact Nat.le_refl _ | (simp; done)
      have hB95 := hB30.drew
      clear hB30
      have x96 := x31.drew
      clear x31
      have r97 := r32.drew
      clear r32
      have t98 := t34.drew
      clear t34
      have o99 := o33.drew
      clear o33
      obtain ⟨w6, hwz⟩ : ∃ w6, w6 = World.drew (w5.setCell ⟨w4.heap.size, 2, none⟩ (.slice An5 Y.length cn5)) := ⟨_, rfl⟩
      rw [← hwz] at sz6 hB95 x96 r97 t98 o99 ⊢
      clear hwz
      clear p0 p1 p2 p3 pl pf q0 q1 q2 q3 ql qf t0 t1 t2 t3 tl tf ne_pq ne_qp ne_pt ne_tp ne_qt ne_tq
      obtain ⟨p0, p1, p2, p3, pl, pf⟩ := (⟨x96.cell 0, x96.cell 1, x96.cell 2, x96.cell 3, x96.lt, x96.frozen⟩ : _ ∧ _ ∧ _ ∧ _ ∧ _ ∧ _)
      obtain ⟨q0, q1, q2, q3, ql, qf⟩ := (⟨r97.cell 0, r97.cell 1, r97.cell 2, r97.cell 3, r97.lt, r97.frozen⟩ : _ ∧ _ ∧ _ ∧ _ ∧ _ ∧ _)
      obtain ⟨t0, t1, t2, t3, tl, tf⟩ := (⟨t98.cell 0, t98.cell 1, t98.cell 2, t98.cell 3, t98.lt, t98.frozen⟩ : _ ∧ _ ∧ _ ∧ _ ∧ _ ∧ _)
      have ne_pq : ¬ w.heap.size = w.heap.size + 1 := by omega
      have ne_qp : ¬ w.heap.size + 1 = w.heap.size := by omega
      have ne_pt : ¬ w.heap.size = w4.heap.size := by omega
      have ne_tp : ¬ w4.heap.size = w.heap.size := by omega
      have ne_qt : ¬ w.heap.size + 1 = w4.heap.size := by omega
      have ne_tq : ¬ w4.heap.size = w.heap.size + 1 := by omega
      repeat still_step
      refine wpStill_nil ?_
      have hown := o99.2.1.out
      have hlow := o99.low.2.1
      have hsd := HSl.out _ (h.on hB95).held
      go_wp2_with (at_builtin; refine wpList_append_own_at _ rfl _ _ 28 rfl (w.heap.size + 2) 91 ih0 (.agg #[.int .i64 0, .int .i64 0]) 2 16 Try.underlying28 hih0 hzh0 hzh1 hzh2 rfl (by decide) _ _ _ rfl hown ⟨b2, of2 + K * 2, none⟩ (p.held.length - K) (c2 - K) (strip hcells D) (by rfl) ?f1 ?fn ?f2 ?f3 ?f4 ?f5 ?_)
      case f1 => rw [strip_len hcells_len, HDl.out]
      case fn => intro j u hu; have := hsd.add j u hu; rwa [add_plain] at this
      case f2 => exact hcells_one _
      case f3 => unfold maxLen; omega
      case f4 => omega
      case f5 => first | omega | (simp; omega) | (simp; done)
      case _ =>
        intro va w7 hd hgd _ hatd
        obtain ⟨Ad, cd, rfl, _, _⟩ := own_form hd
        have sz7 : w6.heap.size ≤ w7.heap.size := Nat.le_trans (by first | exact Nat.le_refl _ | (simp; done) | (simp; omega)) (hgd.size)
        have x100 := x96.beside hown (by decide) hgd
        clear x96
        have r101 := r97.beside hown (by decide) hgd
        clear r97
        have t102 := t98.beside hown (by decide) hgd
        clear t98
        have hB103 := hB95.grown hgd hB95.size (fun q hq => Nat.le_trans (by omega) (hlow q hq))
        clear hB95
        have o104 := o99.moreHeld HXl.out HXs.out hd hgd hatd
        clear o99 hd hgd hatd hown hlow hsd
        clear p0 p1 p2 p3 pl pf q0 q1 q2 q3 ql qf t0 t1 t2 t3 tl tf ne_pq ne_qp ne_pt ne_tp ne_qt ne_tq
        obtain ⟨p0, p1, p2, p3, pl, pf⟩ := (⟨x100.cell 0, x100.cell 1, x100.cell 2, x100.cell 3, x100.lt, x100.frozen⟩ : _ ∧ _ ∧ _ ∧ _ ∧ _ ∧ _)
        obtain ⟨q0, q1, q2, q3, ql, qf⟩ := (⟨r101.cell 0, r101.cell 1, r101.cell 2, r101.cell 3, r101.lt, r101.frozen⟩ : _ ∧ _ ∧ _ ∧ _ ∧ _ ∧ _)
        obtain ⟨t0, t1, t2, t3, tl, tf⟩ := (⟨t102.cell 0, t102.cell 1, t102.cell 2, t102.cell 3, t102.lt, t102.frozen⟩ : _ ∧ _ ∧ _ ∧ _ ∧ _ ∧ _)
        have ne_pq : ¬ w.heap.size = w.heap.size + 1 := by omega
        have ne_qp : ¬ w.heap.size + 1 = w.heap.size := by omega
        have ne_pt : ¬ w.heap.size = w4.heap.size := by omega
        have ne_tp : ¬ w4.heap.size = w.heap.size := by omega
        have ne_qt : ¬ w.heap.size + 1 = w4.heap.size := by omega
        have ne_tq : ¬ w4.heap.size = w.heap.size + 1 := by omega
        have hB105 := below_put hB103 (grown_set w7 (w4.heap.size) 2 (.slice Ad (Y.length + (p.held.length - K)) cd)) (by omega) (by have := hB103.size; omega)
        have x106 := x100.past (grown_set w7 (w4.heap.size) 2 (.slice Ad (Y.length + (p.held.length - K)) cd)) (by omega)
        have r107 := r101.past (grown_set w7 (w4.heap.size) 2 (.slice Ad (Y.length + (p.held.length - K)) cd)) (by omega)
        have o108 := o104.past t102 (grown_set w7 (w4.heap.size) 2 (.slice Ad (Y.length + (p.held.length - K)) cd))
        have t109 : At (w7.setCell ⟨w4.heap.size, 2, none⟩ (.slice Ad (Y.length + (p.held.length - K)) cd)) (w4.heap.size) 30 #[.int .i64 p.mx, .slice B1 p.idle.length d1, .slice Ad (Y.length + (p.held.length - K)) cd, .slice B3 p.wait.length d3] := by simpa using t102.set 2 (.slice Ad (Y.length + (p.held.length - K)) cd)
        clear hB103 x100 r101 o104 t102
        rw [← HXl.out] at hB105 x106 r107 t109 o108 ⊢
        have hI0 : 0 < p.wait.length := HI.out
        have neb1 : ¬ w4.heap.size = b := by omega
        have neb2 : ¬ b = w4.heap.size := by omega
        have neb3 : ¬ w.heap.size + 1 = b := by omega
        have neb4 : ¬ b = w.heap.size + 1 := by omega
        go_upto_region 10 with fail
        go_cut [] from 51 to 61 (fun wx => ∃ (we : World) (Ae : Option Addr) (ce : Nat), wx = we.setCell ⟨w4.heap.size, 2, none⟩ (.slice Ae (X.length + 1) ce) ∧ At we w.heap.size 30 #[.int .i64 p.mx, .slice A1 p.idle.length c1, .slice (some ⟨b2, of2, none⟩) p.held.length c2, .slice (some ⟨b, of, none⟩) p.wait.length c3] ∧ At we (w.heap.size + 1) 30 #[.int .i64 0, .slice none 0 0, .slice none 0 0, .slice none 0 0] ∧ At we (w4.heap.size) 30 #[.int .i64 p.mx, .slice B1 p.idle.length d1, .slice Ad X.length cd, .slice B3 p.wait.length d3] ∧ OwnP we (w.heap.size + 2) B1 Ae B3 d1 ce d3 ⟨p.mx, p.idle, X ++ [⟨o, C⟩], p.wait⟩ ∧ Below w.heap.size w we ∧ w7.heap.size ≤ we.heap.size)
        case first =>
          have hcd := HWe.out _ (h.on hB105.drew).wait
          have dx := x106.drew.cell
          have dt := t109.drew.cell
          have hown := (o108.alloc (.cells #[.int .i64 o, .int .i64 C] 91)).drew.2.1.out
          have hlow := o108.low.2.1
          have hnew := (At.newAt 91 #[.int .i64 o, .int .i64 C] rfl : At ((w7.setCell ⟨w4.heap.size, 2, none⟩ (.slice Ad X.length cd)).alloc (.cells #[.int .i64 o, .int .i64 C] 91)) (w7.setCell ⟨w4.heap.size, 2, none⟩ (.slice Ad X.length cd)).heap.size 91 #[.int .i64 o, .int .i64 C]).drew.news (cs := [.int .i64 o, .int .i64 C])
          simp only [World.size_setCell] at hnew
          go_region_law (first
            | (refine step_append_own_at _ (by rfl) _ _ 28 (by rfl) (w.heap.size + 2) 91 ih0 (.agg #[.int .i64 0, .int .i64 0]) 2 16 Try.underlying28 hih0 hzh0 hzh1 hzh2 rfl (by decide) (.slice Ad X.length cd) X.length _ (by rfl) hown ⟨w7.heap.size, 0, none⟩ 1 1 [.int .i64 o, .int .i64 C] (by rfl) (by rfl) hnew (by simp [Value.oneCell']) (by have := HXb.out; unfold maxLen; omega) (by have := HXb.out; omega) (by first | omega | (simp; omega)) ?_; intro ve we he heg hate; obtain ⟨Ae, ce, rfl, _, _⟩ := own_form he; have xe := At.beside (x106.alloc (.cells #[.int .i64 o, .int .i64 C] 91)).drew hown (by decide) heg; have re := At.beside (r107.alloc (.cells #[.int .i64 o, .int .i64 C] 91)).drew hown (by decide) heg; have te := At.beside (t109.alloc (.cells #[.int .i64 o, .int .i64 C] 91)).drew hown (by decide) heg; have be := (hB105.alloc hB105.size (.cells #[.int .i64 o, .int .i64 C] 91)).drew.grown heg (hB105.alloc hB105.size (.cells #[.int .i64 o, .int .i64 C] 91)).drew.size (fun q hq => Nat.le_trans (by omega) (hlow q hq)); have tc := te.cell; have tf := te.frozen)
            | fail)
          all_goals
            have oe := (o108.alloc (.cells #[.int .i64 o, .int .i64 C] 91)).drew.moreHeld (X := X ++ [⟨o, C⟩]) (m := X.length + 1) (by rw [List.length_append]; rfl) (strip_snoc _ _).symm he heg hate
            have se := heg.size
            go_wp2_with fail
            go_meet
            exact ⟨we, Ae, ce, rfl, xe, re, te, oe, be, by simp at se; omega⟩
        case rest =>
        obtain ⟨we, Ae, ce, rfl, xe, re, te, oe, be, sze⟩ := hcut
        have x110 := xe
        clear xe x106
        have r111 := re
        clear re r107
        have t112 := te
        clear te t109
        have hB113 := be
        clear be hB105
        have o114 := oe
        clear oe o108
        clear p0 p1 p2 p3 pl pf q0 q1 q2 q3 ql qf t0 t1 t2 t3 tl tf ne_pq ne_qp ne_pt ne_tp ne_qt ne_tq
        obtain ⟨p0, p1, p2, p3, pl, pf⟩ := (⟨x110.cell 0, x110.cell 1, x110.cell 2, x110.cell 3, x110.lt, x110.frozen⟩ : _ ∧ _ ∧ _ ∧ _ ∧ _ ∧ _)
        obtain ⟨q0, q1, q2, q3, ql, qf⟩ := (⟨r111.cell 0, r111.cell 1, r111.cell 2, r111.cell 3, r111.lt, r111.frozen⟩ : _ ∧ _ ∧ _ ∧ _ ∧ _ ∧ _)
        obtain ⟨t0, t1, t2, t3, tl, tf⟩ := (⟨t112.cell 0, t112.cell 1, t112.cell 2, t112.cell 3, t112.lt, t112.frozen⟩ : _ ∧ _ ∧ _ ∧ _ ∧ _ ∧ _)
        have ne_pq : ¬ w.heap.size = w.heap.size + 1 := by omega
        have ne_qp : ¬ w.heap.size + 1 = w.heap.size := by omega
        have ne_pt : ¬ w.heap.size = w4.heap.size := by omega
        have ne_tp : ¬ w4.heap.size = w.heap.size := by omega
        have ne_qt : ¬ w.heap.size + 1 = w4.heap.size := by omega
        have ne_tq : ¬ w4.heap.size = w.heap.size + 1 := by omega
        have hB115 := below_put hB113 (grown_set we (w4.heap.size) 2 (.slice Ae (X.length + 1) ce)) (by omega) (by have := hB113.size; omega)
        have x116 := x110.past (grown_set we (w4.heap.size) 2 (.slice Ae (X.length + 1) ce)) (by omega)
        have r117 := r111.past (grown_set we (w4.heap.size) 2 (.slice Ae (X.length + 1) ce)) (by omega)
        have o118 := o114.past t112 (grown_set we (w4.heap.size) 2 (.slice Ae (X.length + 1) ce))
        have t119 : At (we.setCell ⟨w4.heap.size, 2, none⟩ (.slice Ae (X.length + 1) ce)) (w4.heap.size) 30 #[.int .i64 p.mx, .slice B1 p.idle.length d1, .slice Ae (X.length + 1) ce, .slice B3 p.wait.length d3] := by simpa using t112.set 2 (.slice Ae (X.length + 1) ce)
        clear hB113 x110 r111 o114 t112
        go_wp2_with fail
        with_reducible refine (copyInts_len HL.out (HSl2.out _ (h.on hB115).wait) HLn.out).mono ?_
        rintro e w8 ⟨v8, rfl, hn8, hb8⟩
        obtain ⟨An8, cn8, rfl, _⟩ := hn8.form
        have sz8 : we.heap.size ≤ w8.heap.size := Nat.le_trans (by first | exact Nat.le_refl _ | (simp; done) | (simp; omega)) (hb8.size)
        have o120 := o118.newWait (by first | omega | (simp; omega) | (simp; done)) hn8 hb8
        have hB121 := hB115.trans (hb8.mono hB115.size)
        have x122 := x116.below hb8 x116.lt
        have r123 := r117.below hb8 r117.lt
        have t124 := t119.below hb8 t119.lt
        clear hB115 x116 r117 t119
        clear p0 p1 p2 p3 pl pf q0 q1 q2 q3 ql qf t0 t1 t2 t3 tl tf ne_pq ne_qp ne_pt ne_tp ne_qt ne_tq
        clear o118 hn8
        obtain ⟨p0, p1, p2, p3, pl, pf⟩ := (⟨x122.cell 0, x122.cell 1, x122.cell 2, x122.cell 3, x122.lt, x122.frozen⟩ : _ ∧ _ ∧ _ ∧ _ ∧ _ ∧ _)
        obtain ⟨q0, q1, q2, q3, ql, qf⟩ := (⟨r123.cell 0, r123.cell 1, r123.cell 2, r123.cell 3, r123.lt, r123.frozen⟩ : _ ∧ _ ∧ _ ∧ _ ∧ _ ∧ _)
        obtain ⟨t0, t1, t2, t3, tl, tf⟩ := (⟨t124.cell 0, t124.cell 1, t124.cell 2, t124.cell 3, t124.lt, t124.frozen⟩ : _ ∧ _ ∧ _ ∧ _ ∧ _ ∧ _)
        have ne_pq : ¬ w.heap.size = w.heap.size + 1 := by omega
        have ne_qp : ¬ w.heap.size + 1 = w.heap.size := by omega
        have ne_pt : ¬ w.heap.size = w4.heap.size := by omega
        have ne_tp : ¬ w4.heap.size = w.heap.size := by omega
        have ne_qt : ¬ w.heap.size + 1 = w4.heap.size := by omega
        have ne_tq : ¬ w4.heap.size = w.heap.size + 1 := by omega
        have hB125 := below_put hB121 (grown_set w8 (w4.heap.size) 3 (.slice An8 L.length cn8)) (by omega) (by have := hB121.size; omega)
        have x126 := x122.past (grown_set w8 (w4.heap.size) 3 (.slice An8 L.length cn8)) (by omega)
        have r127 := r123.past (grown_set w8 (w4.heap.size) 3 (.slice An8 L.length cn8)) (by omega)
        have o128 := o120.past t124 (grown_set w8 (w4.heap.size) 3 (.slice An8 L.length cn8))
        have t129 : At (w8.setCell ⟨w4.heap.size, 3, none⟩ (.slice An8 L.length cn8)) (w4.heap.size) 30 #[.int .i64 p.mx, .slice B1 p.idle.length d1, .slice Ae (X.length + 1) ce, .slice An8 L.length cn8] := by simpa using t124.set 3 (.slice An8 L.length cn8)
        clear hB121 x122 r123 o120 t124
        have hce := HWe.out _ (h.on hB125).wait
        have hxc : (w8.setCell ⟨w4.heap.size, 3, none⟩ (.slice An8 L.length cn8)).cell? ⟨w.heap.size, 3, none⟩ = some (.slice (some ⟨b, of, none⟩) p.wait.length c3) := x126.cell 3
        have hu0 : (w8.setCell ⟨w4.heap.size, 3, none⟩ (.slice An8 L.length cn8)).cell? ⟨w4.heap.size, 0, none⟩ = some (.int .i64 p.mx) := t129.cell 0
        have hu1 : (w8.setCell ⟨w4.heap.size, 3, none⟩ (.slice An8 L.length cn8)).cell? ⟨w4.heap.size, 1, none⟩ = some (.slice B1 p.idle.length d1) := t129.cell 1
        have hu2 : (w8.setCell ⟨w4.heap.size, 3, none⟩ (.slice An8 L.length cn8)).cell? ⟨w4.heap.size, 2, none⟩ = some (.slice Ae (X.length + 1) ce) := t129.cell 2
        have hu3 : (w8.setCell ⟨w4.heap.size, 3, none⟩ (.slice An8 L.length cn8)).cell? ⟨w4.heap.size, 3, none⟩ = some (.slice An8 L.length cn8) := t129.cell 3
        have k1 := (⟨hxc, hce, hu0, hu1, hu2, hu3⟩ : (fun w' => w'.cell? ⟨w.heap.size, 3, none⟩ = some (.slice (some ⟨b, of, none⟩) p.wait.length c3) ∧ w'.cell? ⟨b, of, none⟩ = some (.int .i64 C) ∧ w'.cell? ⟨w4.heap.size, 0, none⟩ = some (.int .i64 p.mx) ∧ w'.cell? ⟨w4.heap.size, 1, none⟩ = some (.slice B1 p.idle.length d1) ∧ w'.cell? ⟨w4.heap.size, 2, none⟩ = some (.slice Ae (X.length + 1) ce) ∧ w'.cell? ⟨w4.heap.size, 3, none⟩ = some (.slice An8 L.length cn8)) (w8.setCell ⟨w4.heap.size, 3, none⟩ (.slice An8 L.length cn8)))
        have k2 : (fun w' => w'.cell? ⟨w.heap.size, 3, none⟩ = some (.slice (some ⟨b, of, none⟩) p.wait.length c3) ∧ w'.cell? ⟨b, of, none⟩ = some (.int .i64 C) ∧ w'.cell? ⟨w4.heap.size, 0, none⟩ = some (.int .i64 p.mx) ∧ w'.cell? ⟨w4.heap.size, 1, none⟩ = some (.slice B1 p.idle.length d1) ∧ w'.cell? ⟨w4.heap.size, 2, none⟩ = some (.slice Ae (X.length + 1) ce) ∧ w'.cell? ⟨w4.heap.size, 3, none⟩ = some (.slice An8 L.length cn8)) ((w8.setCell ⟨w4.heap.size, 3, none⟩ (.slice An8 L.length cn8)).drew) := k1
        have hB130 := below_put hB125 (grown_set (w8.setCell ⟨w4.heap.size, 3, none⟩ (.slice An8 L.length cn8)) (w.heap.size + 1) 0 (.int .i64 p.mx)) (by omega) (by have := hB125.size; omega)
        have x131 := x126.past (grown_set (w8.setCell ⟨w4.heap.size, 3, none⟩ (.slice An8 L.length cn8)) (w.heap.size + 1) 0 (.int .i64 p.mx)) (by omega)
        have t132 := t129.past (grown_set (w8.setCell ⟨w4.heap.size, 3, none⟩ (.slice An8 L.length cn8)) (w.heap.size + 1) 0 (.int .i64 p.mx)) (by omega)
        have o133 := o128.past r127 (grown_set (w8.setCell ⟨w4.heap.size, 3, none⟩ (.slice An8 L.length cn8)) (w.heap.size + 1) 0 (.int .i64 p.mx))
        have r134 : At ((w8.setCell ⟨w4.heap.size, 3, none⟩ (.slice An8 L.length cn8)).setCell ⟨w.heap.size + 1, 0, none⟩ (.int .i64 p.mx)) (w.heap.size + 1) 30 #[.int .i64 p.mx, .slice none 0 0, .slice none 0 0, .slice none 0 0] := by simpa using r127.set 0 (.int .i64 p.mx)
        clear hB125 x126 t129 o128 r127
        have hB135 := below_put hB130 (grown_set ((w8.setCell ⟨w4.heap.size, 3, none⟩ (.slice An8 L.length cn8)).setCell ⟨w.heap.size + 1, 0, none⟩ (.int .i64 p.mx)) (w.heap.size + 1) 1 (.slice B1 p.idle.length d1)) (by omega) (by have := hB130.size; omega)
        have x136 := x131.past (grown_set ((w8.setCell ⟨w4.heap.size, 3, none⟩ (.slice An8 L.length cn8)).setCell ⟨w.heap.size + 1, 0, none⟩ (.int .i64 p.mx)) (w.heap.size + 1) 1 (.slice B1 p.idle.length d1)) (by omega)
        have t137 := t132.past (grown_set ((w8.setCell ⟨w4.heap.size, 3, none⟩ (.slice An8 L.length cn8)).setCell ⟨w.heap.size + 1, 0, none⟩ (.int .i64 p.mx)) (w.heap.size + 1) 1 (.slice B1 p.idle.length d1)) (by omega)
        have o138 := o133.past r134 (grown_set ((w8.setCell ⟨w4.heap.size, 3, none⟩ (.slice An8 L.length cn8)).setCell ⟨w.heap.size + 1, 0, none⟩ (.int .i64 p.mx)) (w.heap.size + 1) 1 (.slice B1 p.idle.length d1))
        have r139 : At (((w8.setCell ⟨w4.heap.size, 3, none⟩ (.slice An8 L.length cn8)).setCell ⟨w.heap.size + 1, 0, none⟩ (.int .i64 p.mx)).setCell ⟨w.heap.size + 1, 1, none⟩ (.slice B1 p.idle.length d1)) (w.heap.size + 1) 30 #[.int .i64 p.mx, .slice B1 p.idle.length d1, .slice none 0 0, .slice none 0 0] := by simpa using r134.set 1 (.slice B1 p.idle.length d1)
        clear hB130 x131 t132 o133 r134
        have hB140 := below_put hB135 (grown_set (((w8.setCell ⟨w4.heap.size, 3, none⟩ (.slice An8 L.length cn8)).setCell ⟨w.heap.size + 1, 0, none⟩ (.int .i64 p.mx)).setCell ⟨w.heap.size + 1, 1, none⟩ (.slice B1 p.idle.length d1)) (w.heap.size + 1) 2 (.slice Ae (X.length + 1) ce)) (by omega) (by have := hB135.size; omega)
        have x141 := x136.past (grown_set (((w8.setCell ⟨w4.heap.size, 3, none⟩ (.slice An8 L.length cn8)).setCell ⟨w.heap.size + 1, 0, none⟩ (.int .i64 p.mx)).setCell ⟨w.heap.size + 1, 1, none⟩ (.slice B1 p.idle.length d1)) (w.heap.size + 1) 2 (.slice Ae (X.length + 1) ce)) (by omega)
        have t142 := t137.past (grown_set (((w8.setCell ⟨w4.heap.size, 3, none⟩ (.slice An8 L.length cn8)).setCell ⟨w.heap.size + 1, 0, none⟩ (.int .i64 p.mx)).setCell ⟨w.heap.size + 1, 1, none⟩ (.slice B1 p.idle.length d1)) (w.heap.size + 1) 2 (.slice Ae (X.length + 1) ce)) (by omega)
        have o143 := o138.past r139 (grown_set (((w8.setCell ⟨w4.heap.size, 3, none⟩ (.slice An8 L.length cn8)).setCell ⟨w.heap.size + 1, 0, none⟩ (.int .i64 p.mx)).setCell ⟨w.heap.size + 1, 1, none⟩ (.slice B1 p.idle.length d1)) (w.heap.size + 1) 2 (.slice Ae (X.length + 1) ce))
        have r144 : At ((((w8.setCell ⟨w4.heap.size, 3, none⟩ (.slice An8 L.length cn8)).setCell ⟨w.heap.size + 1, 0, none⟩ (.int .i64 p.mx)).setCell ⟨w.heap.size + 1, 1, none⟩ (.slice B1 p.idle.length d1)).setCell ⟨w.heap.size + 1, 2, none⟩ (.slice Ae (X.length + 1) ce)) (w.heap.size + 1) 30 #[.int .i64 p.mx, .slice B1 p.idle.length d1, .slice Ae (X.length + 1) ce, .slice none 0 0] := by simpa using r139.set 2 (.slice Ae (X.length + 1) ce)
        clear hB135 x136 t137 o138 r139
        have hB145 := below_put hB140 (grown_set ((((w8.setCell ⟨w4.heap.size, 3, none⟩ (.slice An8 L.length cn8)).setCell ⟨w.heap.size + 1, 0, none⟩ (.int .i64 p.mx)).setCell ⟨w.heap.size + 1, 1, none⟩ (.slice B1 p.idle.length d1)).setCell ⟨w.heap.size + 1, 2, none⟩ (.slice Ae (X.length + 1) ce)) (w.heap.size + 1) 3 (.slice An8 L.length cn8)) (by omega) (by have := hB140.size; omega)
        have x146 := x141.past (grown_set ((((w8.setCell ⟨w4.heap.size, 3, none⟩ (.slice An8 L.length cn8)).setCell ⟨w.heap.size + 1, 0, none⟩ (.int .i64 p.mx)).setCell ⟨w.heap.size + 1, 1, none⟩ (.slice B1 p.idle.length d1)).setCell ⟨w.heap.size + 1, 2, none⟩ (.slice Ae (X.length + 1) ce)) (w.heap.size + 1) 3 (.slice An8 L.length cn8)) (by omega)
        have t147 := t142.past (grown_set ((((w8.setCell ⟨w4.heap.size, 3, none⟩ (.slice An8 L.length cn8)).setCell ⟨w.heap.size + 1, 0, none⟩ (.int .i64 p.mx)).setCell ⟨w.heap.size + 1, 1, none⟩ (.slice B1 p.idle.length d1)).setCell ⟨w.heap.size + 1, 2, none⟩ (.slice Ae (X.length + 1) ce)) (w.heap.size + 1) 3 (.slice An8 L.length cn8)) (by omega)
        have o148 := o143.past r144 (grown_set ((((w8.setCell ⟨w4.heap.size, 3, none⟩ (.slice An8 L.length cn8)).setCell ⟨w.heap.size + 1, 0, none⟩ (.int .i64 p.mx)).setCell ⟨w.heap.size + 1, 1, none⟩ (.slice B1 p.idle.length d1)).setCell ⟨w.heap.size + 1, 2, none⟩ (.slice Ae (X.length + 1) ce)) (w.heap.size + 1) 3 (.slice An8 L.length cn8))
        have r149 : At (((((w8.setCell ⟨w4.heap.size, 3, none⟩ (.slice An8 L.length cn8)).setCell ⟨w.heap.size + 1, 0, none⟩ (.int .i64 p.mx)).setCell ⟨w.heap.size + 1, 1, none⟩ (.slice B1 p.idle.length d1)).setCell ⟨w.heap.size + 1, 2, none⟩ (.slice Ae (X.length + 1) ce)).setCell ⟨w.heap.size + 1, 3, none⟩ (.slice An8 L.length cn8)) (w.heap.size + 1) 30 #[.int .i64 p.mx, .slice B1 p.idle.length d1, .slice Ae (X.length + 1) ce, .slice An8 L.length cn8] := by simpa using r144.set 3 (.slice An8 L.length cn8)
        clear hB140 x141 t142 o143 r144
        have x150 := x146.drew
        clear x146
        have r151 := r149.drew
        clear r149
        have t152 := t147.drew
        clear t147
        have o153 := o148.drew
        clear o148
        have hB154 := hB145.drew
        clear hB145
        have k3 : (fun w' => w'.cell? ⟨w.heap.size, 3, none⟩ = some (.slice (some ⟨b, of, none⟩) p.wait.length c3) ∧ w'.cell? ⟨b, of, none⟩ = some (.int .i64 C) ∧ w'.cell? ⟨w4.heap.size, 0, none⟩ = some (.int .i64 p.mx) ∧ w'.cell? ⟨w4.heap.size, 1, none⟩ = some (.slice B1 p.idle.length d1) ∧ w'.cell? ⟨w4.heap.size, 2, none⟩ = some (.slice Ae (X.length + 1) ce) ∧ w'.cell? ⟨w4.heap.size, 3, none⟩ = some (.slice An8 L.length cn8)) ((((((w8.setCell ⟨w4.heap.size, 3, none⟩ (.slice An8 L.length cn8)).setCell ⟨w.heap.size + 1, 0, none⟩ (.int .i64 p.mx)).setCell ⟨w.heap.size + 1, 1, none⟩ (.slice B1 p.idle.length d1)).setCell ⟨w.heap.size + 1, 2, none⟩ (.slice Ae (X.length + 1) ce)).setCell ⟨w.heap.size + 1, 3, none⟩ (.slice An8 L.length cn8)).drew) := ⟨x150.cell 3, HWe.out _ (h.on hB154).wait, t152.cell 0, t152.cell 1, t152.cell 2, t152.cell 3⟩
        have K1 := hid k1
        have K2 := hid k2
        have K3 := hid k3
        clear k1 k2 k3
        go_wp2_with fail
        go_region_held3 (fun w' => w'.cell? ⟨w.heap.size, 3, none⟩ = some (.slice (some ⟨b, of, none⟩) p.wait.length c3) ∧ w'.cell? ⟨b, of, none⟩ = some (.int .i64 C) ∧ w'.cell? ⟨w4.heap.size, 0, none⟩ = some (.int .i64 p.mx) ∧ w'.cell? ⟨w4.heap.size, 1, none⟩ = some (.slice B1 p.idle.length d1) ∧ w'.cell? ⟨w4.heap.size, 2, none⟩ = some (.slice Ae (X.length + 1) ce) ∧ w'.cell? ⟨w4.heap.size, 3, none⟩ = some (.slice An8 L.length cn8))
          (first | with_reducible exact K1.out | with_reducible exact K2.out | with_reducible exact K3.out | go_keep)
          (fail)
        go_wp2
        refine bodyPost_ret (v := .tuple #[.agg #[.int .i64 p.mx, .slice B1 p.idle.length d1, .slice Ae (X.length + 1) ce, .slice An8 L.length cn8], .int .i64 C, .bool true]) (by simp [results, Try.results87, go_sem, r151.cell]) rfl ?_
        rw [E1.out, E2.out, EB.out, HWO.out]
        exact ⟨B1, Ae, An8, d1, ce, cn8, by simp [List.length_append, HXl.out], (by simpa [List.length_append, HXl.out] using o153.mono (show w.heap.size ≤ w.heap.size + 2 by omega)), hB154⟩

end Go.Proofs.Ytehdbllpiokbnaa

/-
  What EndCall, the model's BeginCall and one call of a path make of a breaker. Condition: none, or the breaker is valid.
-/
import Derived.Test.YtmaocmgnkdieeabBrkC
namespace Go.Proofs.Ytmaocmgnkdieeab
open Go.RowKit Brk

theorem At.five {w : World} {g : Nat} {t : TypeId} {x0 x1 x2 x3 x4 : Value} (h : At w g t #[x0, x1, x2, x3, x4]) :
    w.cell? ⟨g, 0, none⟩ = some x0 ∧ w.cell? ⟨g, 1, none⟩ = some x1 ∧ w.cell? ⟨g, 2, none⟩ = some x2 ∧ w.cell? ⟨g, 3, none⟩ = some x3 ∧ w.cell? ⟨g, 4, none⟩ = some x4 ∧ g < w.heap.size :=
  ⟨h.cell 0, h.cell 1, h.cell 2, h.cell 3, h.cell 4, h.lt⟩
theorem mom_beg {b : Br} {t : Int} (h : momB b t = true) : momB (beg b t) t = true := by
  obtain ⟨h1, h2, h3⟩ := momB_iff.1 h
  obtain ⟨a, c⟩ := beg_ok h1 h2 h3
  exact momB_iff.2 ⟨a, c, h3⟩
theorem once_yes {b : Br} {g : Bool} {t : Int} (h : lets b t = true) : once b g t = fin (beg b t) g t := by unfold once; rw [if_pos h]
theorem once_no {b : Br} {g : Bool} {t : Int} (h : lets b t = false) : once b g t = b := by unfold once; rw [if_neg (by rw [h]; simp)]
set_option maxHeartbeats 4000000 in
theorem iEndCall_any (b : Br) (g : Bool) (t : Int) (w : World) :
    Calls Try.prog 10 #[.agg #[.int .i64 b.li, .int .i64 b.re, .int .i64 b.st, .int .i64 b.fa, .int .i64 b.si], .bool g, .int .i64 t] w fun e w' => e = .returned (.tuple #[.agg #[.int .i64 (finR b g t).li, .int .i64 (finR b g t).re, .int .i64 (finR b g t).st, .int .i64 (finR b g t).fa, .int .i64 (finR b g t).si], .bool (momB b t)]) ∧ Below w.heap.size w w' := by
  have hb0 := (Below.refl w.heap.size w).alloc (Nat.le_refl _) (.cells #[.int .i64 b.li, .int .i64 b.re, .int .i64 b.st, .int .i64 b.fa, .int .i64 b.si] 24)
  have px := At.new w 24 #[.int .i64 b.li, .int .i64 b.re, .int .i64 b.st, .int .i64 b.fa, .int .i64 b.si]
  have pr := At.newAt (w := w.alloc (.cells #[.int .i64 b.li, .int .i64 b.re, .int .i64 b.st, .int .i64 b.fa, .int .i64 b.si] 24)) (g := w.heap.size + 1) 24 #[.int .i64 0, .int .i64 0, .int .i64 0, .int .i64 0, .int .i64 0] (by simp)
  have hb1 := hb0.alloc hb0.size (.cells #[.int .i64 0, .int .i64 0, .int .i64 0, .int .i64 0, .int .i64 0] 24)
  have pb := px.alloc (.cells #[.int .i64 0, .int .i64 0, .int .i64 0, .int .i64 0, .int .i64 0] 24)
  clear px
  rcases hv : momB b t with _ | _
  · have HM := hid hv
    have E0 := hid (finR_no (g := g) hv)
    clear hv
    go_enter Try.func10, Try.ntmps10
    go_wp2_with fail
    with_reducible refine (ivalidMoment_any b t _).mono ?_
    rintro e w2 ⟨he, hb2⟩
    rw [HM.out] at he
    subst he
    have pb2 := pb.below hb2 pb.lt
    have pr2 := pr.below hb2 pr.lt
    have hw2 := hb1.trans (hb2.mono hb1.size)
    clear pb pr hb2
    obtain ⟨p0, p1, p2, p3, p4, pl⟩ := pb2.brk
    have q0 := pr2.cell
    have qf := pr2.frozen
    have ql := pr2.lt
    go_wp2
    have hat := (((((pr2.set 0 (.int .i64 0)).set 1 (.int .i64 0)).set 2 (.int .i64 0)).set 3 (.int .i64 0)).set 4 (.int .i64 0)).cell
    refine bodyPost_ret (v := .tuple #[.agg #[.int .i64 0, .int .i64 0, .int .i64 0, .int .i64 0, .int .i64 0], .bool false]) (by simp [results, Try.results10, go_sem, hat]) rfl ⟨ret_brt (x := Br.zero) E0.out.symm, ?_⟩
    exact (((((hw2.setCell (by simp) _).setCell (by simp) _).setCell (by simp) _).setCell (by simp) _).setCell (by simp) _)
  · have HM := hid hv
    obtain ⟨⟨a1, a2⟩, ⟨a3, a4⟩, ⟨a5, a6⟩, ⟨a7, a8⟩, a9, a10, a11⟩ := mom_of hv
    have E0 := hid (finR_yes (g := g) hv)
    clear hv
    obtain ⟨S, hS⟩ : ∃ S, S = stA b g := ⟨_, rfl⟩
    have HS : Hid (stA b g = S) := hid hS.symm
    obtain ⟨F, hF⟩ : ∃ F, F = faA b g := ⟨_, rfl⟩
    have HF : Hid (faA b g = F) := hid hF.symm
    have HX := hid (show fin b g t = ⟨b.li, b.re, S, F, if S = b.st then b.si else t⟩ by unfold fin; rw [HS.out, HF.out])
    clear hS hF
    go_enter Try.func10, Try.ntmps10
    go_wp2_with fail
    with_reducible refine (ivalidMoment_any b t _).mono ?_
    rintro e w2 ⟨he, hb2⟩
    rw [HM.out] at he
    subst he
    have pb2 := pb.below hb2 pb.lt
    have pr2 := pr.below hb2 pr.lt
    have hw2 := hb1.trans (hb2.mono hb1.size)
    clear pb pr hb2
    obtain ⟨p0, p1, p2, p3, p4, pl⟩ := pb2.brk
    have q0 := pr2.cell
    have qf := pr2.frozen
    have ql := pr2.lt
    have po := At.new w2 24 #[.int .i64 b.li, .int .i64 b.re, .int .i64 b.st, .int .i64 b.fa, .int .i64 b.si]
    have pb3 := pb2.alloc (.cells #[.int .i64 b.li, .int .i64 b.re, .int .i64 b.st, .int .i64 b.fa, .int .i64 b.si] 24)
    have pr3 := pr2.alloc (.cells #[.int .i64 b.li, .int .i64 b.re, .int .i64 b.st, .int .i64 b.fa, .int .i64 b.si] 24)
    have hw3 := hw2.alloc hw2.size (.cells #[.int .i64 b.li, .int .i64 b.re, .int .i64 b.st, .int .i64 b.fa, .int .i64 b.si] 24)
    have hz4 : w.heap.size ≤ w2.heap.size := by omega
    have n1 : ¬ w.heap.size = w2.heap.size := by omega
    have n2 : ¬ w.heap.size + 1 = w2.heap.size := by omega
    clear pb2 pr2 hw2 q0 qf ql
    obtain ⟨u0, u1, u2, u3, u4, ul⟩ := pb3.brk
    obtain ⟨s0, s1, s2, s3, s4, sl⟩ := po.brk
    go_wp2_with fail
    with_reducible refine (istateAfter_any b g _ a7 (by omega)).mono ?_
    rintro e w4 ⟨he, hb4⟩
    rw [HS.out] at he
    subst he
    have pb4 := pb3.below hb4 pb3.lt
    have pr4 := pr3.below hb4 pr3.lt
    have po4 := po.below hb4 po.lt
    have hw4 := hw3.trans (hb4.mono hw3.size)
    clear pb3 pr3 po hb4 hw3 p0 p1 p2 p3 p4 pl u0 u1 u2 u3 u4 ul s0 s1 s2 s3 s4 sl
    have pf4 := po4.frozen
    obtain ⟨s0, s1, s2, s3, s4, sl⟩ := po4.brk
    have pb5 := pb4.far (p := ⟨w2.heap.size, 2, none⟩) n1 (.int .i64 S)
    have pr5 := pr4.far (p := ⟨w2.heap.size, 2, none⟩) n2 (.int .i64 S)
    have po5 : At (w4.setCell ⟨w2.heap.size, 2, none⟩ (.int .i64 S)) w2.heap.size 24 #[.int .i64 b.li, .int .i64 b.re, .int .i64 S, .int .i64 b.fa, .int .i64 b.si] := by simpa using po4.set 2 (.int .i64 S)
    have hw5 := hw4.setCell (p := ⟨w2.heap.size, 2, none⟩) hz4 (.int .i64 S)
    clear pb4 pr4 po4 hw4
    obtain ⟨p0, p1, p2, p3, p4, pl⟩ := pb5.brk
    go_wp2_with fail
    with_reducible refine (ifailsAfter_any b g _ a7 (by omega)).mono ?_
    rintro e w6 ⟨he, hb6⟩
    rw [HF.out] at he
    subst he
    have pb6 := pb5.below hb6 pb5.lt
    have pr6 := pr5.below hb6 pr5.lt
    have po6 := po5.below hb6 po5.lt
    have hw6 := hw5.trans (hb6.mono hw5.size)
    clear pb5 pr5 po5 hb6 hw5 p0 p1 p2 p3 p4 pl s0 s1 s2 s3 s4 sl pf4
    have pf6 := po6.frozen
    obtain ⟨_, _, _, p0, _, _⟩ := po6.five
    have pb7 := pb6.far (p := ⟨w2.heap.size, 3, none⟩) n1 (.int .i64 F)
    have pr7 := pr6.far (p := ⟨w2.heap.size, 3, none⟩) n2 (.int .i64 F)
    have po7 : At (w6.setCell ⟨w2.heap.size, 3, none⟩ (.int .i64 F)) w2.heap.size 24 #[.int .i64 b.li, .int .i64 b.re, .int .i64 S, .int .i64 F, .int .i64 b.si] := by simpa using po6.set 3 (.int .i64 F)
    have hw7 := hw6.setCell (p := ⟨w2.heap.size, 3, none⟩) hz4 (.int .i64 F)
    have ls := po7.lt
    have lb := pb7.lt
    have lr := pr7.lt
    by_cases hs : S = b.st
    · have HE := hid (show fin b g t = ⟨b.li, b.re, S, F, b.si⟩ by rw [HX.out, if_pos hs])
      have hne := bne_f hs
      clear hs
      obtain ⟨c0, c1, c2, c3, c4, cl⟩ := po7.five
      obtain ⟨_, _, d2, _, _, _⟩ := pb7.five
      have qf := pr7.frozen
      have cf := po7.frozen
      have q0 := pr7.cell
      go_wp2
      have hat := (((((pr7.set 0 (.int .i64 b.li)).set 1 (.int .i64 b.re)).set 2 (.int .i64 S)).set 3 (.int .i64 F)).set 4 (.int .i64 b.si)).cell
      refine bodyPost_ret (v := .tuple #[.agg #[.int .i64 b.li, .int .i64 b.re, .int .i64 S, .int .i64 F, .int .i64 b.si], .bool true]) (by simp [results, Try.results10, go_sem, hat]) rfl ⟨ret_brt (x := ⟨b.li, b.re, S, F, b.si⟩) (E0.out.trans HE.out).symm, ?_⟩
      exact (((((hw7.setCell (by simp) _).setCell (by simp) _).setCell (by simp) _).setCell (by simp) _).setCell (by simp) _)
    · have HE := hid (show fin b g t = ⟨b.li, b.re, S, F, t⟩ by rw [HX.out, if_neg hs])
      have hne := bne_t hs
      clear hs
      obtain ⟨c0, c1, c2, c3, c4, cl⟩ := po7.five
      obtain ⟨_, _, d2, _, _, _⟩ := pb7.five
      have qf := pr7.frozen
      have cf := po7.frozen
      have q0 := pr7.cell
      have pr8 := pr7.far (p := ⟨w2.heap.size, 4, none⟩) n2 (.int .i64 t)
      have hw8 := hw7.setCell (p := ⟨w2.heap.size, 4, none⟩) hz4 (.int .i64 t)
      go_wp2
      have hat := (((((pr8.set 0 (.int .i64 b.li)).set 1 (.int .i64 b.re)).set 2 (.int .i64 S)).set 3 (.int .i64 F)).set 4 (.int .i64 t)).cell
      refine bodyPost_ret (v := .tuple #[.agg #[.int .i64 b.li, .int .i64 b.re, .int .i64 S, .int .i64 F, .int .i64 t], .bool true]) (by simp [results, Try.results10, go_sem, hat]) rfl ⟨ret_brt (x := ⟨b.li, b.re, S, F, t⟩) (E0.out.trans HE.out).symm, ?_⟩
      exact (((((hw8.setCell (by simp) _).setCell (by simp) _).setCell (by simp) _).setCell (by simp) _).setCell (by simp) _)

set_option maxHeartbeats 4000000 in
theorem callOnce_any (b : Br) (g : Bool) (t : Int) (w : World) (hv : momB b t = true) :
    Calls Try.prog 21 #[.agg #[.int .i64 b.li, .int .i64 b.re, .int .i64 b.st, .int .i64 b.fa, .int .i64 b.si], .bool g, .int .i64 t] w fun e w' => e = .returned (.agg #[.int .i64 (once b g t).li, .int .i64 (once b g t).re, .int .i64 (once b g t).st, .int .i64 (once b g t).fa, .int .i64 (once b g t).si]) ∧ Below w.heap.size w w' := by
  have hb0 := (Below.refl w.heap.size w).alloc (Nat.le_refl _) (.cells #[.int .i64 b.li, .int .i64 b.re, .int .i64 b.st, .int .i64 b.fa, .int .i64 b.si] 24)
  have px := At.new w 24 #[.int .i64 b.li, .int .i64 b.re, .int .i64 b.st, .int .i64 b.fa, .int .i64 b.si]
  have pr := At.newAt (w := w.alloc (.cells #[.int .i64 b.li, .int .i64 b.re, .int .i64 b.st, .int .i64 b.fa, .int .i64 b.si] 24)) (g := w.heap.size + 1) 24 #[.int .i64 0, .int .i64 0, .int .i64 0, .int .i64 0, .int .i64 0] (by simp)
  have hb1 := hb0.alloc hb0.size (.cells #[.int .i64 0, .int .i64 0, .int .i64 0, .int .i64 0, .int .i64 0] 24)
  have pb := px.alloc (.cells #[.int .i64 0, .int .i64 0, .int .i64 0, .int .i64 0, .int .i64 0] 24)
  clear px
  have hm2 := mom_beg hv
  rcases hl : lets b t with _ | _
  · have hl2 : letsB b t = false := by rw [letsB_mom hv]; exact hl
    have HL := hid hl2
    have HX := hid (begR_no hl2)
    have E0 := hid (once_no (g := g) hl)
    clear hv hm2 hl hl2
    go_enter Try.func21, Try.ntmps21
    go_wp2_with fail
    with_reducible refine (iBeginCall_any b t _).mono ?_
    rintro e w2 ⟨he, hb2⟩
    rw [HL.out, HX.out] at he
    subst he
    have pb2 := pb.below hb2 pb.lt
    have pr2 := pr.below hb2 pr.lt
    have hw2 := hb1.trans (hb2.mono hb1.size)
    clear pb pr hb2
    obtain ⟨p0, p1, p2, p3, p4, pl⟩ := pb2.brk
    have q0 := pr2.cell
    have qf := pr2.frozen
    have ql := pr2.lt
    go_wp2
    have hat := fun o => ((((((pr2.set 0 (.int .i64 b.li)).set 1 (.int .i64 b.re)).set 2 (.int .i64 b.st)).set 3 (.int .i64 b.fa)).set 4 (.int .i64 b.si)).alloc o).cell
    refine bodyPost_ret (v := .agg #[.int .i64 b.li, .int .i64 b.re, .int .i64 b.st, .int .i64 b.fa, .int .i64 b.si]) (by simp [results, Try.results21, go_sem, hat]) rfl ⟨ret_br (x := b) E0.out.symm, ?_⟩
    exact (((((hw2.setCell (by simp) _).setCell (by simp) _).setCell (by simp) _).setCell (by simp) _).setCell (by simp) _).alloc (by simp; omega) _
  · have hl2 : letsB b t = true := by rw [letsB_mom hv]; exact hl
    have HL := hid hl2
    have h3 := begR_yes hl2
    have h4 := finR_yes (g := g) hm2
    have E0 := once_yes (g := g) hl
    obtain ⟨X, hX⟩ : ∃ X, X = beg b t := ⟨_, rfl⟩
    rw [← hX] at h3 h4 hm2 E0
    have HX := hid h3
    have HM2 := hid hm2
    obtain ⟨Y, hY⟩ : ∃ Y, Y = fin X g t := ⟨_, rfl⟩
    rw [← hY] at h4 E0
    have H4 := hid h4
    have EY := hid E0
    clear hv hm2 hl hl2 h3 h4 E0 hX hY
    go_enter Try.func21, Try.ntmps21
    go_wp2_with fail
    with_reducible refine (iBeginCall_any b t _).mono ?_
    rintro e w2 ⟨he, hb2⟩
    rw [HL.out, HX.out] at he
    subst he
    have pb2 := pb.below hb2 pb.lt
    have pr2 := pr.below hb2 pr.lt
    have hw2 := hb1.trans (hb2.mono hb1.size)
    clear pb pr hb2
    obtain ⟨p0, p1, p2, p3, p4, pl⟩ := pb2.brk
    have q0 := pr2.cell
    have qf := pr2.frozen
    have ql := pr2.lt
    have px3 := At.new w2 24 #[.int .i64 X.li, .int .i64 X.re, .int .i64 X.st, .int .i64 X.fa, .int .i64 X.si]
    have pr3 := pr2.alloc (.cells #[.int .i64 X.li, .int .i64 X.re, .int .i64 X.st, .int .i64 X.fa, .int .i64 X.si] 24)
    have hw3 := hw2.alloc hw2.size (.cells #[.int .i64 X.li, .int .i64 X.re, .int .i64 X.st, .int .i64 X.fa, .int .i64 X.si] 24)
    obtain ⟨s0, s1, s2, s3, s4, sl⟩ := px3.brk
    go_wp2_with fail
    with_reducible refine (iEndCall_any X g t _).mono ?_
    rintro e w4 ⟨he, hb4⟩
    rw [H4.out, HM2.out] at he
    subst he
    have pr4 := pr3.below hb4 pr3.lt
    have hw4 := hw3.trans (hb4.mono hw3.size)
    clear px3 pr3 hb4 hw3 s0 s1 s2 s3 s4 sl p0 p1 p2 p3 p4 pl q0 qf ql pb2 pr2 hw2
    have q0 := pr4.cell
    have qf := pr4.frozen
    have ql := pr4.lt
    go_wp2
    have hat := fun o => ((((((pr4.set 0 (.int .i64 Y.li)).set 1 (.int .i64 Y.re)).set 2 (.int .i64 Y.st)).set 3 (.int .i64 Y.fa)).set 4 (.int .i64 Y.si)).alloc o).cell
    refine bodyPost_ret (v := .agg #[.int .i64 Y.li, .int .i64 Y.re, .int .i64 Y.st, .int .i64 Y.fa, .int .i64 Y.si]) (by simp [results, Try.results21, go_sem, hat]) rfl ⟨ret_br (x := Y) EY.out.symm, ?_⟩
    exact (((((hw4.setCell (by simp) _).setCell (by simp) _).setCell (by simp) _).setCell (by simp) _).setCell (by simp) _).alloc (by simp; omega) _

end Go.Proofs.Ytmaocmgnkdieeab

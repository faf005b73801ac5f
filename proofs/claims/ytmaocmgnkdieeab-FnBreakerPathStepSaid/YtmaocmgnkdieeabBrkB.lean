/-
  What the program's and the model's functions on breakers answer at a time. Condition: none, or the breaker is valid.
-/
import Derived.Test.YtmaocmgnkdieeabBrkA
namespace Go.Proofs.Ytmaocmgnkdieeab
open Go.RowKit Brk

/-- The five cells of a block that holds a breaker. -/
theorem At.brk {w : World} {g : Nat} {b : Br} (h : At w g 24 #[.int .i64 b.li, .int .i64 b.re, .int .i64 b.st, .int .i64 b.fa, .int .i64 b.si]) :
    w.cell? ⟨g, 0, none⟩ = some (.int .i64 b.li) ∧ w.cell? ⟨g, 1, none⟩ = some (.int .i64 b.re) ∧ w.cell? ⟨g, 2, none⟩ = some (.int .i64 b.st) ∧ w.cell? ⟨g, 3, none⟩ = some (.int .i64 b.fa) ∧ w.cell? ⟨g, 4, none⟩ = some (.int .i64 b.si) ∧ g < w.heap.size :=
  ⟨h.cell 0, h.cell 1, h.cell 2, h.cell 3, h.cell 4, h.lt⟩
theorem beq_t {x y : Int} (h : x = y) : (x == y) = true := by simpa using h
theorem beq_f {x y : Int} (h : ¬ x = y) : (x == y) = false := by simpa using h
theorem bne_f {x y : Int} (h : x = y) : (x != y) = false := by simpa using h
theorem bne_t {x y : Int} (h : ¬ x = y) : (x != y) = true := by simpa using h
theorem mom_of {b : Br} {t : Int} (h : momB b t = true) : (1 ≤ b.li ∧ b.li ≤ 8) ∧ (1 ≤ b.re ∧ b.re ≤ 1000) ∧ (0 ≤ b.st ∧ b.st ≤ 2) ∧ (0 ≤ b.fa ∧ b.fa < b.li) ∧ 0 ≤ b.si ∧ b.si ≤ t ∧ t ≤ 1000 := by
  obtain ⟨⟨a1, a2, a3, a4, a5, _⟩, h2, h3⟩ := momB_iff.1 h
  exact ⟨a1, a2, a3, ⟨a4.1, by omega⟩, a5.1, h2, h3⟩
set_option maxHeartbeats 4000000 in
theorem ivalidMoment_any (b : Br) (t : Int) (w : World) :
    Calls Try.prog 28 #[.agg #[.int .i64 b.li, .int .i64 b.re, .int .i64 b.st, .int .i64 b.fa, .int .i64 b.si], .int .i64 t] w fun e w' => e = .returned (.bool (momB b t)) ∧ Below w.heap.size w w' := by
  have hb0 := (Below.refl w.heap.size w).alloc (Nat.le_refl _) (.cells #[.int .i64 b.li, .int .i64 b.re, .int .i64 b.st, .int .i64 b.fa, .int .i64 b.si] 24)
  have px := At.new w 24 #[.int .i64 b.li, .int .i64 b.re, .int .i64 b.st, .int .i64 b.fa, .int .i64 b.si]
  rcases hv : okB b with _ | _
  · have HV := hid hv
    have E0 := hid (mom_no (b := b) (t := t) (fun h => by rw [okB_iff.2 h.1] at hv; cases hv))
    clear hv
    go_enter Try.func28, Try.ntmps28
    go_wp2_with fail
    with_reducible refine (iValidBreaker_any b _).mono ?_
    rintro e w1 ⟨he, hb1⟩
    rw [HV.out] at he
    subst he
    have px1 := px.below hb1 px.lt
    have hb := hb0.trans (hb1.mono hb0.size)
    clear px hb1
    obtain ⟨p0, p1, p2, p3, p4, pl⟩ := px1.brk
    go_wp2
    go_ret
    exact ⟨ret_bool E0.out.symm, hb⟩
  · have HV := hid hv
    have HO := hid (okB_iff.1 hv)
    clear hv
    by_cases h1 : b.si ≤ t
    · by_cases h2 : t ≤ 1000
      · have E0 := hid (momB_iff.2 ⟨HO.out, h1, h2⟩)
        go_enter Try.func28, Try.ntmps28
        go_wp2_with fail
        with_reducible refine (iValidBreaker_any b _).mono ?_
        rintro e w1 ⟨he, hb1⟩
        rw [HV.out] at he
        subst he
        have px1 := px.below hb1 px.lt
        have hb := hb0.trans (hb1.mono hb0.size)
        clear px hb1
        obtain ⟨p0, p1, p2, p3, p4, pl⟩ := px1.brk
        go_wp2
        go_ret
        exact ⟨ret_bool (by first | (rw [E0.out]; done) | (rw [E0.out]; simp; done) | (rw [E0.out]; simp; omega)), hb⟩
      · have E0 := hid (mom_no (b := b) (t := t) (fun h => h2 h.2.2))
        go_enter Try.func28, Try.ntmps28
        go_wp2_with fail
        with_reducible refine (iValidBreaker_any b _).mono ?_
        rintro e w1 ⟨he, hb1⟩
        rw [HV.out] at he
        subst he
        have px1 := px.below hb1 px.lt
        have hb := hb0.trans (hb1.mono hb0.size)
        clear px hb1
        obtain ⟨p0, p1, p2, p3, p4, pl⟩ := px1.brk
        go_wp2
        go_ret
        exact ⟨ret_bool (by first | (rw [E0.out]; done) | (rw [E0.out]; simp; done) | (rw [E0.out]; simp; omega)), hb⟩
    · have E0 := hid (mom_no (b := b) (t := t) (fun h => h1 h.2.1))
      go_enter Try.func28, Try.ntmps28
      go_wp2_with fail
      with_reducible refine (iValidBreaker_any b _).mono ?_
      rintro e w1 ⟨he, hb1⟩
      rw [HV.out] at he
      subst he
      have px1 := px.below hb1 px.lt
      have hb := hb0.trans (hb1.mono hb0.size)
      clear px hb1
      obtain ⟨p0, p1, p2, p3, p4, pl⟩ := px1.brk
      go_wp2
      go_ret
      exact ⟨ret_bool E0.out.symm, hb⟩

set_option maxHeartbeats 4000000 in
theorem iLetsCall_any (b : Br) (t : Int) (w : World) :
    Calls Try.prog 27 #[.agg #[.int .i64 b.li, .int .i64 b.re, .int .i64 b.st, .int .i64 b.fa, .int .i64 b.si], .int .i64 t] w fun e w' => e = .returned (.bool (letsB b t)) ∧ Below w.heap.size w w' := by
  have hb0 := (Below.refl w.heap.size w).alloc (Nat.le_refl _) (.cells #[.int .i64 b.li, .int .i64 b.re, .int .i64 b.st, .int .i64 b.fa, .int .i64 b.si] 24)
  have px := At.new w 24 #[.int .i64 b.li, .int .i64 b.re, .int .i64 b.st, .int .i64 b.fa, .int .i64 b.si]
  rcases hv : momB b t with _ | _
  · have HM := hid hv
    have E0 := hid (letsB_no hv)
    clear hv
    go_enter Try.func27, Try.ntmps27
    go_wp2_with fail
    with_reducible refine (ivalidMoment_any b t _).mono ?_
    rintro e w1 ⟨he, hb1⟩
    rw [HM.out] at he
    subst he
    have px1 := px.below hb1 px.lt
    have hb := hb0.trans (hb1.mono hb0.size)
    clear px hb1
    obtain ⟨p0, p1, p2, p3, p4, pl⟩ := px1.brk
    go_wp2
    go_ret
    exact ⟨ret_bool E0.out.symm, hb⟩
  · have HM := hid hv
    obtain ⟨⟨a1, a2⟩, ⟨a3, a4⟩, ⟨a5, a6⟩, ⟨a7, a8⟩, a9, a10, a11⟩ := mom_of hv
    have E1 := hid (letsB_mom hv)
    clear hv
    have hw1 : IntKind.i64.wrap (t - b.si) = t - b.si := by rw [IntKind.wrap_i64]; omega
    by_cases h0 : b.st = 0
    · have E0 := hid (lets_iff.2 (.inl h0) : lets b t = true)
      have he1 := beq_t h0
      clear h0
      go_enter Try.func27, Try.ntmps27
      go_wp2_with fail
      with_reducible refine (ivalidMoment_any b t _).mono ?_
      rintro e w1 ⟨he, hb1⟩
      rw [HM.out] at he
      subst he
      have px1 := px.below hb1 px.lt
      have hb := hb0.trans (hb1.mono hb0.size)
      clear px hb1
      obtain ⟨p0, p1, p2, p3, p4, pl⟩ := px1.brk
      go_wp2
      go_ret
      exact ⟨ret_bool (by rw [E1.out, E0.out]), hb⟩
    · have he1 := beq_f h0
      by_cases h1 : b.st = 1
      · have he2 := beq_t h1
        by_cases h2 : b.re ≤ t - b.si
        · have E0 := hid (lets_iff.2 (.inr ⟨h1, h2⟩) : lets b t = true)
          clear h1
          go_enter Try.func27, Try.ntmps27
          go_wp2_with fail
          with_reducible refine (ivalidMoment_any b t _).mono ?_
          rintro e w1 ⟨he, hb1⟩
          rw [HM.out] at he
          subst he
          have px1 := px.below hb1 px.lt
          have hb := hb0.trans (hb1.mono hb0.size)
          clear px hb1
          obtain ⟨p0, p1, p2, p3, p4, pl⟩ := px1.brk
          go_wp2
          go_ret
          exact ⟨ret_bool (by first | (rw [E1.out, E0.out]; done) | (rw [E1.out, E0.out]; simp; done) | (rw [E1.out, E0.out]; simp; omega)), hb⟩
        · have E0 := hid (lets_no (b := b) (t := t) (fun h => h.elim h0 (fun h => h2 h.2)))
          clear h1
          go_enter Try.func27, Try.ntmps27
          go_wp2_with fail
          with_reducible refine (ivalidMoment_any b t _).mono ?_
          rintro e w1 ⟨he, hb1⟩
          rw [HM.out] at he
          subst he
          have px1 := px.below hb1 px.lt
          have hb := hb0.trans (hb1.mono hb0.size)
          clear px hb1
          obtain ⟨p0, p1, p2, p3, p4, pl⟩ := px1.brk
          go_wp2
          go_ret
          exact ⟨ret_bool (by first | (rw [E1.out, E0.out]; done) | (rw [E1.out, E0.out]; simp; done) | (rw [E1.out, E0.out]; simp; omega)), hb⟩
      · have he2 := beq_f h1
        have E0 := hid (lets_no (b := b) (t := t) (fun h => h.elim h0 (fun h => h1 h.1)))
        go_enter Try.func27, Try.ntmps27
        go_wp2_with fail
        with_reducible refine (ivalidMoment_any b t _).mono ?_
        rintro e w1 ⟨he, hb1⟩
        rw [HM.out] at he
        subst he
        have px1 := px.below hb1 px.lt
        have hb := hb0.trans (hb1.mono hb0.size)
        clear px hb1
        obtain ⟨p0, p1, p2, p3, p4, pl⟩ := px1.brk
        go_wp2
        go_ret
        exact ⟨ret_bool (by rw [E1.out, E0.out]), hb⟩

set_option maxHeartbeats 4000000 in
theorem slets_any (b : Br) (t : Int) (w : World) (hv : momB b t = true) :
    Calls Try.prog 24 #[.agg #[.int .i64 b.li, .int .i64 b.re, .int .i64 b.st, .int .i64 b.fa, .int .i64 b.si], .int .i64 t] w fun e w' => e = .returned (.bool (lets b t)) ∧ Below w.heap.size w w' := by
  have hb0 := (Below.refl w.heap.size w).alloc (Nat.le_refl _) (.cells #[.int .i64 b.li, .int .i64 b.re, .int .i64 b.st, .int .i64 b.fa, .int .i64 b.si] 24)
  obtain ⟨⟨a1, a2⟩, ⟨a3, a4⟩, ⟨a5, a6⟩, ⟨a7, a8⟩, a9, a10, a11⟩ := mom_of hv
  clear hv
  have hw1 : IntKind.i64.wrap (t - b.si) = t - b.si := by rw [IntKind.wrap_i64]; omega
  by_cases h0 : b.st = 0
  · have E0 := hid (lets_iff.2 (.inl h0) : lets b t = true)
    have he1 := beq_t h0
    clear h0
    go_enter Try.func24, Try.ntmps24
    go_wp2
    go_ret
    exact ⟨ret_bool (by rw [E0.out]), hb0⟩
  · have he1 := beq_f h0
    by_cases h1 : b.st = 1
    · have he2 := beq_t h1
      by_cases h2 : b.re ≤ t - b.si
      · have E0 := hid (lets_iff.2 (.inr ⟨h1, h2⟩) : lets b t = true)
        clear h1
        go_enter Try.func24, Try.ntmps24
        go_wp2
        go_ret
        exact ⟨ret_bool (by first | (rw [E0.out]; done) | (rw [E0.out]; simp; done) | (rw [E0.out]; simp; omega)), hb0⟩
      · have E0 := hid (lets_no (b := b) (t := t) (fun h => h.elim h0 (fun h => h2 h.2)))
        clear h1
        go_enter Try.func24, Try.ntmps24
        go_wp2
        go_ret
        exact ⟨ret_bool (by first | (rw [E0.out]; done) | (rw [E0.out]; simp; done) | (rw [E0.out]; simp; omega)), hb0⟩
    · have he2 := beq_f h1
      have E0 := hid (lets_no (b := b) (t := t) (fun h => h.elim h0 (fun h => h1 h.1)))
      go_enter Try.func24, Try.ntmps24
      go_wp2
      go_ret
      exact ⟨ret_bool (by rw [E0.out]), hb0⟩

end Go.Proofs.Ytmaocmgnkdieeab

/-
  What the program's and the model's functions on breakers answer that give a truth value or a number. Condition: none, or the breaker is valid.
-/
import Derived.Test.YtmaocmgnkdieeabBase
import Derived.Test.YtmaocmgnkdieeabOwnB
import Derived.Test.YtmaocmgnkdieeabBrkMath
import Derived.Deep.RegionHeld3
namespace Go.Proofs.Ytmaocmgnkdieeab
open Go.RowKit Brk

theorem inB_no {x lo hi : Int} (h : ¬ (lo ≤ x ∧ x ≤ hi)) : inB x lo hi = false := by unfold inB; exact decide_eq_false h
theorem inB_yes {x lo hi : Int} (h : lo ≤ x ∧ x ≤ hi) : inB x lo hi = true := inB_iff.2 h
theorem ok_no {b : Br} (h : ¬ Ok b) : okB b = false := by unfold okB; exact decide_eq_false h
theorem mom_no {b : Br} {t : Int} (h : ¬ (Ok b ∧ b.si ≤ t ∧ t ≤ 1000)) : momB b t = false := Bool.eq_false_iff.2 fun e => h (momB_iff.1 e)
theorem lets_no {b : Br} {t : Int} (h : ¬ (b.st = 0 ∨ (b.st = 1 ∧ b.re ≤ t - b.si))) : lets b t = false := Bool.eq_false_iff.2 fun e => h (lets_iff.1 e)
theorem letsB_no {b : Br} {t : Int} (h : momB b t = false) : letsB b t = false := by unfold letsB; rw [h]; rfl
theorem letsB_mom {b : Br} {t : Int} (h : momB b t = true) : letsB b t = lets b t := by unfold letsB; rw [h]; rfl
set_option maxHeartbeats 400000 in
theorem bSpan_any (n : Int) (w : World) :
    Calls Try.prog 40 #[.int .i64 n] w fun e w' => e = .returned (.bool (inB n 1 1000)) ∧ w = w' := by
  unfold inB
  by_cases h1 : 1 ≤ n
  · go_enter Try.func40, Try.ntmps40
    go_wp2
    go_ret
    exact ⟨ret_bool (by first | (simp; done) | (simp; omega)), rfl⟩
  · go_enter Try.func40, Try.ntmps40
    go_wp2
    go_ret
    exact ⟨ret_bool (by first | (simp; done) | (simp; omega)), rfl⟩

set_option maxHeartbeats 400000 in
theorem bTime_any (n : Int) (w : World) :
    Calls Try.prog 41 #[.int .i64 n] w fun e w' => e = .returned (.bool (inB n 0 1000)) ∧ w = w' := by
  unfold inB
  by_cases h1 : 0 ≤ n
  · go_enter Try.func41, Try.ntmps41
    go_wp2
    go_ret
    exact ⟨ret_bool (by first | (simp; done) | (simp; omega)), rfl⟩
  · go_enter Try.func41, Try.ntmps41
    go_wp2
    go_ret
    exact ⟨ret_bool (by first | (simp; done) | (simp; omega)), rfl⟩

set_option maxHeartbeats 4000000 in
theorem iValidBreaker_any (b : Br) (w : World) :
    Calls Try.prog 18 #[.agg #[.int .i64 b.li, .int .i64 b.re, .int .i64 b.st, .int .i64 b.fa, .int .i64 b.si]] w fun e w' => e = .returned (.bool (okB b)) ∧ Below w.heap.size w w' := by
  have hb0 := (Below.refl w.heap.size w).alloc (Nat.le_refl _) (.cells #[.int .i64 b.li, .int .i64 b.re, .int .i64 b.st, .int .i64 b.fa, .int .i64 b.si] 24)
  by_cases h1 : b.li < 1
  · have E0 := hid (ok_no (b := b) (fun h => by unfold Ok at h; omega))
    go_enter Try.func18, Try.ntmps18
    go_wp2
    go_ret
    exact ⟨ret_bool E0.out.symm, hb0⟩
  · skip
    by_cases h2 : b.li > 8
    · have E0 := hid (ok_no (b := b) (fun h => by unfold Ok at h; omega))
      go_enter Try.func18, Try.ntmps18
      go_wp2
      go_ret
      exact ⟨ret_bool E0.out.symm, hb0⟩
    · skip
      by_cases h3 : 1 ≤ b.re ∧ b.re ≤ 1000
      · have H3 := hid (inB_yes h3)
        by_cases h4 : 0 ≤ b.si ∧ b.si ≤ 1000
        · have H4 := hid (inB_yes h4)
          by_cases h5 : b.st < 0
          · have E0 := hid (ok_no (b := b) (fun h => by unfold Ok at h; omega))
            go_enter Try.func18, Try.ntmps18
            go_wp2_with fail
            with_reducible refine (bSpan_any b.re _).mono ?_
            rintro e w' ⟨he, rfl⟩
            rw [H3.out] at he
            subst he
            go_wp2_with fail
            with_reducible refine (bTime_any b.si _).mono ?_
            rintro e w' ⟨he, rfl⟩
            rw [H4.out] at he
            subst he
            go_wp2
            go_ret
            exact ⟨ret_bool E0.out.symm, hb0⟩
          · skip
            by_cases h6 : b.st > 2
            · have E0 := hid (ok_no (b := b) (fun h => by unfold Ok at h; omega))
              go_enter Try.func18, Try.ntmps18
              go_wp2_with fail
              with_reducible refine (bSpan_any b.re _).mono ?_
              rintro e w' ⟨he, rfl⟩
              rw [H3.out] at he
              subst he
              go_wp2_with fail
              with_reducible refine (bTime_any b.si _).mono ?_
              rintro e w' ⟨he, rfl⟩
              rw [H4.out] at he
              subst he
              go_wp2
              go_ret
              exact ⟨ret_bool E0.out.symm, hb0⟩
            · skip
              by_cases h7 : b.fa < 0
              · have E0 := hid (ok_no (b := b) (fun h => by unfold Ok at h; omega))
                go_enter Try.func18, Try.ntmps18
                go_wp2_with fail
                with_reducible refine (bSpan_any b.re _).mono ?_
                rintro e w' ⟨he, rfl⟩
                rw [H3.out] at he
                subst he
                go_wp2_with fail
                with_reducible refine (bTime_any b.si _).mono ?_
                rintro e w' ⟨he, rfl⟩
                rw [H4.out] at he
                subst he
                go_wp2
                go_ret
                exact ⟨ret_bool E0.out.symm, hb0⟩
              · skip
                by_cases h71 : b.fa ≥ b.li
                · have E0 := hid (ok_no (b := b) (fun h => by unfold Ok at h; omega))
                  go_enter Try.func18, Try.ntmps18
                  go_wp2_with fail
                  with_reducible refine (bSpan_any b.re _).mono ?_
                  rintro e w' ⟨he, rfl⟩
                  rw [H3.out] at he
                  subst he
                  go_wp2_with fail
                  with_reducible refine (bTime_any b.si _).mono ?_
                  rintro e w' ⟨he, rfl⟩
                  rw [H4.out] at he
                  subst he
                  go_wp2
                  go_ret
                  exact ⟨ret_bool E0.out.symm, hb0⟩
                · skip
                  by_cases h8 : b.st = 0
                  · have E0 := hid (okB_iff.2 (show Ok b by unfold Ok; omega))
                    have he1 : (b.st == 0) = true := by simpa using h8
                    clear h8
                    go_enter Try.func18, Try.ntmps18
                    go_wp2_with fail
                    with_reducible refine (bSpan_any b.re _).mono ?_
                    rintro e w' ⟨he, rfl⟩
                    rw [H3.out] at he
                    subst he
                    go_wp2_with fail
                    with_reducible refine (bTime_any b.si _).mono ?_
                    rintro e w' ⟨he, rfl⟩
                    rw [H4.out] at he
                    subst he
                    go_wp2
                    go_ret
                    exact ⟨ret_bool E0.out.symm, hb0⟩
                  · by_cases h9 : b.fa = 0
                    · have E0 := hid (okB_iff.2 (show Ok b by unfold Ok; omega))
                      have he1 : (b.st == 0) = false := by simpa using h8
                      have he2 : (b.fa == 0) = true := by simpa using h9
                      clear h9
                      go_enter Try.func18, Try.ntmps18
                      go_wp2_with fail
                      with_reducible refine (bSpan_any b.re _).mono ?_
                      rintro e w' ⟨he, rfl⟩
                      rw [H3.out] at he
                      subst he
                      go_wp2_with fail
                      with_reducible refine (bTime_any b.si _).mono ?_
                      rintro e w' ⟨he, rfl⟩
                      rw [H4.out] at he
                      subst he
                      go_wp2
                      go_ret
                      exact ⟨ret_bool E0.out.symm, hb0⟩
                    · have E0 := hid (ok_no (b := b) (fun h => by unfold Ok at h; omega))
                      have he1 : (b.st == 0) = false := by simpa using h8
                      have he2 : (b.fa == 0) = false := by simpa using h9
                      go_enter Try.func18, Try.ntmps18
                      go_wp2_with fail
                      with_reducible refine (bSpan_any b.re _).mono ?_
                      rintro e w' ⟨he, rfl⟩
                      rw [H3.out] at he
                      subst he
                      go_wp2_with fail
                      with_reducible refine (bTime_any b.si _).mono ?_
                      rintro e w' ⟨he, rfl⟩
                      rw [H4.out] at he
                      subst he
                      go_wp2
                      go_ret
                      exact ⟨ret_bool E0.out.symm, hb0⟩
        · have H4 := hid (inB_no h4)
          have E0 := hid (ok_no (b := b) (fun h => by unfold Ok at h; omega))
          go_enter Try.func18, Try.ntmps18
          go_wp2_with fail
          with_reducible refine (bSpan_any b.re _).mono ?_
          rintro e w' ⟨he, rfl⟩
          rw [H3.out] at he
          subst he
          go_wp2_with fail
          with_reducible refine (bTime_any b.si _).mono ?_
          rintro e w' ⟨he, rfl⟩
          rw [H4.out] at he
          subst he
          go_wp2
          go_ret
          exact ⟨ret_bool E0.out.symm, hb0⟩
      · have H3 := hid (inB_no h3)
        have E0 := hid (ok_no (b := b) (fun h => by unfold Ok at h; omega))
        go_enter Try.func18, Try.ntmps18
        go_wp2_with fail
        with_reducible refine (bSpan_any b.re _).mono ?_
        rintro e w' ⟨he, rfl⟩
        rw [H3.out] at he
        subst he
        go_wp2
        go_ret
        exact ⟨ret_bool E0.out.symm, hb0⟩

set_option maxHeartbeats 4000000 in
theorem svalidBreaker_any (b : Br) (w : World) :
    Calls Try.prog 22 #[.agg #[.int .i64 b.li, .int .i64 b.re, .int .i64 b.st, .int .i64 b.fa, .int .i64 b.si]] w fun e w' => e = .returned (.bool (okB b)) ∧ Below w.heap.size w w' := by
  have hb0 := (Below.refl w.heap.size w).alloc (Nat.le_refl _) (.cells #[.int .i64 b.li, .int .i64 b.re, .int .i64 b.st, .int .i64 b.fa, .int .i64 b.si] 24)
  have hw1 := fun (h1 : 1 ≤ b.li) (h2 : b.li ≤ 8) => (show IntKind.i64.wrap (b.li - 1) = b.li - 1 by rw [IntKind.wrap_i64]; omega)
  have HW := hid hw1
  clear hw1
  by_cases h1 : 1 ≤ b.li ∧ b.li ≤ 8
  · have H1 := hid (inB_yes h1)
    have hw1 := HW.out h1.1 h1.2
    by_cases h3 : 1 ≤ b.re ∧ b.re ≤ 1000
    · have H3 := hid (inB_yes h3)
      by_cases h5 : 0 ≤ b.st ∧ b.st ≤ 2
      · have H5 := hid (inB_yes h5)
        by_cases h7 : 0 ≤ b.fa ∧ b.fa ≤ b.li - 1
        · have H7 := hid (inB_yes h7)
          by_cases h4 : 0 ≤ b.si ∧ b.si ≤ 1000
          · have H4 := hid (inB_yes h4)
            by_cases h8 : b.st = 0
            · have E0 := hid (okB_iff.2 (show Ok b by unfold Ok; omega))
              have he1 : (b.st == 0) = true := by simpa using h8
              clear h8
              go_enter Try.func22, Try.ntmps22
              go_wp2_with fail
              with_reducible refine (inRange_any b.li 1 8 _).mono ?_
              rintro e w' ⟨he, rfl⟩
              rw [H1.out] at he
              subst he
              go_wp2_with fail
              with_reducible refine (inRange_any b.re 1 1000 _).mono ?_
              rintro e w' ⟨he, rfl⟩
              rw [H3.out] at he
              subst he
              go_wp2_with fail
              with_reducible refine (inRange_any b.st 0 2 _).mono ?_
              rintro e w' ⟨he, rfl⟩
              rw [H5.out] at he
              subst he
              go_wp2_with fail
              with_reducible refine (inRange_any b.fa 0 (b.li - 1) _).mono ?_
              rintro e w' ⟨he, rfl⟩
              rw [H7.out] at he
              subst he
              go_wp2_with fail
              with_reducible refine (inRange_any b.si 0 1000 _).mono ?_
              rintro e w' ⟨he, rfl⟩
              rw [H4.out] at he
              subst he
              go_wp2
              go_ret
              exact ⟨ret_bool E0.out.symm, hb0⟩
            · by_cases h9 : b.fa = 0
              · have E0 := hid (okB_iff.2 (show Ok b by unfold Ok; omega))
                have he1 : (b.st == 0) = false := by simpa using h8
                have he2 : (b.fa == 0) = true := by simpa using h9
                clear h9
                go_enter Try.func22, Try.ntmps22
                go_wp2_with fail
                with_reducible refine (inRange_any b.li 1 8 _).mono ?_
                rintro e w' ⟨he, rfl⟩
                rw [H1.out] at he
                subst he
                go_wp2_with fail
                with_reducible refine (inRange_any b.re 1 1000 _).mono ?_
                rintro e w' ⟨he, rfl⟩
                rw [H3.out] at he
                subst he
                go_wp2_with fail
                with_reducible refine (inRange_any b.st 0 2 _).mono ?_
                rintro e w' ⟨he, rfl⟩
                rw [H5.out] at he
                subst he
                go_wp2_with fail
                with_reducible refine (inRange_any b.fa 0 (b.li - 1) _).mono ?_
                rintro e w' ⟨he, rfl⟩
                rw [H7.out] at he
                subst he
                go_wp2_with fail
                with_reducible refine (inRange_any b.si 0 1000 _).mono ?_
                rintro e w' ⟨he, rfl⟩
                rw [H4.out] at he
                subst he
                go_wp2
                go_ret
                exact ⟨ret_bool E0.out.symm, hb0⟩
              · have E0 := hid (ok_no (b := b) (fun h => by unfold Ok at h; omega))
                have he1 : (b.st == 0) = false := by simpa using h8
                have he2 : (b.fa == 0) = false := by simpa using h9
                go_enter Try.func22, Try.ntmps22
                go_wp2_with fail
                with_reducible refine (inRange_any b.li 1 8 _).mono ?_
                rintro e w' ⟨he, rfl⟩
                rw [H1.out] at he
                subst he
                go_wp2_with fail
                with_reducible refine (inRange_any b.re 1 1000 _).mono ?_
                rintro e w' ⟨he, rfl⟩
                rw [H3.out] at he
                subst he
                go_wp2_with fail
                with_reducible refine (inRange_any b.st 0 2 _).mono ?_
                rintro e w' ⟨he, rfl⟩
                rw [H5.out] at he
                subst he
                go_wp2_with fail
                with_reducible refine (inRange_any b.fa 0 (b.li - 1) _).mono ?_
                rintro e w' ⟨he, rfl⟩
                rw [H7.out] at he
                subst he
                go_wp2_with fail
                with_reducible refine (inRange_any b.si 0 1000 _).mono ?_
                rintro e w' ⟨he, rfl⟩
                rw [H4.out] at he
                subst he
                go_wp2
                go_ret
                exact ⟨ret_bool E0.out.symm, hb0⟩
          · have H4 := hid (inB_no h4)
            have E0 := hid (ok_no (b := b) (fun h => by unfold Ok at h; omega))
            go_enter Try.func22, Try.ntmps22
            go_wp2_with fail
            with_reducible refine (inRange_any b.li 1 8 _).mono ?_
            rintro e w' ⟨he, rfl⟩
            rw [H1.out] at he
            subst he
            go_wp2_with fail
            with_reducible refine (inRange_any b.re 1 1000 _).mono ?_
            rintro e w' ⟨he, rfl⟩
            rw [H3.out] at he
            subst he
            go_wp2_with fail
            with_reducible refine (inRange_any b.st 0 2 _).mono ?_
            rintro e w' ⟨he, rfl⟩
            rw [H5.out] at he
            subst he
            go_wp2_with fail
            with_reducible refine (inRange_any b.fa 0 (b.li - 1) _).mono ?_
            rintro e w' ⟨he, rfl⟩
            rw [H7.out] at he
            subst he
            go_wp2_with fail
            with_reducible refine (inRange_any b.si 0 1000 _).mono ?_
            rintro e w' ⟨he, rfl⟩
            rw [H4.out] at he
            subst he
            go_wp2
            go_ret
            exact ⟨ret_bool E0.out.symm, hb0⟩
        · have H7 := hid (inB_no h7)
          have E0 := hid (ok_no (b := b) (fun h => by unfold Ok at h; omega))
          go_enter Try.func22, Try.ntmps22
          go_wp2_with fail
          with_reducible refine (inRange_any b.li 1 8 _).mono ?_
          rintro e w' ⟨he, rfl⟩
          rw [H1.out] at he
          subst he
          go_wp2_with fail
          with_reducible refine (inRange_any b.re 1 1000 _).mono ?_
          rintro e w' ⟨he, rfl⟩
          rw [H3.out] at he
          subst he
          go_wp2_with fail
          with_reducible refine (inRange_any b.st 0 2 _).mono ?_
          rintro e w' ⟨he, rfl⟩
          rw [H5.out] at he
          subst he
          go_wp2_with fail
          with_reducible refine (inRange_any b.fa 0 (b.li - 1) _).mono ?_
          rintro e w' ⟨he, rfl⟩
          rw [H7.out] at he
          subst he
          go_wp2
          go_ret
          exact ⟨ret_bool E0.out.symm, hb0⟩
      · have H5 := hid (inB_no h5)
        have E0 := hid (ok_no (b := b) (fun h => by unfold Ok at h; omega))
        go_enter Try.func22, Try.ntmps22
        go_wp2_with fail
        with_reducible refine (inRange_any b.li 1 8 _).mono ?_
        rintro e w' ⟨he, rfl⟩
        rw [H1.out] at he
        subst he
        go_wp2_with fail
        with_reducible refine (inRange_any b.re 1 1000 _).mono ?_
        rintro e w' ⟨he, rfl⟩
        rw [H3.out] at he
        subst he
        go_wp2_with fail
        with_reducible refine (inRange_any b.st 0 2 _).mono ?_
        rintro e w' ⟨he, rfl⟩
        rw [H5.out] at he
        subst he
        go_wp2
        go_ret
        exact ⟨ret_bool E0.out.symm, hb0⟩
    · have H3 := hid (inB_no h3)
      have E0 := hid (ok_no (b := b) (fun h => by unfold Ok at h; omega))
      go_enter Try.func22, Try.ntmps22
      go_wp2_with fail
      with_reducible refine (inRange_any b.li 1 8 _).mono ?_
      rintro e w' ⟨he, rfl⟩
      rw [H1.out] at he
      subst he
      go_wp2_with fail
      with_reducible refine (inRange_any b.re 1 1000 _).mono ?_
      rintro e w' ⟨he, rfl⟩
      rw [H3.out] at he
      subst he
      go_wp2
      go_ret
      exact ⟨ret_bool E0.out.symm, hb0⟩
  · have H1 := hid (inB_no h1)
    have E0 := hid (ok_no (b := b) (fun h => by unfold Ok at h; omega))
    go_enter Try.func22, Try.ntmps22
    go_wp2_with fail
    with_reducible refine (inRange_any b.li 1 8 _).mono ?_
    rintro e w' ⟨he, rfl⟩
    rw [H1.out] at he
    subst he
    go_wp2
    go_ret
    exact ⟨ret_bool E0.out.symm, hb0⟩

end Go.Proofs.Ytmaocmgnkdieeab

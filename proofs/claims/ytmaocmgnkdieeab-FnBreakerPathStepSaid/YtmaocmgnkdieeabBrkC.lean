/-
  What the program's and the model's functions make of a breaker when a call begins or ends. Condition: none, or the breaker is valid.
-/
import Derived.Test.YtmaocmgnkdieeabBrkB
import Derived.Test.YtmaocmgnkdieeabApp
namespace Go.Proofs.Ytmaocmgnkdieeab
open Go.RowKit Brk

theorem begR_no {b : Br} {t : Int} (h : letsB b t = false) : begR b t = Br.zero := by unfold begR; rw [h]; rfl
theorem begR_yes {b : Br} {t : Int} (h : letsB b t = true) : begR b t = beg b t := by unfold begR; rw [h]; rfl
theorem beg_open {b : Br} {t : Int} (h : b.st = 1) : beg b t = ⟨b.li, b.re, 2, b.fa, t⟩ := by unfold beg; rw [if_pos h]
theorem beg_same {b : Br} {t : Int} (h : ¬ b.st = 1) : beg b t = b := by unfold beg; rw [if_neg h]
theorem finR_no {b : Br} {g : Bool} {t : Int} (h : momB b t = false) : finR b g t = Br.zero := by unfold finR; rw [h]; rfl
theorem ret_brt {x y : Br} {k : Bool} (h : x = y) : Ending.returned (.tuple #[.agg #[.int .i64 x.li, .int .i64 x.re, .int .i64 x.st, .int .i64 x.fa, .int .i64 x.si], .bool k]) = .returned (.tuple #[.agg #[.int .i64 y.li, .int .i64 y.re, .int .i64 y.st, .int .i64 y.fa, .int .i64 y.si], .bool k]) := by rw [h]
theorem ret_br {x y : Br} (h : x = y) : Ending.returned (.agg #[.int .i64 x.li, .int .i64 x.re, .int .i64 x.st, .int .i64 x.fa, .int .i64 x.si]) = .returned (.agg #[.int .i64 y.li, .int .i64 y.re, .int .i64 y.st, .int .i64 y.fa, .int .i64 y.si]) := by rw [h]
theorem finR_yes {b : Br} {g : Bool} {t : Int} (h : momB b t = true) : finR b g t = fin b g t := by unfold finR; rw [h]; rfl
set_option maxHeartbeats 4000000 in
theorem iBeginCall_any (b : Br) (t : Int) (w : World) :
    Calls Try.prog 9 #[.agg #[.int .i64 b.li, .int .i64 b.re, .int .i64 b.st, .int .i64 b.fa, .int .i64 b.si], .int .i64 t] w fun e w' => e = .returned (.tuple #[.agg #[.int .i64 (begR b t).li, .int .i64 (begR b t).re, .int .i64 (begR b t).st, .int .i64 (begR b t).fa, .int .i64 (begR b t).si], .bool (letsB b t)]) ∧ Below w.heap.size w w' := by
  have hb0 := (Below.refl w.heap.size w).alloc (Nat.le_refl _) (.cells #[.int .i64 b.li, .int .i64 b.re, .int .i64 b.st, .int .i64 b.fa, .int .i64 b.si] 24)
  have px := At.new w 24 #[.int .i64 b.li, .int .i64 b.re, .int .i64 b.st, .int .i64 b.fa, .int .i64 b.si]
  have pr := At.newAt (w := w.alloc (.cells #[.int .i64 b.li, .int .i64 b.re, .int .i64 b.st, .int .i64 b.fa, .int .i64 b.si] 24)) (g := w.heap.size + 1) 24 #[.int .i64 0, .int .i64 0, .int .i64 0, .int .i64 0, .int .i64 0] (by simp)
  have hb1 := hb0.alloc hb0.size (.cells #[.int .i64 0, .int .i64 0, .int .i64 0, .int .i64 0, .int .i64 0] 24)
  have pb := px.alloc (.cells #[.int .i64 0, .int .i64 0, .int .i64 0, .int .i64 0, .int .i64 0] 24)
  clear px
  rcases hv : letsB b t with _ | _
  · have HM := hid hv
    have E0 := hid (begR_no hv)
    clear hv
    go_enter Try.func9, Try.ntmps9
    go_wp2_with fail
    with_reducible refine (iLetsCall_any b t _).mono ?_
    rintro e w2 ⟨he, hb2⟩
    rw [HM.out] at he
    subst he
    have pb2 := pb.below hb2 pb.lt
    have pr2 := pr.below hb2 pr.lt
    have hw2 := hb1.trans (hb2.mono hb1.size)
    clear pb pr hb2
    obtain ⟨p0, p1, p2, p3, p4, pl⟩ := pb2.brk
    have q0 := pr2.cell
    have qf := pr2.frozen
    have ql := pr2.lt
    go_wp2
    have hat := (((((pr2.set 0 (.int .i64 0)).set 1 (.int .i64 0)).set 2 (.int .i64 0)).set 3 (.int .i64 0)).set 4 (.int .i64 0)).cell
    refine bodyPost_ret (v := .tuple #[.agg #[.int .i64 0, .int .i64 0, .int .i64 0, .int .i64 0, .int .i64 0], .bool false]) (by simp [results, Try.results9, go_sem, hat]) rfl ⟨ret_brt (x := Br.zero) E0.out.symm, ?_⟩
    exact (((((hw2.setCell (by simp) _).setCell (by simp) _).setCell (by simp) _).setCell (by simp) _).setCell (by simp) _)
  · have HM := hid hv
    have E0 := hid (begR_yes hv)
    clear hv
    by_cases h1 : b.st = 1
    · have he1 := beq_t h1
      have E1 := hid (beg_open (t := t) h1)
      clear h1
      go_enter Try.func9, Try.ntmps9
      go_wp2_with fail
      with_reducible refine (iLetsCall_any b t _).mono ?_
      rintro e w2 ⟨he, hb2⟩
      rw [HM.out] at he
      subst he
      have pb2 := pb.below hb2 pb.lt
      have pr2 := pr.below hb2 pr.lt
      have hw2 := hb1.trans (hb2.mono hb1.size)
      clear pb pr hb2
      obtain ⟨p0, p1, p2, p3, p4, pl⟩ := pb2.brk
      have q0 := pr2.cell
      have qf := pr2.frozen
      have ql := pr2.lt
      go_wp2
      have hat := fun o => ((((((pr2.set 0 (.int .i64 b.li)).set 1 (.int .i64 b.re)).set 2 (.int .i64 2)).set 3 (.int .i64 b.fa)).set 4 (.int .i64 t)).alloc o).cell
      refine bodyPost_ret (v := .tuple #[.agg #[.int .i64 b.li, .int .i64 b.re, .int .i64 2, .int .i64 b.fa, .int .i64 t], .bool true]) (by simp [results, Try.results9, go_sem, hat]) rfl ⟨ret_brt (x := ⟨b.li, b.re, 2, b.fa, t⟩) (E0.out.trans E1.out).symm, ?_⟩
      exact (((((hw2.setCell (by simp) _).setCell (by simp) _).setCell (by simp) _).setCell (by simp) _).setCell (by simp) _).alloc (by simp; omega) _
    · have he1 := beq_f h1
      have E1 := hid (beg_same (t := t) h1)
      go_enter Try.func9, Try.ntmps9
      go_wp2_with fail
      with_reducible refine (iLetsCall_any b t _).mono ?_
      rintro e w2 ⟨he, hb2⟩
      rw [HM.out] at he
      subst he
      have pb2 := pb.below hb2 pb.lt
      have pr2 := pr.below hb2 pr.lt
      have hw2 := hb1.trans (hb2.mono hb1.size)
      clear pb pr hb2
      obtain ⟨p0, p1, p2, p3, p4, pl⟩ := pb2.brk
      have q0 := pr2.cell
      have qf := pr2.frozen
      have ql := pr2.lt
      go_wp2
      have hat := fun o => ((((((pr2.set 0 (.int .i64 b.li)).set 1 (.int .i64 b.re)).set 2 (.int .i64 b.st)).set 3 (.int .i64 b.fa)).set 4 (.int .i64 b.si)).alloc o).cell
      refine bodyPost_ret (v := .tuple #[.agg #[.int .i64 b.li, .int .i64 b.re, .int .i64 b.st, .int .i64 b.fa, .int .i64 b.si], .bool true]) (by simp [results, Try.results9, go_sem, hat]) rfl ⟨ret_brt (x := b) (E0.out.trans E1.out).symm, ?_⟩
      exact (((((hw2.setCell (by simp) _).setCell (by simp) _).setCell (by simp) _).setCell (by simp) _).setCell (by simp) _).alloc (by simp; omega) _

set_option maxHeartbeats 4000000 in
theorem sbegin_any (b : Br) (t : Int) (w : World) :
    Calls Try.prog 26 #[.agg #[.int .i64 b.li, .int .i64 b.re, .int .i64 b.st, .int .i64 b.fa, .int .i64 b.si], .int .i64 t] w fun e w' => e = .returned (.agg #[.int .i64 (beg b t).li, .int .i64 (beg b t).re, .int .i64 (beg b t).st, .int .i64 (beg b t).fa, .int .i64 (beg b t).si]) ∧ Below w.heap.size w w' := by
  have hb0 := (Below.refl w.heap.size w).alloc (Nat.le_refl _) (.cells #[.int .i64 b.li, .int .i64 b.re, .int .i64 b.st, .int .i64 b.fa, .int .i64 b.si] 24)
  clear hb0
  by_cases h1 : b.st = 1
  · have he1 := beq_t h1
    have E1 := hid (beg_open (t := t) h1)
    clear h1
    go_enter Try.func26, Try.ntmps26
    go_wp2
    refine bodyPost_ret (v := .agg #[.int .i64 b.li, .int .i64 b.re, .int .i64 2, .int .i64 b.fa, .int .i64 t]) (by simp [results, Try.results26, go_sem]) rfl ⟨ret_br (x := ⟨b.li, b.re, 2, b.fa, t⟩) E1.out.symm, ((Below.refl _ _).alloc (Nat.le_refl _) _).alloc (by simp) _⟩
  · have he1 := beq_f h1
    have E1 := hid (beg_same (t := t) h1)
    go_enter Try.func26, Try.ntmps26
    go_wp2
    refine bodyPost_ret (v := .agg #[.int .i64 b.li, .int .i64 b.re, .int .i64 b.st, .int .i64 b.fa, .int .i64 b.si]) (by simp [results, Try.results26, go_sem]) rfl ⟨ret_br (x := b) E1.out.symm, ((Below.refl _ _).alloc (Nat.le_refl _) _).alloc (by simp) _⟩

theorem fin_open {b : Br} {g : Bool} {t : Int} (h : Ok b) (h1 : b.st = 1) : fin b g t = b := by
  have hs : stA b g = 1 := by unfold stA; rw [if_pos h1]
  have hf : faA b g = 0 := by unfold faA; rw [hs]; simp
  have h0 : b.fa = 0 := h.2.2.2.2.2.resolve_left (by omega)
  unfold fin
  rw [hs, hf, if_pos h1.symm]
  exact Br.ext' rfl rfl h1.symm h0.symm rfl
theorem fin_good_try {b : Br} {t : Int} (h : b.st = 2) : fin b true t = ⟨b.li, b.re, 0, 0, t⟩ := by
  have hs : stA b true = 0 := by unfold stA; rw [if_neg (by omega), if_pos rfl]
  unfold fin faA; rw [hs, if_pos (.inl rfl), if_neg (by omega)]
theorem fin_good_shut {b : Br} {t : Int} (h : b.st = 0) : fin b true t = ⟨b.li, b.re, b.st, 0, b.si⟩ := by
  have hs : stA b true = 0 := by unfold stA; rw [if_neg (by omega), if_pos rfl]
  unfold fin faA; rw [hs, if_pos (.inl rfl), if_pos h.symm, h]
theorem fin_bad_try {b : Br} {t : Int} (h : b.st = 2) : fin b false t = ⟨b.li, b.re, 1, 0, t⟩ := by
  have hs : stA b false = 1 := by unfold stA; rw [if_neg (by omega), if_neg (by simp), if_pos (.inl h)]
  unfold fin faA; rw [hs, if_pos (.inr (by omega)), if_neg (by omega)]
theorem fin_bad_limit {b : Br} {t : Int} (h : b.st = 0) (hl : b.fa + 1 = b.li) : fin b false t = ⟨b.li, b.re, 1, 0, t⟩ := by
  have hs : stA b false = 1 := by unfold stA; rw [if_neg (by omega), if_neg (by simp), if_pos (.inr hl)]
  unfold fin faA; rw [hs, if_pos (.inr (by omega)), if_neg (by omega)]
theorem fin_bad {b : Br} {t : Int} (h : b.st = 0) (hl : ¬ b.fa + 1 = b.li) : fin b false t = ⟨b.li, b.re, b.st, b.fa + 1, b.si⟩ := by
  have hs : stA b false = 0 := by unfold stA; rw [if_neg (by omega), if_neg (by simp), if_neg (by omega)]
  unfold fin faA; rw [hs, if_neg (by simp), if_pos h.symm, h]
set_option maxHeartbeats 4000000 in
theorem send_any (b : Br) (g : Bool) (t : Int) (w : World) (hv : momB b t = true) :
    Calls Try.prog 25 #[.agg #[.int .i64 b.li, .int .i64 b.re, .int .i64 b.st, .int .i64 b.fa, .int .i64 b.si], .bool g, .int .i64 t] w fun e w' => e = .returned (.agg #[.int .i64 (fin b g t).li, .int .i64 (fin b g t).re, .int .i64 (fin b g t).st, .int .i64 (fin b g t).fa, .int .i64 (fin b g t).si]) ∧ Below w.heap.size w w' := by
  have hb0 := (Below.refl w.heap.size w).alloc (Nat.le_refl _) (.cells #[.int .i64 b.li, .int .i64 b.re, .int .i64 b.st, .int .i64 b.fa, .int .i64 b.si] 24)
  clear hb0
  obtain ⟨⟨a1, a2⟩, ⟨a3, a4⟩, ⟨a5, a6⟩, ⟨a7, a8⟩, a9, a10, a11⟩ := mom_of hv
  have HO := hid (momB_iff.1 hv).1
  clear hv
  have hw1 : IntKind.i64.wrap (b.fa + 1) = b.fa + 1 := by rw [IntKind.wrap_i64]; omega
  by_cases h1 : b.st = 1
  · have he1 := beq_t h1
    have E1 := hid (fin_open (g := g) (t := t) HO.out h1)
    clear h1
    go_enter Try.func25, Try.ntmps25
    go_wp2
    refine bodyPost_ret (v := .agg #[.int .i64 b.li, .int .i64 b.re, .int .i64 b.st, .int .i64 b.fa, .int .i64 b.si]) (by simp [results, Try.results25, go_sem]) rfl ⟨ret_br (x := b) E1.out.symm, ((Below.refl _ _).alloc (Nat.le_refl _) _).alloc (by simp) _⟩
  · have he1 := beq_f h1
    by_cases h2 : b.st = 2
    · have he2 := beq_t h2
      cases g
      · have E1 := hid (fin_bad_try (t := t) h2)
        clear h1 h2
        go_enter Try.func25, Try.ntmps25
        go_wp2
        refine bodyPost_ret (v := .agg #[.int .i64 b.li, .int .i64 b.re, .int .i64 1, .int .i64 0, .int .i64 t]) (by simp [results, Try.results25, go_sem]) rfl ⟨ret_br (x := ⟨b.li, b.re, 1, 0, t⟩) E1.out.symm, ((Below.refl _ _).alloc (Nat.le_refl _) _).alloc (by simp) _⟩
      · have E1 := hid (fin_good_try (t := t) h2)
        clear h1 h2
        go_enter Try.func25, Try.ntmps25
        go_wp2
        refine bodyPost_ret (v := .agg #[.int .i64 b.li, .int .i64 b.re, .int .i64 0, .int .i64 0, .int .i64 t]) (by simp [results, Try.results25, go_sem]) rfl ⟨ret_br (x := ⟨b.li, b.re, 0, 0, t⟩) E1.out.symm, ((Below.refl _ _).alloc (Nat.le_refl _) _).alloc (by simp) _⟩
    · have he2 := beq_f h2
      have h0 : b.st = 0 := by omega
      cases g
      · by_cases h3 : b.fa + 1 = b.li
        · have E1 := hid (fin_bad_limit (t := t) h0 h3)
          have he3 := beq_t h3
          clear h0 h1 h2 h3
          go_enter Try.func25, Try.ntmps25
          go_wp2
          refine bodyPost_ret (v := .agg #[.int .i64 b.li, .int .i64 b.re, .int .i64 1, .int .i64 0, .int .i64 t]) (by simp [results, Try.results25, go_sem]) rfl ⟨ret_br (x := ⟨b.li, b.re, 1, 0, t⟩) E1.out.symm, ((Below.refl _ _).alloc (Nat.le_refl _) _).alloc (by simp) _⟩
        · have E1 := hid (fin_bad (t := t) h0 h3)
          have he3 := beq_f h3
          clear h0 h1 h2 h3
          go_enter Try.func25, Try.ntmps25
          go_wp2
          refine bodyPost_ret (v := .agg #[.int .i64 b.li, .int .i64 b.re, .int .i64 b.st, .int .i64 (b.fa + 1), .int .i64 b.si]) (by simp [results, Try.results25, go_sem]) rfl ⟨ret_br (x := ⟨b.li, b.re, b.st, b.fa + 1, b.si⟩) E1.out.symm, ((Below.refl _ _).alloc (Nat.le_refl _) _).alloc (by simp) _⟩
      · have E1 := hid (fin_good_shut (t := t) h0)
        clear h0 h1 h2
        go_enter Try.func25, Try.ntmps25
        go_wp2
        refine bodyPost_ret (v := .agg #[.int .i64 b.li, .int .i64 b.re, .int .i64 b.st, .int .i64 0, .int .i64 b.si]) (by simp [results, Try.results25, go_sem]) rfl ⟨ret_br (x := ⟨b.li, b.re, b.st, 0, b.si⟩) E1.out.symm, ((Below.refl _ _).alloc (Nat.le_refl _) _).alloc (by simp) _⟩

set_option maxHeartbeats 4000000 in
theorem istateAfter_any (b : Br) (g : Bool) (w : World) (h0 : 0 ≤ b.fa) (h8 : b.fa ≤ 8) :
    Calls Try.prog 29 #[.agg #[.int .i64 b.li, .int .i64 b.re, .int .i64 b.st, .int .i64 b.fa, .int .i64 b.si], .bool g] w fun e w' => e = .returned (.int .i64 (stA b g)) ∧ Below w.heap.size w w' := by
  have hb0 := (Below.refl w.heap.size w).alloc (Nat.le_refl _) (.cells #[.int .i64 b.li, .int .i64 b.re, .int .i64 b.st, .int .i64 b.fa, .int .i64 b.si] 24)
  have hw1 : IntKind.i64.wrap (b.fa + 1) = b.fa + 1 := by rw [IntKind.wrap_i64]; omega
  by_cases h1 : b.st = 1
  · have he1 := beq_t h1
    have E1 := hid (show stA b g = 1 by unfold stA; rw [if_pos h1])
    clear h1
    go_enter Try.func29, Try.ntmps29
    go_wp2
    go_ret
    exact ⟨ret_int E1.out.symm, hb0⟩
  · have he1 := beq_f h1
    cases g
    · by_cases h2 : b.st = 2
      · have he2 := beq_t h2
        have E1 := hid (show stA b false = 1 by unfold stA; rw [if_neg h1, if_neg (by simp), if_pos (.inl h2)])
        clear h1 h2
        go_enter Try.func29, Try.ntmps29
        go_wp2
        go_ret
        exact ⟨ret_int E1.out.symm, hb0⟩
      · have he2 := beq_f h2
        by_cases h3 : b.fa + 1 = b.li
        · have he3 := beq_t h3
          have E1 := hid (show stA b false = 1 by unfold stA; rw [if_neg h1, if_neg (by simp), if_pos (.inr h3)])
          clear h1 h2 h3
          go_enter Try.func29, Try.ntmps29
          go_wp2
          go_ret
          exact ⟨ret_int E1.out.symm, hb0⟩
        · have he3 := beq_f h3
          have E1 := hid (show stA b false = 0 by unfold stA; rw [if_neg h1, if_neg (by simp), if_neg (fun h => h.elim h2 h3)])
          clear h1 h2 h3
          go_enter Try.func29, Try.ntmps29
          go_wp2
          go_ret
          exact ⟨ret_int E1.out.symm, hb0⟩
    · have E1 := hid (show stA b true = 0 by unfold stA; rw [if_neg h1, if_pos rfl])
      clear h1
      go_enter Try.func29, Try.ntmps29
      go_wp2
      go_ret
      exact ⟨ret_int E1.out.symm, hb0⟩

set_option maxHeartbeats 4000000 in
theorem ifailsAfter_any (b : Br) (g : Bool) (w : World) (h0 : 0 ≤ b.fa) (h8 : b.fa ≤ 8) :
    Calls Try.prog 30 #[.agg #[.int .i64 b.li, .int .i64 b.re, .int .i64 b.st, .int .i64 b.fa, .int .i64 b.si], .bool g] w fun e w' => e = .returned (.int .i64 (faA b g)) ∧ Below w.heap.size w w' := by
  have hb0 := (Below.refl w.heap.size w).alloc (Nat.le_refl _) (.cells #[.int .i64 b.li, .int .i64 b.re, .int .i64 b.st, .int .i64 b.fa, .int .i64 b.si] 24)
  have px := At.new w 24 #[.int .i64 b.li, .int .i64 b.re, .int .i64 b.st, .int .i64 b.fa, .int .i64 b.si]
  have hw1 : IntKind.i64.wrap (b.fa + 1) = b.fa + 1 := by rw [IntKind.wrap_i64]; omega
  cases g
  · by_cases h1 : stA b false = 0
    · have E1 := hid (show faA b false = b.fa + 1 by unfold faA; rw [if_neg (by simp [h1])])
      have HS := hid h1
      clear h1
      go_enter Try.func30, Try.ntmps30
      go_wp2_with fail
      with_reducible refine (istateAfter_any b false _ h0 h8).mono ?_
      rintro e w1 ⟨he, hb1⟩
      rw [HS.out] at he
      subst he
      have px1 := px.below hb1 px.lt
      have hb := hb0.trans (hb1.mono hb0.size)
      clear px hb1
      obtain ⟨p0, p1, p2, p3, p4, pl⟩ := px1.brk
      go_wp2
      go_ret
      exact ⟨ret_int E1.out.symm, hb⟩
    · have E1 := hid (show faA b false = 0 by unfold faA; rw [if_pos (.inr h1)])
      obtain ⟨S, hS⟩ : ∃ S, S = stA b false := ⟨_, rfl⟩
      have HS : Hid (stA b false = S) := hid hS.symm
      rw [← hS] at h1
      have he1 := bne_t h1
      clear hS
      go_enter Try.func30, Try.ntmps30
      go_wp2_with fail
      with_reducible refine (istateAfter_any b false _ h0 h8).mono ?_
      rintro e w1 ⟨he, hb1⟩
      rw [HS.out] at he
      subst he
      have px1 := px.below hb1 px.lt
      have hb := hb0.trans (hb1.mono hb0.size)
      clear px hb1
      obtain ⟨p0, p1, p2, p3, p4, pl⟩ := px1.brk
      go_wp2
      go_ret
      exact ⟨ret_int E1.out.symm, hb⟩
  · have E1 := hid (show faA b true = 0 by unfold faA; rw [if_pos (.inl rfl)])
    clear px
    go_enter Try.func30, Try.ntmps30
    go_wp2
    go_ret
    exact ⟨ret_int E1.out.symm, hb0⟩

end Go.Proofs.Ytmaocmgnkdieeab

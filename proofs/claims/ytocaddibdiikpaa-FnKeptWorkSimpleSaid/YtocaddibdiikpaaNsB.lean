/-
  What ValidNest answers, the program's and the model's. Condition: the list lies in memory.
-/
import Derived.Test.YtocaddibdiikpaaNsA
import Derived.BigQuiet
namespace Go.Proofs.Ytocaddibdiikpaa
open Go.RowKit Nes

theorem ok_of {s : Nst} (h1 : 0 ≤ s.d ∧ s.d ≤ 4) (h2 : 0 ≤ s.w ∧ s.w ≤ 12) (h3 : (s.m.length : Int) = s.d) (h4 : s.m.getD 0 0 = 0) (h5 : Brk.nofall s.m = true) (h6 : s.m.getD (s.m.length - 1) 0 ≤ s.w) (h7 : 0 < s.d) : nestB s = true :=
  nestB_iff.2 ⟨h1, h2, h3, h4, h5, marks_all h5 h4 h6, fun e => by omega⟩
/-- Marks that fit. -/
def fitB (s : Nst) : Bool := decide (s.m.getD 0 0 = 0 ∧ Brk.nofall s.m = true ∧ ∀ x ∈ s.m, 0 ≤ x ∧ x ≤ s.w)
theorem fitB_iff {s : Nst} : fitB s = true ↔ s.m.getD 0 0 = 0 ∧ Brk.nofall s.m = true ∧ ∀ x ∈ s.m, 0 ≤ x ∧ x ≤ s.w := by unfold fitB; simp
theorem nest_fit {s : Nst} (h1 : inB s.d 0 4 = true) (h2 : (s.m.length : Int) = s.d) (h3 : inB s.w 0 12 = true) (h4 : fitB s = true) : nestB s = (decide (0 < s.d) || decide (s.w = 0) && !s.b) := by
  have a := inB_iff.1 h1
  have b := inB_iff.1 h3
  obtain ⟨f1, f2, f3⟩ := fitB_iff.1 h4
  rw [Bool.eq_iff_iff, nestB_iff]
  constructor
  · rintro ⟨_, _, _, _, _, _, h⟩
    by_cases hd : 0 < s.d
    · simp [hd]
    · obtain ⟨e1, e2⟩ := h (by omega)
      simp [e1, e2]
  · intro h
    refine ⟨a, b, h2, f1, f2, f3, fun e => ?_⟩
    simp only [Bool.or_eq_true, Bool.and_eq_true, decide_eq_true_eq, Bool.not_eq_true'] at h
    rcases h with h | h
    · omega
    · exact h
theorem nest_nofit {s : Nst} (h4 : fitB s = false) : nestB s = false := by
  rw [Bool.eq_false_iff]
  intro e
  obtain ⟨_, _, _, h1, h2, h3, _⟩ := nestB_iff.1 e
  rw [fitB_iff.2 ⟨h1, h2, h3⟩] at h4
  cases h4

set_option maxHeartbeats 4000000 in
theorem iValidNest_any (s : Nst) (A1 : Option Addr) (c1 : Nat) (w : World) (h : SeesM w w.heap.size A1 s) (_hc : s.m.length ≤ c1) (h1 : s.m.length ≤ 4194304) :
    Calls Try.prog 16 #[.agg #[.int .i64 s.d, .int .i64 s.w, .slice A1 s.m.length c1, .bool s.b]] w fun e w' => e = .returned (.bool (nestB s)) ∧ Below w.heap.size w w' := by
  have H1 := hid h1
  have px0 := At.new w 25 #[.int .i64 s.d, .int .i64 s.w, .slice A1 s.m.length c1, .bool s.b]
  have hB0 := (Below.refl w.heap.size w).alloc (Nat.le_refl _) (.cells #[.int .i64 s.d, .int .i64 s.w, .slice A1 s.m.length c1, .bool s.b] 25)
  have hs0 := h.on hB0
  obtain ⟨p0, p1, p2, p3, pl, pf⟩ := px0.four
  clear h1
  by_cases x1 : s.d < 0
  · skip
    have E := hid (nest_no (n := s) (fun h => by have := h.1.1; omega))
    go_enter Try.func16, Try.ntmps16
    go_wp2
    go_ret
    exact ⟨ret_bool E.out.symm, hB0⟩
  by_cases x2 : s.d > 4
  · skip
    have E := hid (nest_no (n := s) (fun h => by have := h.1.2; omega))
    go_enter Try.func16, Try.ntmps16
    go_wp2
    go_ret
    exact ⟨ret_bool E.out.symm, hB0⟩
  by_cases x3 : s.w < 0
  · skip
    have E := hid (nest_no (n := s) (fun h => by have := h.2.1.1; omega))
    go_enter Try.func16, Try.ntmps16
    go_wp2
    go_ret
    exact ⟨ret_bool E.out.symm, hB0⟩
  by_cases x4 : s.w > 12
  · skip
    have E := hid (nest_no (n := s) (fun h => by have := h.2.1.2; omega))
    go_enter Try.func16, Try.ntmps16
    go_wp2
    go_ret
    exact ⟨ret_bool E.out.symm, hB0⟩
  by_cases x5 : (s.m.length : Int) ≠ s.d
  · skip
    have E := hid (nest_no (n := s) (fun h => by have := h.2.2.1; omega))
    have x5b : ((s.m.length : Int) != s.d) = true := by simpa using x5
    go_enter Try.func16, Try.ntmps16
    go_wp2
    go_ret
    exact ⟨ret_bool E.out.symm, hB0⟩
  have x5e : (s.m.length : Int) = s.d := by omega
  have x5b : ((s.m.length : Int) != s.d) = false := by simp [x5e]
  have X5 := hid x5e
  clear x5
  by_cases x6 : s.d = 0
  · skip
    have x6b : (s.d == 0) = true := by simp [x6]
    have HZ : Hid (((s.w == 0) && !s.b) = nestB s) := hid (by
      rw [Bool.eq_iff_iff, nestB_iff]
      simp only [Bool.and_eq_true, beq_iff_eq, Bool.not_eq_true']
      constructor
      · rintro ⟨e1, e2⟩
        have hm : s.m = [] := List.eq_nil_of_length_eq_zero (by omega)
        refine ⟨by omega, by omega, x5e, by rw [hm]; rfl, by rw [hm]; decide, by rw [hm]; simp, fun _ => ⟨e1, e2⟩⟩
      · rintro ⟨_, _, _, _, _, _, h⟩
        exact h x6)
    have X6 := hid x6
    clear x5e x6
    rcases hw0 : (s.w == 0) with _ | _
    · skip
      rw [hw0] at HZ
      have E := HZ
      go_enter Try.func16, Try.ntmps16
      go_wp2
      go_ret
      exact ⟨ret_bool E.out, hB0⟩
    · skip
      rw [hw0] at HZ
      have E := HZ
      go_enter Try.func16, Try.ntmps16
      go_wp2
      go_ret
      exact ⟨ret_bool E.out, hB0⟩
  have x6b : (s.d == 0) = false := beq_eq_false_iff_ne.2 x6
  have hdp : 0 < s.d := by omega
  have hl0 : 0 < s.m.length := by omega
  obtain ⟨b, o, rfl, _, hc0⟩ := hs0.marks.int hl0
  obtain ⟨b2, o2, e2, _, hcn⟩ := hs0.marks.int (show s.m.length - 1 < s.m.length by omega)
  injection e2 with e2
  injection e2 with e2 e3
  subst e2 e3
  have hg0 : s.m.getD 0 0 = s.m[0] := getD_get hl0
  have hgn : s.m.getD (s.m.length - 1) 0 = s.m[s.m.length - 1] := getD_get (by omega)
  have HNO0 := hid (fun (e : ¬ s.m[0] = 0) => nest_no (n := s) (fun h => e (by have := h.2.2.2.1; omega)))
  have HNO1 := hid (fun (e : Brk.nofall s.m = false) => nest_no (n := s) (fun h => by have := h.2.2.2.2.1; rw [e] at this; cases this))
  have HNO2 := hid (fun (e : ¬ s.m[s.m.length - 1] ≤ s.w) => nest_no (n := s) (fun h => e (h.2.2.2.2.2.1 _ (List.getElem_mem _)).2))
  have HYES := hid (fun (e0 : s.m[0] = 0) (e1 : Brk.nofall s.m = true) (e2 : s.m[s.m.length - 1] ≤ s.w) => ok_of (s := s) ⟨by omega, by omega⟩ ⟨by omega, by omega⟩ x5e (by omega) e1 (by omega) hdp)
  obtain ⟨x, hx⟩ : ∃ x, x = s.m[0] := ⟨_, rfl⟩
  obtain ⟨y, hy⟩ : ∃ y, y = s.m[s.m.length - 1] := ⟨_, rfl⟩
  rw [← hx] at hc0 HNO0 HYES
  rw [← hy] at hcn HNO2 HYES
  obtain ⟨n, hn⟩ : ∃ n, n = s.m.length - 1 := ⟨_, rfl⟩
  rw [← hn] at hcn
  have hw1 : IntKind.i64.wrap (s.d - 1) = (n : Int) := by rw [IntKind.wrap_i64]; omega
  have hn1 : (n : Int) < (s.m.length : Int) := by omega
  have hn0 : (0 : Int) ≤ (n : Int) := by omega
  have hl1 : (0 : Int) < (s.m.length : Int) := by omega
  clear hx hy hg0 hgn x5e hn
  simp only [Nat.add_zero] at hc0
  by_cases hx0 : x = 0
  · skip
    have hxb : (x == 0) = true := by simp [hx0]
    rcases hf : Brk.nofall s.m with _ | _
    · skip
      have E := hid (HNO1.out hf)
      have HF := hid hf
      clear hf
      go_enter Try.func16, Try.ntmps16
      go_wp2
      go_quiet ((go_at_call 36; (with_reducible refine (neverFallsN_q _ c1 s.m _ _ hs0.marks H1.out).mono ?_); rintro e w9 ⟨he, hq⟩; rw [HF.out] at he; exact ⟨he, hq⟩))
      go_wp2
      go_ret
      exact ⟨ret_bool E.out.symm, below_drewN hB0 _⟩
    · skip
      have HF := hid hf
      have HY2 := hid (fun e2 => HYES.out hx0 hf e2)
      clear hf
      by_cases hy0 : y ≤ s.w
      · skip
        have E := hid (HY2.out hy0)
        have hyb : decide (y ≤ s.w) = true := by simpa using hy0
        go_enter Try.func16, Try.ntmps16
        go_wp2
        go_quiet ((go_at_call 36; (with_reducible refine (neverFallsN_q _ c1 s.m _ _ hs0.marks H1.out).mono ?_); rintro e w9 ⟨he, hq⟩; rw [HF.out] at he; exact ⟨he, hq⟩))
        go_wp2
        go_ret
        exact ⟨ret_bool E.out.symm, below_drewN hB0 _⟩
      · skip
        have E := hid (HNO2.out hy0)
        have hyb : decide (y ≤ s.w) = false := by simpa using hy0
        go_enter Try.func16, Try.ntmps16
        go_wp2
        go_quiet ((go_at_call 36; (with_reducible refine (neverFallsN_q _ c1 s.m _ _ hs0.marks H1.out).mono ?_); rintro e w9 ⟨he, hq⟩; rw [HF.out] at he; exact ⟨he, hq⟩))
        go_wp2
        go_ret
        exact ⟨ret_bool E.out.symm, below_drewN hB0 _⟩
  · skip
    have hxb : (x == 0) = false := beq_eq_false_iff_ne.2 hx0
    have E := hid (HNO0.out hx0)
    go_enter Try.func16, Try.ntmps16
    go_wp2
    go_quiet (fail)
    go_wp2
    go_ret
    exact ⟨ret_bool E.out.symm, below_drewN hB0 _⟩

set_option maxHeartbeats 4000000 in
theorem smarksFit_any (s : Nst) (A1 : Option Addr) (c1 : Nat) (w : World) (h : SeesM w w.heap.size A1 s) (h1 : s.m.length ≤ 4194304) :
    Calls Try.prog 43 #[.agg #[.int .i64 s.d, .int .i64 s.w, .slice A1 s.m.length c1, .bool s.b]] w fun e w' => e = .returned (.bool (fitB s)) ∧ Below w.heap.size w w' := by
  have H1 := hid h1
  have px0 := At.new w 25 #[.int .i64 s.d, .int .i64 s.w, .slice A1 s.m.length c1, .bool s.b]
  have hB0 := (Below.refl w.heap.size w).alloc (Nat.le_refl _) (.cells #[.int .i64 s.d, .int .i64 s.w, .slice A1 s.m.length c1, .bool s.b] 25)
  have hs0 := h.on hB0
  obtain ⟨p0, p1, p2, p3, pl, pf⟩ := px0.four
  clear h1
  have px := px0
  clear p0 p1 p2 p3 pl pf px0
  go_enter Try.func43, Try.ntmps43
  go_wp2
  skip
  go_loopw [3] (fun i wr => ∃ k : Nat, k ≤ s.m.length ∧ i = .int .i64 k ∧ Below w.heap.size w wr ∧ At wr w.heap.size 25 #[.int .i64 s.d, .int .i64 s.w, .slice A1 s.m.length c1, .bool s.b] ∧ Hid ((0 < k → s.m.getD 0 0 = 0) ∧ (∀ j, j + 1 < k → s.m.getD j 0 ≤ s.m.getD (j + 1) 0) ∧ ∀ x ∈ s.m.take k, 0 ≤ x ∧ x ≤ s.w)) (fun i _ => s.m.length - (intOf i).toNat)
  case atStart => exact ⟨0, Nat.zero_le _, rfl, hB0, px, hid ⟨by omega, by omega, by simp⟩⟩
  case round =>
    clear px hB0 hs0
    obtain ⟨k, hk, rfl, hB, px, HI⟩ := hrel
    obtain ⟨p0, p1, p2, p3, pl, pf⟩ := px.four
    have hn := H1.out
    have hs := h.on hB
    by_cases hlt : k < s.m.length
    · skip
      have hi : (k : Int) < (s.m.length : Int) := by omega
      have HFN := hid (fun (e : ¬ (0 ≤ s.m[k] ∧ s.m[k] ≤ s.w)) => (show fitB s = false from Bool.eq_false_iff.2 fun f => e ((fitB_iff.1 f).2.2 _ (List.getElem_mem hlt))))
      have HTK := hid (fun (e : 0 ≤ s.m[k] ∧ s.m[k] ≤ s.w) => all_take_succ (p := fun x => 0 ≤ x ∧ x ≤ s.w) hlt HI.out.2.2 e)
      cases k with
      | zero =>
        obtain ⟨b, o, rfl, _, hc1⟩ := hs.marks.int hlt
        have hg0 : s.m.getD 0 0 = s.m[0] := getD_get hlt
        have HZ := hid (fun (e : ¬ s.m[0] = 0) => (show fitB s = false from Bool.eq_false_iff.2 fun f => e (by have := (fitB_iff.1 f).1; omega)))
        have HG := hid (fun (e : s.m[0] = 0) => (show s.m.getD 0 0 = 0 by omega))
        obtain ⟨x, hx⟩ : ∃ x, x = s.m[0] := ⟨_, rfl⟩
        rw [← hx] at hc1 HFN HTK HZ HG
        simp only [Nat.add_zero] at hc1
        have hl1 : (0 : Int) < (s.m.length : Int) := by omega
        clear hx hg0
        rcases hr : inB x 0 s.w with _ | _
        · skip
          have HX := hid hr
          have E := hid (HFN.out (fun e => by rw [inB_iff.2 e] at hr; cases hr))
          clear hr
          go_wp2
          go_quiet ((go_at_call 42; exact Calls.quiet_of_same ((inRange_any _ _ _ _).mono fun _ _ ⟨he, hw⟩ => ⟨by rw [he, HX.out], hw.symm⟩)))
          go_wp2
          go_ret
          exact ⟨ret_bool E.out.symm, below_drewN hB _⟩
        · skip
          have HX := hid hr
          have HT2 := hid (HTK.out (inB_iff.1 hr))
          clear hr
          by_cases hx0 : x = 0
          · skip
            have hxb : (x != 0) = false := by simp [hx0]
            have HGG := hid (HG.out hx0)
            clear hx0
            go_wp2
            go_quiet ((go_at_call 42; exact Calls.quiet_of_same ((inRange_any _ _ _ _).mono fun _ _ ⟨he, hw⟩ => ⟨by rw [he, HX.out], hw.symm⟩)))
            go_wp2
            go_roundw
            case rel => exact ⟨0 + 1, by omega, by go_num, below_drewN hB _, px.drewN _, hid ⟨fun _ => HGG.out, by omega, HT2.out⟩⟩
            case measure => simp [intOf]; omega
          · skip
            have hxb : (x != 0) = true := by simpa using hx0
            have E := hid (HZ.out hx0)
            clear hx0
            go_wp2
            go_quiet ((go_at_call 42; exact Calls.quiet_of_same ((inRange_any _ _ _ _).mono fun _ _ ⟨he, hw⟩ => ⟨by rw [he, HX.out], hw.symm⟩)))
            go_wp2
            go_ret
            exact ⟨ret_bool E.out.symm, below_drewN hB _⟩
      | succ k =>
        obtain ⟨b, o, rfl, _, hc1⟩ := hs.marks.int hlt
        obtain ⟨b2, o2, e1, _, hc2⟩ := hs.marks.int (show k < s.m.length by omega)
        injection e1 with e1
        injection e1 with e1 e2
        subst e1 e2
        have HS := hid (fun (hh : s.m[k + 1] < s.m[k]) => (show fitB s = false from Bool.eq_false_iff.2 fun f => by have := (fitB_iff.1 f).2.1; rw [nofall_noN hlt hh] at this; cases this))
        have HM := hid (fun (hh : ¬ s.m[k + 1] < s.m[k]) => nofall_nextN hlt hh HI.out.2.1)
        have HZ := hid (HI.out.1 (by omega))
        obtain ⟨x, hx⟩ : ∃ x, x = s.m[k + 1] := ⟨_, rfl⟩
        obtain ⟨y, hy⟩ : ∃ y, y = s.m[k] := ⟨_, rfl⟩
        rw [← hx] at hc1 HS HM HFN HTK
        rw [← hy] at hc2 HS HM
        clear hx hy HI
        have hk1 : (k : Int) < (s.m.length : Int) := by omega
        have hk0 : ((k + 1 : Nat) : Int) > 0 := by omega
        have hk0b : (0 : Int) < ((k + 1 : Nat) : Int) := by omega
        have hke : (((k + 1 : Nat) : Int) == 0) = false := beq_eq_false_iff_ne.2 (by omega)
        have hw1 : IntKind.i64.wrap (((k + 1 : Nat) : Int) - 1) = (k : Int) := by rw [IntKind.wrap_i64]; omega
        have hke2 : ((k : Int) + 1 == 0) = false := beq_eq_false_iff_ne.2 (by omega)
        have hk02 : (0 : Int) < (k : Int) + 1 := by omega
        have hk03 : decide ((0 : Int) < (k : Int) + 1) = true := by simp
        have hw2 : IntKind.i64.wrap ((k : Int) + 1 - 1) = (k : Int) := by rw [IntKind.wrap_i64]; omega
        have hi2 : (k : Int) + 1 < (s.m.length : Int) := by omega
        rcases hr : inB x 0 s.w with _ | _
        · skip
          have HX := hid hr
          have E := hid (HFN.out (fun e => by rw [inB_iff.2 e] at hr; cases hr))
          clear hr
          go_wp2
          go_quiet ((go_at_call 42; exact Calls.quiet_of_same ((inRange_any _ _ _ _).mono fun _ _ ⟨he, hw⟩ => ⟨by rw [he, HX.out], hw.symm⟩)))
          go_wp2
          go_ret
          exact ⟨ret_bool E.out.symm, below_drewN hB _⟩
        · skip
          have HX := hid hr
          have HT2 := hid (HTK.out (inB_iff.1 hr))
          clear hr
          by_cases hxy : x < y
          · skip
            have hxb : decide (x < y) = true := by simpa using hxy
            have E := hid (HS.out hxy)
            go_wp2
            go_quiet ((go_at_call 42; exact Calls.quiet_of_same ((inRange_any _ _ _ _).mono fun _ _ ⟨he, hw⟩ => ⟨by rw [he, HX.out], hw.symm⟩)))
            go_wp2
            go_ret
            exact ⟨ret_bool E.out.symm, below_drewN hB _⟩
          · skip
            have hxb : decide (x < y) = false := by simpa using hxy
            have HMM := hid (HM.out hxy)
            go_wp2
            go_quiet ((go_at_call 42; exact Calls.quiet_of_same ((inRange_any _ _ _ _).mono fun _ _ ⟨he, hw⟩ => ⟨by rw [he, HX.out], hw.symm⟩)))
            go_wp2
            go_roundw
            case rel => exact ⟨k + 1 + 1, by omega, by go_num, below_drewN hB _, px.drewN _, hid ⟨fun _ => HZ.out, HMM.out, HT2.out⟩⟩
            case measure => simp [intOf]; omega
    · skip
      have hi : ¬ (k : Int) < (s.m.length : Int) := by omega
      have E : Hid (fitB s = true) := hid (fitB_iff.2 ⟨by
        rcases Nat.eq_zero_or_pos k with e | e
        · have : s.m = [] := List.eq_nil_of_length_eq_zero (by omega)
          rw [this]; rfl
        · exact HI.out.1 e, Brk.nofall_iff.2 fun j hj => HI.out.2.1 j (by omega), by have := HI.out.2.2; rwa [take_whole hlt] at this⟩)
      go_wp2
      go_ret
      exact ⟨ret_bool E.out.symm, hB⟩

set_option maxHeartbeats 4000000 in
theorem svalidState_any (s : Nst) (A1 : Option Addr) (c1 : Nat) (w : World) (h : SeesM w w.heap.size A1 s) (h1 : s.m.length ≤ 4194304) :
    Calls Try.prog 34 #[.agg #[.int .i64 s.d, .int .i64 s.w, .slice A1 s.m.length c1, .bool s.b]] w fun e w' => e = .returned (.bool (nestB s)) ∧ Below w.heap.size w w' := by
  have H1 := hid h1
  have px0 := At.new w 25 #[.int .i64 s.d, .int .i64 s.w, .slice A1 s.m.length c1, .bool s.b]
  have hB0 := (Below.refl w.heap.size w).alloc (Nat.le_refl _) (.cells #[.int .i64 s.d, .int .i64 s.w, .slice A1 s.m.length c1, .bool s.b] 25)
  have hs0 := h.on hB0
  obtain ⟨p0, p1, p2, p3, pl, pf⟩ := px0.four
  clear h1
  rcases h2 : inB s.d 0 4 with _ | _
  · skip
    have HD := hid h2
    have E := hid (nest_no (n := s) (fun e => by rw [inB_iff.2 e.1] at h2; cases h2))
    clear h2
    go_enter Try.func34, Try.ntmps34
    go_wp2_with fail
    with_reducible refine (inRange_any _ _ _ _).mono ?_
    rintro e w' ⟨he, rfl⟩
    rw [HD.out] at he
    subst he
    go_wp2
    go_ret
    exact ⟨ret_bool E.out.symm, hB0⟩
  have HD := hid h2
  by_cases x5 : (s.m.length : Int) = s.d
  · skip
    have x5b : ((s.m.length : Int) == s.d) = true := by simp [x5]
    rcases h3 : inB s.w 0 12 with _ | _
    · skip
      have HW := hid h3
      have E := hid (nest_no (n := s) (fun e => by rw [inB_iff.2 e.2.1] at h3; cases h3))
      clear h2 h3 x5
      go_enter Try.func34, Try.ntmps34
      go_wp2_with fail
      with_reducible refine (inRange_any _ _ _ _).mono ?_
      rintro e w' ⟨he, rfl⟩
      rw [HD.out] at he
      subst he
      go_wp2_with fail
      with_reducible refine (inRange_any _ _ _ _).mono ?_
      rintro e w' ⟨he, rfl⟩
      rw [HW.out] at he
      subst he
      go_wp2
      go_ret
      exact ⟨ret_bool E.out.symm, hB0⟩
    have HW := hid h3
    rcases h4 : fitB s with _ | _
    · skip
      have HF := hid h4
      have E := hid (nest_nofit h4)
      clear h2 h3 h4 x5
      go_enter Try.func34, Try.ntmps34
      go_wp2_with fail
      with_reducible refine (inRange_any _ _ _ _).mono ?_
      rintro e w' ⟨he, rfl⟩
      rw [HD.out] at he
      subst he
      go_wp2_with fail
      with_reducible refine (inRange_any _ _ _ _).mono ?_
      rintro e w' ⟨he, rfl⟩
      rw [HW.out] at he
      subst he
      go_wp2_with fail
      with_reducible refine (smarksFit_any s A1 c1 _ hs0 H1.out).mono ?_
      rintro e w1 ⟨he, hb1⟩
      rw [HF.out] at he
      subst he
      have px1 := px0.below hb1 px0.lt
      have hB1 := hB0.trans (hb1.mono hB0.size)
      clear p0 p1 p2 p3 pl pf px0 hB0 hs0 hb1
      obtain ⟨p0, p1, p2, p3, pl, pf⟩ := px1.four
      go_wp2
      go_ret
      exact ⟨ret_bool E.out.symm, hB1⟩
    · skip
      have HF := hid h4
      have HE := hid (nest_fit h2 x5 h3 h4)
      clear h2 h3 h4 x5
      by_cases hd : 0 < s.d
      · skip
        have hd1 : s.d > 0 := hd
        have E := hid (show nestB s = true by rw [HE.out]; simp [hd])
        go_enter Try.func34, Try.ntmps34
        go_wp2_with fail
        with_reducible refine (inRange_any _ _ _ _).mono ?_
        rintro e w' ⟨he, rfl⟩
        rw [HD.out] at he
        subst he
        go_wp2_with fail
        with_reducible refine (inRange_any _ _ _ _).mono ?_
        rintro e w' ⟨he, rfl⟩
        rw [HW.out] at he
        subst he
        go_wp2_with fail
        with_reducible refine (smarksFit_any s A1 c1 _ hs0 H1.out).mono ?_
        rintro e w1 ⟨he, hb1⟩
        rw [HF.out] at he
        subst he
        have px1 := px0.below hb1 px0.lt
        have hB1 := hB0.trans (hb1.mono hB0.size)
        clear p0 p1 p2 p3 pl pf px0 hB0 hs0 hb1
        obtain ⟨p0, p1, p2, p3, pl, pf⟩ := px1.four
        go_wp2
        go_ret
        exact ⟨ret_bool E.out.symm, hB1⟩
      · skip
        have hd1 : ¬ s.d > 0 := hd
        by_cases hw0 : s.w = 0
        · skip
          have hwb : (s.w == 0) = true := by simp [hw0]
          have hd2 : decide (0 < s.d) = false := by simpa using hd
          have E := hid (show nestB s = !s.b by rw [HE.out]; simp [hd, hw0])
          clear hw0
          go_enter Try.func34, Try.ntmps34
          go_wp2_with fail
          with_reducible refine (inRange_any _ _ _ _).mono ?_
          rintro e w' ⟨he, rfl⟩
          rw [HD.out] at he
          subst he
          go_wp2_with fail
          with_reducible refine (inRange_any _ _ _ _).mono ?_
          rintro e w' ⟨he, rfl⟩
          rw [HW.out] at he
          subst he
          go_wp2_with fail
          with_reducible refine (smarksFit_any s A1 c1 _ hs0 H1.out).mono ?_
          rintro e w1 ⟨he, hb1⟩
          rw [HF.out] at he
          subst he
          have px1 := px0.below hb1 px0.lt
          have hB1 := hB0.trans (hb1.mono hB0.size)
          clear p0 p1 p2 p3 pl pf px0 hB0 hs0 hb1
          obtain ⟨p0, p1, p2, p3, pl, pf⟩ := px1.four
          go_wp2
          go_ret
          exact ⟨ret_bool E.out.symm, hB1⟩
        · skip
          have hwb : (s.w == 0) = false := beq_eq_false_iff_ne.2 hw0
          have hd2 : decide (0 < s.d) = false := by simpa using hd
          have E := hid (show nestB s = false by rw [HE.out]; simp [hd, hw0])
          clear hw0
          go_enter Try.func34, Try.ntmps34
          go_wp2_with fail
          with_reducible refine (inRange_any _ _ _ _).mono ?_
          rintro e w' ⟨he, rfl⟩
          rw [HD.out] at he
          subst he
          go_wp2_with fail
          with_reducible refine (inRange_any _ _ _ _).mono ?_
          rintro e w' ⟨he, rfl⟩
          rw [HW.out] at he
          subst he
          go_wp2_with fail
          with_reducible refine (smarksFit_any s A1 c1 _ hs0 H1.out).mono ?_
          rintro e w1 ⟨he, hb1⟩
          rw [HF.out] at he
          subst he
          have px1 := px0.below hb1 px0.lt
          have hB1 := hB0.trans (hb1.mono hB0.size)
          clear p0 p1 p2 p3 pl pf px0 hB0 hs0 hb1
          obtain ⟨p0, p1, p2, p3, pl, pf⟩ := px1.four
          go_wp2
          go_ret
          exact ⟨ret_bool E.out.symm, hB1⟩
  · skip
    have x5b : ((s.m.length : Int) == s.d) = false := beq_eq_false_iff_ne.2 x5
    have E := hid (nest_no (n := s) (fun e => x5 e.2.2.1))
    clear h2 x5
    go_enter Try.func34, Try.ntmps34
    go_wp2_with fail
    with_reducible refine (inRange_any _ _ _ _).mono ?_
    rintro e w' ⟨he, rfl⟩
    rw [HD.out] at he
    subst he
    go_wp2
    go_ret
    exact ⟨ret_bool E.out.symm, hB0⟩

end Go.Proofs.Ytocaddibdiikpaa

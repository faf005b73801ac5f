/-
  What the functions on ages answer that give one number or a truth value: the program's and the model's. Condition: the list lies in memory.
-/
import Derived.Test.YtlonmmkioaejmacAgA
import Derived.Deep.RegionHeld3
import Derived.Handy
namespace Go.Proofs.Ytlonmmkioaejmac
open Go.RowKit Age

theorem span_inB (n : Int) : spanB n = inB n 1 1000 := rfl
theorem time_inB (n : Int) : timeB n = inB n 0 1000 := rfl
theorem life_no {c life : Int} (h : (decide (0 ≤ c ∧ c < 6) && spanB life) = false) : Age.lifeOf c life = -1 := by unfold Age.lifeOf; rw [h]; rfl
theorem life_yes {c life : Int} (h0 : 0 ≤ c) (h6 : c < 6) (h : spanB life = true) : Age.lifeOf c life = lifeV c life := by unfold Age.lifeOf; rw [h, decide_eq_true ⟨h0, h6⟩]; rfl

set_option maxHeartbeats 400000 in
theorem validSpan_any (n : Int) (w : World) :
    Calls Try.prog 25 #[.int .i64 n] w fun e w' => e = .returned (.bool (spanB n)) ∧ w = w' := by
  unfold spanB
  by_cases h1 : 1 ≤ n
  · go_enter Try.func25, Try.ntmps25
    go_wp2
    go_ret
    exact ⟨ret_bool (by first | (simp; done) | (simp; omega)), rfl⟩
  · go_enter Try.func25, Try.ntmps25
    go_wp2
    go_ret
    exact ⟨ret_bool (by first | (simp; done) | (simp; omega)), rfl⟩

set_option maxHeartbeats 400000 in
theorem validTime_any (n : Int) (w : World) :
    Calls Try.prog 24 #[.int .i64 n] w fun e w' => e = .returned (.bool (timeB n)) ∧ w = w' := by
  unfold timeB
  by_cases h1 : 0 ≤ n
  · go_enter Try.func24, Try.ntmps24
    go_wp2
    go_ret
    exact ⟨ret_bool (by first | (simp; done) | (simp; omega)), rfl⟩
  · go_enter Try.func24, Try.ntmps24
    go_wp2
    go_ret
    exact ⟨ret_bool (by first | (simp; done) | (simp; omega)), rfl⟩

set_option maxHeartbeats 1000000 in
theorem iLifeOf_any (c life : Int) (w : World) :
    Calls Try.prog 13 #[.int .i64 c, .int .i64 life] w fun e w' => e = .returned (.int .i64 (Age.lifeOf c life)) ∧ w = w' := by
  by_cases h0 : 0 ≤ c
  · by_cases h6 : c < 6
    · rcases hs : spanB life with _ | _
      · have E := hid (life_no (c := c) (life := life) (by rw [hs]; simp))
        have HS := hid hs
        clear hs
        go_enter Try.func13, Try.ntmps13
        go_wp2_with fail
        refine (validSpan_any life _).mono ?_
        rintro e w1 ⟨he, rfl⟩
        rw [HS.out] at he
        subst he
        go_wp2
        go_ret
        exact ⟨ret_int E.out.symm, rfl⟩
      · have E := hid (life_yes h0 h6 hs)
        obtain ⟨s1, s2⟩ := spanB_iff.1 hs
        have HS := hid hs
        clear hs
        have hr0 : 0 ≤ c * 7 % 10 := by omega
        have hr9 : c * 7 % 10 ≤ 9 := by omega
        obtain ⟨m0, m1⟩ := mul_bounds s1 s2 hr0 hr9
        have m2 : life * (c * 7 % 10) ≤ 9000 := by omega
        have q0 : 0 ≤ life * (c * 7 % 10) / 50 := by omega
        have q1 : life * (c * 7 % 10) / 50 ≤ 180 := by omega
        have hw1 : IntKind.i64.wrap (life * (c * 7 % 10)) = life * (c * 7 % 10) := by rw [IntKind.wrap_i64]; omega
        have hw2 : IntKind.i64.wrap (life - life * (c * 7 % 10) / 50) = life - life * (c * 7 % 10) / 50 := by rw [IntKind.wrap_i64]; omega
        clear m1
        go_enter Try.func13, Try.ntmps13
        go_wp2_with fail
        refine (validSpan_any life _).mono ?_
        rintro e w1 ⟨he, rfl⟩
        rw [HS.out] at he
        subst he
        go_wp2
        go_ret
        exact ⟨ret_int (by rw [E.out]; unfold lifeV; first | rfl | omega), rfl⟩
    · have E := hid (life_no (c := c) (life := life) (by rw [decide_eq_false (by omega)]; rfl))
      go_enter Try.func13, Try.ntmps13
      go_wp2
      go_ret
      exact ⟨ret_int E.out.symm, rfl⟩
  · have E := hid (life_no (c := c) (life := life) (by rw [decide_eq_false (by omega)]; rfl))
    go_enter Try.func13, Try.ntmps13
    go_wp2
    go_ret
    exact ⟨ret_int E.out.symm, rfl⟩

set_option maxHeartbeats 1000000 in
theorem slifeOf_any (c life : Int) (w : World) (h0 : 0 ≤ c) (h6 : c < 6) (hs : spanB life = true) :
    Calls Try.prog 29 #[.int .i64 c, .int .i64 life] w fun e w' => e = .returned (.int .i64 (lifeV c life)) ∧ w = w' := by
  obtain ⟨s1, s2⟩ := spanB_iff.1 hs
  clear hs
  have hr0 : 0 ≤ c * 7 % 10 := by omega
  have hr9 : c * 7 % 10 ≤ 9 := by omega
  obtain ⟨m0, m1⟩ := mul_bounds s1 s2 hr0 hr9
  have m2 : life * (c * 7 % 10) ≤ 9000 := by omega
  have q0 : 0 ≤ life * (c * 7 % 10) / 50 := by omega
  have q1 : life * (c * 7 % 10) / 50 ≤ 180 := by omega
  have hw1 : IntKind.i64.wrap (life * (c * 7 % 10)) = life * (c * 7 % 10) := by rw [IntKind.wrap_i64]; omega
  have hw2 : IntKind.i64.wrap (life - life * (c * 7 % 10) / 50) = life - life * (c * 7 % 10) / 50 := by rw [IntKind.wrap_i64]; omega
  clear m1
  go_enter Try.func29, Try.ntmps29
  go_wp2
  go_ret
  exact ⟨ret_int (by unfold lifeV; first | rfl | omega), rfl⟩

set_option maxHeartbeats 2000000 in
theorem endOf_any (n : Int) (x : Ag) (life rest : Int) (w : World) (h0 : 0 ≤ n) (h6 : n < 6) (hx : 0 ≤ x.b ∧ x.b ≤ x.u ∧ x.u ≤ 1000) (h1 : spanB life = true) (h2 : spanB rest = true) :
    Calls Try.prog 26 #[.int .i64 n, .agg #[.int .i64 x.b, .int .i64 x.u], .int .i64 life, .int .i64 rest] w fun e w' => e = .returned (.int .i64 (endV n x life rest)) ∧ Below w.heap.size w w' := by
  obtain ⟨x1, x2, x3⟩ := hx
  have E := hid (life_yes h0 h6 h1)
  obtain ⟨l1, l2, _⟩ := lifeV_bounds (c := n) (spanB_iff.1 h1).1 (spanB_iff.1 h1).2
  obtain ⟨s1, s2⟩ := spanB_iff.1 h1
  obtain ⟨r1, r2⟩ := spanB_iff.1 h2
  have HE : Hid (endV n x life rest = min (x.b + lifeV n life) (x.u + rest)) := hid rfl
  clear h1 h2
  obtain ⟨V, hV⟩ : ∃ V, V = lifeV n life := ⟨_, rfl⟩
  rw [← hV] at E l1 l2 HE
  clear hV
  have px := At.new w 31 #[.int .i64 x.b, .int .i64 x.u]
  obtain ⟨p0, p1⟩ := (show _ ∧ _ from ⟨px.cell 0, px.cell 1⟩)
  have hw1 : IntKind.i64.wrap (x.b + V) = x.b + V := by rw [IntKind.wrap_i64]; omega
  have hw2 : IntKind.i64.wrap (x.u + rest) = x.u + rest := by rw [IntKind.wrap_i64]; omega
  by_cases hlt : x.b + V < x.u + rest
  · go_enter Try.func26, Try.ntmps26
    go_wp2
    go_quiet ((go_at_call 13; exact Calls.quiet_of_same ((iLifeOf_any _ _ _).mono fun _ _ ⟨he, hw⟩ => ⟨by rw [he, E.out], hw.symm⟩)))
    go_wp2
    go_ret
    exact ⟨ret_int (by rw [HE.out]; omega), below_drewN ((Below.refl _ _).alloc (Nat.le_refl _) _) _⟩
  · go_enter Try.func26, Try.ntmps26
    go_wp2
    go_quiet ((go_at_call 13; exact Calls.quiet_of_same ((iLifeOf_any _ _ _).mono fun _ _ ⟨he, hw⟩ => ⟨by rw [he, E.out], hw.symm⟩)))
    go_wp2
    go_ret
    exact ⟨ret_int (by rw [HE.out]; omega), below_drewN ((Below.refl _ _).alloc (Nat.le_refl _) _) _⟩

set_option maxHeartbeats 2000000 in
theorem iValidAges_any (A : Option Addr) (c : Nat) (l : List Ag) (w : World) (h : Sees w w.heap.size A (strip acells l)) (hn : l.length ≤ 4194304) :
    Calls Try.prog 18 #[.slice A l.length c] w fun e w' => e = .returned (.bool (agesB l)) ∧ Below w.heap.size w w' := by
  by_cases hlen : 6 < l.length
  · have hv : agesB l = false := by
      rcases hh : agesB l with _ | _
      · rfl
      · have := (agesB_iff.1 hh).1; omega
    have HV := hid hv
    clear hv
    go_enter Try.func18, Try.ntmps18
    go_wp2
    go_ret
    exact ⟨ret_bool HV.out.symm, Below.refl _ _⟩
  · go_enter Try.func18, Try.ntmps18
    go_wp2
    go_loopw [10] (fun i wr => ∃ k : Nat, k ≤ l.length ∧ i = .int .i64 k ∧ Hid (∀ x ∈ l.take k, x.ok = true) ∧ Below w.heap.size w wr) (fun i _ => l.length - (intOf i).toNat)
    case atStart => exact ⟨0, Nat.zero_le _, rfl, hid (by simp), Below.refl _ _⟩
    case round =>
      obtain ⟨k, hk, rfl, HF, hb⟩ := hrel
      by_cases hlt : k < l.length
      · have hi : (k : Int) < (l.length : Int) := by omega
        obtain ⟨b, o, rfl, hbl, e0, e1⟩ := (h.below hb).age hlt
        have hz := hb.size
        have hbw : b < wr.heap.size := by omega
        have HS := hid (fun (hh : l[k].ok = true) => ages_step hlt HF.out hh)
        have HM := hid (fun (hh : ¬ l[k].ok = true) => ages_not hlt hh)
        obtain ⟨x, hx⟩ : ∃ x, x = l[k] := ⟨_, rfl⟩
        rw [← hx] at e0 e1 HS HM
        clear hx
        by_cases h1 : 0 ≤ x.b
        · by_cases h2 : x.b ≤ x.u
          · by_cases h3 : x.u ≤ 1000
            · have HX := hid (HS.out (Ag.ok_iff.2 ⟨h1, h2, h3⟩))
              go_wp2
              go_roundw
              case rel => exact ⟨k + 1, by omega, by go_num, HX, hb.alloc (by omega) _⟩
              case measure => simp [intOf]; omega
            · have HX := hid (HM.out (fun hh => h3 (Ag.ok_iff.1 hh).2.2))
              go_wp2
              go_ret
              exact ⟨ret_bool HX.out.symm, hb.alloc (by omega) _⟩
          · have HX := hid (HM.out (fun hh => h2 (Ag.ok_iff.1 hh).2.1))
            go_wp2
            go_ret
            exact ⟨ret_bool HX.out.symm, hb.alloc (by omega) _⟩
        · have HX := hid (HM.out (fun hh => h1 (Ag.ok_iff.1 hh).1))
          go_wp2
          go_ret
          exact ⟨ret_bool HX.out.symm, hb.alloc (by omega) _⟩
      · have hi : ¬ (k : Int) < (l.length : Int) := by omega
        have HX := hid (show agesB l = true by have := HF.out; rw [take_whole hlt] at this; exact agesB_iff.2 ⟨by omega, this⟩)
        go_wp2
        go_ret
        exact ⟨ret_bool HX.out.symm, hb⟩

set_option maxHeartbeats 2000000 in
theorem svalidAges_any (A : Option Addr) (c : Nat) (l : List Ag) (w : World) (h : Sees w w.heap.size A (strip acells l)) (hn : l.length ≤ 4194304) :
    Calls Try.prog 27 #[.slice A l.length c] w fun e w' => e = .returned (.bool (agesB l)) ∧ Below w.heap.size w w' := by
  have HN := hid hn
  clear hn
  go_enter Try.func27, Try.ntmps27
  go_wp2
  go_loopw [3] (fun i wr => ∃ k : Nat, k ≤ l.length ∧ i = .int .i64 k ∧ Hid (∀ x ∈ l.take k, x.ok = true) ∧ Below w.heap.size w wr) (fun i _ => l.length - (intOf i).toNat)
  case atStart => exact ⟨0, Nat.zero_le _, rfl, hid (by simp), Below.refl _ _⟩
  case round =>
    obtain ⟨k, hk, rfl, HF, hb⟩ := hrel
    have hn := HN.out
    by_cases hlt : k < l.length
    · have hi : (k : Int) < (l.length : Int) := by omega
      obtain ⟨b, o, rfl, hbl, e0, e1⟩ := (h.below hb).age hlt
      have HS := hid (fun (hh : l[k].ok = true) => ages_step hlt HF.out hh)
      have HM := hid (fun (hh : ¬ l[k].ok = true) => ages_not hlt hh)
      obtain ⟨x, hx⟩ : ∃ x, x = l[k] := ⟨_, rfl⟩
      rw [← hx] at e0 e1 HS HM
      clear hx
      rcases d1 : inB x.b 0 1000 with _ | _
      · have HX := hid (HM.out (fun hh => by have := Ag.ok_iff.1 hh; rw [Bool.eq_false_iff] at d1; exact d1 (inB_iff.2 (by omega))))
        have HD := hid d1
        clear d1
        go_wp2
        go_quiet ((go_at_call 28; exact Calls.quiet_of_same ((inRange_any _ _ _ _).mono fun _ _ ⟨he, hw⟩ => ⟨by rw [he, HD.out], hw.symm⟩)))
        go_wp2
        go_ret
        exact ⟨ret_bool HX.out.symm, below_drewN hb _⟩
      · have hb1 := inB_iff.1 d1
        rcases d2 : inB x.u x.b 1000 with _ | _
        · have HX := hid (HM.out (fun hh => by have := Ag.ok_iff.1 hh; rw [Bool.eq_false_iff] at d2; exact d2 (inB_iff.2 (by omega))))
          have HD := hid d1
          have HD2 := hid d2
          clear d1 d2 hb1
          go_wp2
          go_quiet ((go_at_call 28; exact Calls.quiet_of_same ((inRange_any _ _ _ _).mono fun _ _ ⟨he, hw⟩ => ⟨by first | rw [he, HD.out] | rw [he, HD2.out], hw.symm⟩)))
          go_wp2
          go_ret
          exact ⟨ret_bool HX.out.symm, below_drewN hb _⟩
        · have hb2 := inB_iff.1 d2
          have HX := hid (HS.out (Ag.ok_iff.2 ⟨by omega, by omega, by omega⟩))
          have HD := hid d1
          have HD2 := hid d2
          clear d1 d2 hb1 hb2
          go_wp2
          go_quiet ((go_at_call 28; exact Calls.quiet_of_same ((inRange_any _ _ _ _).mono fun _ _ ⟨he, hw⟩ => ⟨by first | rw [he, HD.out] | rw [he, HD2.out], hw.symm⟩)))
          go_wp2
          go_roundw
          case rel => exact ⟨k + 1, by omega, by go_num, HX, below_drewN hb _⟩
          case measure => simp [intOf]; omega
    · have hi : ¬ (k : Int) < (l.length : Int) := by omega
      have HX := hid (show decide ((l.length : Int) ≤ 6) = agesB l by
        have := HF.out
        rw [take_whole hlt] at this
        rw [Bool.eq_iff_iff, agesB_iff, decide_eq_true_eq]
        exact ⟨fun hh => ⟨by omega, this⟩, fun hh => by omega⟩)
      go_wp2
      go_ret
      exact ⟨ret_bool HX.out, hb⟩

end Go.Proofs.Ytlonmmkioaejmac

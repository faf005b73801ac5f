/-
  What the program's small functions on wishes and numbers answer: validTime, validWish, ValidWishes, validService, greaterOf, lesserChild. Condition: the list lies in memory.
-/
import Derived.Test.YtolcnokmdohbaaaWiA
import Derived.Deep.RegionHeld3
import Derived.Handy
namespace Go.Proofs.Ytolcnokmdohbaaa
open Go.RowKit Wis

def clockB (n : Int) : Bool := decide (0 ≤ n ∧ n ≤ 1000)
theorem clockB_iff {n : Int} : clockB n = true ↔ 0 ≤ n ∧ n ≤ 1000 := by unfold clockB; simp
set_option maxHeartbeats 400000 in
theorem wTime_any (n : Int) (w : World) :
    Calls Try.prog 39 #[.int .i64 n] w fun e w' => e = .returned (.bool (clockB n)) ∧ w = w' := by
  unfold clockB
  by_cases h1 : 0 ≤ n
  · go_enter Try.func39, Try.ntmps39
    go_wp2
    go_ret
    exact ⟨ret_bool (by first | (simp; done) | (simp; omega)), rfl⟩
  · go_enter Try.func39, Try.ntmps39
    go_wp2
    go_ret
    exact ⟨ret_bool (by first | (simp; done) | (simp; omega)), rfl⟩

theorem Wis.Wi.ok_no {x : Wi} (h : ¬ (0 ≤ x.a ∧ x.a ≤ 1000 ∧ 1 ≤ x.h ∧ x.h ≤ 100 ∧ 0 ≤ x.p ∧ x.p ≤ 100)) : x.ok = false := Bool.eq_false_iff.2 fun e => h (Wi.ok_iff.1 e)
set_option maxHeartbeats 1000000 in
theorem ivalidWish_any (x : Wi) (w : World) :
    Calls Try.prog 29 #[.agg #[.int .i64 x.a, .int .i64 x.h, .int .i64 x.p]] w fun e w' => e = .returned (.bool x.ok) ∧ Below w.heap.size w w' := by
  rcases ht : clockB x.a with _ | _
  · have E := hid (Wi.ok_no (x := x) (fun hh => by rw [clockB_iff.2 ⟨hh.1, hh.2.1⟩] at ht; cases ht))
    have HT := hid ht
    clear ht
    go_enter Try.func29, Try.ntmps29
    go_wp2_with fail
    refine (wTime_any _ _).mono ?_
    rintro e w1 ⟨he, rfl⟩
    rw [HT.out] at he
    subst he
    go_wp2
    go_ret
    exact ⟨ret_bool E.out.symm, (Below.refl _ _).alloc (Nat.le_refl _) _⟩
  · have ha := clockB_iff.1 ht
    have HT := hid ht
    have HA := hid ha
    clear ht ha
    by_cases h1 : 1 ≤ x.h
    · by_cases h2 : x.h ≤ 100
      · by_cases h3 : 0 ≤ x.p
        · have E := hid (show x.ok = decide (x.p ≤ 100) by
            rw [Bool.eq_iff_iff, Wi.ok_iff, decide_eq_true_eq]
            have := HA.out
            omega)
          go_enter Try.func29, Try.ntmps29
          go_wp2_with fail
          refine (wTime_any _ _).mono ?_
          rintro e w1 ⟨he, rfl⟩
          rw [HT.out] at he
          subst he
          go_wp2
          go_ret
          exact ⟨ret_bool E.out.symm, (Below.refl _ _).alloc (Nat.le_refl _) _⟩
        · have E := hid (Wi.ok_no (x := x) (by omega))
          go_enter Try.func29, Try.ntmps29
          go_wp2_with fail
          refine (wTime_any _ _).mono ?_
          rintro e w1 ⟨he, rfl⟩
          rw [HT.out] at he
          subst he
          go_wp2
          go_ret
          exact ⟨ret_bool E.out.symm, (Below.refl _ _).alloc (Nat.le_refl _) _⟩
      · have E := hid (Wi.ok_no (x := x) (by omega))
        go_enter Try.func29, Try.ntmps29
        go_wp2_with fail
        refine (wTime_any _ _).mono ?_
        rintro e w1 ⟨he, rfl⟩
        rw [HT.out] at he
        subst he
        go_wp2
        go_ret
        exact ⟨ret_bool E.out.symm, (Below.refl _ _).alloc (Nat.le_refl _) _⟩
    · have E := hid (Wi.ok_no (x := x) (by omega))
      go_enter Try.func29, Try.ntmps29
      go_wp2_with fail
      refine (wTime_any _ _).mono ?_
      rintro e w1 ⟨he, rfl⟩
      rw [HT.out] at he
      subst he
      go_wp2
      go_ret
      exact ⟨ret_bool E.out.symm, (Below.refl _ _).alloc (Nat.le_refl _) _⟩

theorem wish_no {l : List Wi} (h : ¬ (l.length ≤ 12 ∧ Fine l)) : wishB l = false := Bool.eq_false_iff.2 fun e => h (wishB_iff.1 e)
theorem fine_not {l : List Wi} {k : Nat} (hk : k < l.length) (h : ¬ (l[k].ok = true ∧ (0 < k → l[k - 1].a ≤ l[k].a))) : wishB l = false := wish_no fun hh => h (((fine_take_succ hk).1 (hh.2.take (k + 1))).2)

set_option maxHeartbeats 4000000 in
theorem iValidWishes_any (A : Option Addr) (c : Nat) (l : List Wi) (w : World) (h : Sees w w.heap.size A (strip wcells l)) (hn : l.length ≤ 4194304) :
    Calls Try.prog 12 #[.slice A l.length c] w fun e w' => e = .returned (.bool (wishB l)) ∧ Below w.heap.size w w' := by
  by_cases hlen : 12 < l.length
  · have HV := hid (wish_no (l := l) (by omega))
    go_enter Try.func12, Try.ntmps12
    go_wp2
    go_ret
    exact ⟨ret_bool HV.out.symm, Below.refl _ _⟩
  · go_enter Try.func12, Try.ntmps12
    go_wp2
    go_loopw [10] (fun i wr => ∃ k : Nat, k ≤ l.length ∧ i = .int .i64 k ∧ Hid (Fine (l.take k)) ∧ Below w.heap.size w wr) (fun i _ => l.length - (intOf i).toNat)
    case atStart => exact ⟨0, Nat.zero_le _, rfl, hid Fine.nil, Below.refl _ _⟩
    case round =>
      obtain ⟨k, hk, rfl, HF, hb⟩ := hrel
      by_cases hlt : k < l.length
      · have hi : (k : Int) < (l.length : Int) := by omega
        have hs := h.below hb
        obtain ⟨b, o, rfl, hbl, e0, e1, e2⟩ := hs.wish hlt
        have hz := hb.size
        have hbw : b < wr.heap.size := by omega
        have HS := hid (fun h1 h2 => (fine_take_succ hlt).2 ⟨HF.out, h1, h2⟩)
        have HNO := hid (fun hh => fine_not hlt hh)
        obtain ⟨x, hx⟩ : ∃ x, x = l[k] := ⟨_, rfl⟩
        rw [← hx] at e0 e1 e2 HS HNO
        have px := At.new wr 40 #[.int .i64 x.a, .int .i64 x.h, .int .i64 x.p]
        have hba := hb.alloc hz (.cells #[.int .i64 x.a, .int .i64 x.h, .int .i64 x.p] 40)
        rcases hok : x.ok with _ | _
        · have HX := hid (HNO.out (fun hh => by rw [hh.1] at hok; cases hok))
          have HO := hid hok
          clear hx hok
          go_wp2_with fail
          refine (ivalidWish_any x _).mono ?_
          rintro e w1 ⟨he, hb1⟩
          rw [HO.out] at he
          subst he
          go_wp2
          go_ret
          exact ⟨ret_bool HX.out.symm, hba.trans (hb1.mono hba.size)⟩
        · have HO := hid hok
          clear hok
          by_cases hk0 : k = 0
          · have HX := hid (HS.out HO.out (fun h0 => by omega))
            have hg0 : ¬ (k : Int) > 0 := by omega
            have hg1 : ¬ 0 < k := by omega
            have HK0 := hid hk0
            clear hx hk0
            go_wp2_with fail
            refine (ivalidWish_any x _).mono ?_
            rintro e w1 ⟨he, hb1⟩
            rw [HO.out] at he
            subst he
            have hbw1 := hba.trans (hb1.mono hba.size)
            go_wp2
            go_quiet (fail)
            go_wp2
            go_roundw
            case rel => exact ⟨k + 1, by omega, by go_num, HX, below_drewN hbw1 _⟩
            case measure => simp [intOf]; omega
          · have hkl : k - 1 < l.length := by omega
            obtain ⟨j, hj⟩ : ∃ j, k = j + 1 := ⟨k - 1, by omega⟩
            obtain ⟨b', o', e', _, f0, f1, f2⟩ := (h.below hba).wish (show j < l.length by omega)
            obtain ⟨rfl, rfl⟩ : b = b' ∧ o = o' := by injection e' with e'; injection e' with a b; exact ⟨a, b⟩
            obtain ⟨y, hy⟩ : ∃ y, y = l[j] := ⟨_, rfl⟩
            have HY := hid (show l[k - 1]'hkl = y by subst hj; exact hy.symm)
            rw [← hy] at f0 f1 f2
            have hg0 : (k : Int) > 0 := by omega
            have hg1 : 0 < k := by omega
            have hj0 : (0 : Int) ≤ (k : Int) - 1 := by omega
            have hw1 : IntKind.i64.wrap ((k : Int) - 1) = (k : Int) - 1 := by rw [IntKind.wrap_i64]; omega
            have hjl : (k : Int) - 1 < (l.length : Int) := by omega
            have hw2 : ((k : Int) - 1).toNat = j := by omega
            have HK0 := hid hk0
            have HJ := hid hj
            clear hx hy e' f1 f2 hk0 hj
            go_wp2_with fail
            refine (ivalidWish_any x _).mono ?_
            rintro e w1 ⟨he, hb1⟩
            rw [HO.out] at he
            subst he
            have hbw1 := hba.trans (hb1.mono hba.size)
            obtain ⟨hc1, hf1⟩ := below_cell hb1
            have px1 := px.below hb1 px.lt
            have f0' := (hc1 b (o + j * 3) (by have := hba.size; omega)).trans f0
            obtain ⟨p0, p1, p2⟩ := (show _ ∧ _ ∧ _ from ⟨px1.cell 0, px1.cell 1, px1.cell 2⟩)
            clear f0 e0 e1 e2 hc1 hf1 hb1 px
            by_cases hxy : x.a < y.a
            · have HX := hid (HNO.out (fun hh => by have := hh.2 (by have := HK0.out; omega); rw [HY.out] at this; omega))
              go_wp2
              go_quiet (fail)
              go_wp2
              go_ret
              exact ⟨ret_bool HX.out.symm, below_drewN hbw1 _⟩
            · have HX := hid (HS.out HO.out (fun h0 => by rw [HY.out]; omega))
              go_wp2
              go_quiet (fail)
              go_wp2
              go_roundw
              case rel => exact ⟨k + 1, by omega, by go_num, HX, below_drewN hbw1 _⟩
              case measure => simp [intOf]; omega
      · have hi : ¬ (k : Int) < (l.length : Int) := by omega
        have HX := hid (show wishB l = true by have := HF.out; rw [take_whole hlt] at this; exact wishB_iff.2 ⟨by omega, this⟩)
        go_wp2
        go_ret
        exact ⟨ret_bool HX.out.symm, hb⟩

set_option maxHeartbeats 1000000 in
theorem validService_any (A : Option Addr) (c : Nat) (l : List Wi) (m : Int) (w : World) (h : Sees w w.heap.size A (strip wcells l)) (hn : l.length ≤ 4194304) :
    Calls Try.prog 33 #[.slice A l.length c, .int .i64 m] w fun e w' => e = .returned (.bool (serveB l m)) ∧ Below w.heap.size w w' := by
  have HN := hid hn; clear hn
  rcases hv : wishB l with _ | _
  · have E := hid (show serveB l m = false by unfold serveB; rw [hv]; rfl)
    have HV := hid hv
    clear hv
    go_enter Try.func33, Try.ntmps33
    go_wp2_with fail
    refine (iValidWishes_any A c l _ h HN.out).mono ?_
    rintro e w1 ⟨he, hb1⟩
    rw [HV.out] at he
    subst he
    go_wp2
    go_ret
    exact ⟨ret_bool E.out.symm, hb1⟩
  · have HV := hid hv
    by_cases h1 : 1 ≤ m
    · have E := hid (show serveB l m = decide (m ≤ 6) by unfold serveB; rw [hv, Bool.eq_iff_iff]; simp; omega)
      clear hv
      go_enter Try.func33, Try.ntmps33
      go_wp2_with fail
      refine (iValidWishes_any A c l _ h HN.out).mono ?_
      rintro e w1 ⟨he, hb1⟩
      rw [HV.out] at he
      subst he
      go_wp2
      go_ret
      exact ⟨ret_bool E.out.symm, hb1⟩
    · have E := hid (show serveB l m = false by unfold serveB; rw [hv, Bool.eq_false_iff]; simp; omega)
      clear hv
      go_enter Try.func33, Try.ntmps33
      go_wp2_with fail
      refine (iValidWishes_any A c l _ h HN.out).mono ?_
      rintro e w1 ⟨he, hb1⟩
      rw [HV.out] at he
      subst he
      go_wp2
      go_ret
      exact ⟨ret_bool E.out.symm, hb1⟩

set_option maxHeartbeats 400000 in
theorem greaterOf_any (a b : Int) (w : World) :
    Calls Try.prog 34 #[.int .i64 a, .int .i64 b] w fun e w' => e = .returned (.int .i64 (max a b)) ∧ w = w' := by
  obtain ⟨M, hM⟩ : ∃ M, M = max a b := ⟨_, rfl⟩
  rw [← hM]
  by_cases h1 : a > b
  · have E := hid (show M = a by omega)
    clear hM
    go_enter Try.func34, Try.ntmps34
    go_wp2
    go_ret
    exact ⟨ret_int E.out.symm, rfl⟩
  · have E := hid (show M = b by omega)
    clear hM
    go_enter Try.func34, Try.ntmps34
    go_wp2
    go_ret
    exact ⟨ret_int E.out.symm, rfl⟩

set_option maxHeartbeats 1000000 in
theorem lesserChild_any (A : Option Addr) (c : Nat) (H : List Int) (p : Nat) (w : World) {B : Nat} (h : Sees w B A (ints H)) (hn : H.length ≤ 4194304) (hp : p ≤ 4194304) :
    Calls Try.prog 42 #[.slice A H.length c, .int .i64 p] w fun e w' => e = .returned (.int .i64 (lesser H p)) ∧ ∃ k, w' = w.drewN k := by
  have HN := hid hn
  have w1 : IntKind.i64.wrap (2 * (p : Int)) = 2 * p := by rw [IntKind.wrap_i64]; omega
  have w2 : IntKind.i64.wrap (2 * (p : Int) + 1) = 2 * p + 1 := by rw [IntKind.wrap_i64]; omega
  have w3 : IntKind.i64.wrap (2 * (p : Int) + 1 + 1) = 2 * p + 1 + 1 := by rw [IntKind.wrap_i64]; omega
  clear hn
  by_cases h1 : 2 * p + 1 < H.length
  · have hi1 : ¬ 2 * (p : Int) + 1 ≥ (H.length : Int) := by omega
    have q1 : (0 : Int) ≤ 2 * p + 1 := by omega
    have q2 : 2 * (p : Int) + 1 < (H.length : Int) := by omega
    have t1 : (2 * (p : Int) + 1).toNat = 2 * p + 1 := by omega
    by_cases h2 : 2 * p + 2 < H.length
    · have q3 : (0 : Int) ≤ 2 * p + 1 + 1 := by omega
      have q4 : 2 * (p : Int) + 1 + 1 < (H.length : Int) := by omega
      have t2 : (2 * (p : Int) + 1 + 1).toNat = 2 * p + 2 := by omega
      obtain ⟨b, o, rfl, _, e1⟩ := h.int h1
      obtain ⟨b', o', e', _, e2⟩ := h.int h2
      obtain ⟨rfl, rfl⟩ : b = b' ∧ o = o' := by injection e' with e'; injection e' with a b; exact ⟨a, b⟩
      clear e'
      have HE : Hid (lesser H p = if at_ H (2 * p + 2) < at_ H (2 * p + 1) then ((2 * p + 2 : Nat) : Int) else ((2 * p + 1 : Nat) : Int)) := hid (by unfold lesser; rw [if_pos h1]; simp [h2])
      rw [at_get h1, at_get h2] at HE
      obtain ⟨x1, hx1⟩ : ∃ x, x = H[2 * p + 1] := ⟨_, rfl⟩
      obtain ⟨x2, hx2⟩ : ∃ x, x = H[2 * p + 2] := ⟨_, rfl⟩
      rw [← hx1] at e1 HE
      rw [← hx2] at e2 HE
      clear hx1 hx2
      by_cases h3 : x2 < x1
      · have HX := hid (HE.out.trans (if_pos h3))
        go_enter Try.func42, Try.ntmps42
        go_wp2
        go_quiet (fail)
        go_wp2
        go_ret
        exact ⟨ret_int (by rw [HX.out]; omega), _, rfl⟩
      · have HX := hid (HE.out.trans (if_neg h3))
        go_enter Try.func42, Try.ntmps42
        go_wp2
        go_quiet (fail)
        go_wp2
        go_ret
        exact ⟨ret_int (by rw [HX.out]; omega), _, rfl⟩
    · have q4 : decide (2 * (p : Int) + 1 + 1 < (H.length : Int)) = false := decide_eq_false (by omega)
      have HX := hid (show lesser H p = (2 * p + 1 : Nat) by unfold lesser; rw [if_pos h1]; simp [h2])
      obtain ⟨b, o, rfl, _, e1⟩ := h.int h1
      obtain ⟨x1, hx1⟩ : ∃ x, x = H[2 * p + 1] := ⟨_, rfl⟩
      rw [← hx1] at e1
      clear hx1
      go_enter Try.func42, Try.ntmps42
      go_wp2
      go_quiet (fail)
      go_wp2
      go_ret
      exact ⟨ret_int (by rw [HX.out]; omega), _, rfl⟩
  · have hi1 : 2 * (p : Int) + 1 ≥ (H.length : Int) := by omega
    have HX := hid (show lesser H p = -1 by unfold lesser; rw [if_neg h1])
    go_enter Try.func42, Try.ntmps42
    go_wp2
    go_ret
    exact ⟨ret_int HX.out.symm, 0, rfl⟩

end Go.Proofs.Ytolcnokmdohbaaa

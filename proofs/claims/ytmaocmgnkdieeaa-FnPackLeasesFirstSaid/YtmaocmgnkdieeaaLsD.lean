/-
  What the model's meets, validLease and validLeases answer. Condition: the list lies in memory.
-/
import Derived.Test.YtmaocmgnkdieeaaLsB
import Derived.Deep.RegionHeld3
namespace Go.Proofs.Ytmaocmgnkdieeaa
open Go.RowKit Lse

def meetB (x y : L) : Bool := decide (x.f < y.u ∧ y.f < x.u)
theorem ok_inB (x : L) : x.ok = (inB x.c 0 5 && (inB x.o 0 4 && (inB x.f 0 999 && inB x.u (x.f + 1) 1000))) := by
  rw [Bool.eq_iff_iff]
  simp only [Bool.and_eq_true, inB_iff, L.ok_iff]
  omega

set_option maxHeartbeats 1000000 in
theorem meets_any (x y : L) (w : World) :
    Calls Try.prog 30 #[.agg #[.int .i64 x.c, .int .i64 x.o, .int .i64 x.f, .int .i64 x.u], .agg #[.int .i64 y.c, .int .i64 y.o, .int .i64 y.f, .int .i64 y.u]] w fun e w' => e = .returned (.bool (meetB x y)) ∧ Below w.heap.size w w' := by
  unfold meetB
  by_cases h1 : x.f < y.u
  · go_enter Try.func30, Try.ntmps30
    go_wp2
    go_ret
    exact ⟨ret_bool (by simp; omega), ((Below.refl _ _).alloc (Nat.le_refl _) _).alloc (by simp) _⟩
  · go_enter Try.func30, Try.ntmps30
    go_wp2
    go_ret
    exact ⟨ret_bool (by simp; omega), ((Below.refl _ _).alloc (Nat.le_refl _) _).alloc (by simp) _⟩

set_option maxHeartbeats 2000000 in
theorem svalidLease_any (x : L) (w : World) :
    Calls Try.prog 29 #[.agg #[.int .i64 x.c, .int .i64 x.o, .int .i64 x.f, .int .i64 x.u]] w fun e w' => e = .returned (.bool x.ok) ∧ Below w.heap.size w w' := by
  have HO := hid (ok_inB x)
  rcases h1 : inB x.c 0 5 with _ | _
  · go_enter Try.func29, Try.ntmps29
    go_wp2_with (go_at_call 32; (with_reducible refine (inRange_any _ _ _ _).mono ?_); rintro e w' ⟨rfl, rfl⟩)
    go_ret
    exact ⟨ret_bool (by rw [HO.out, h1]; rfl), (Below.refl _ _).alloc (Nat.le_refl _) _⟩
  · rcases h2 : inB x.o 0 4 with _ | _
    · go_enter Try.func29, Try.ntmps29
      go_wp2_with (go_at_call 32; (with_reducible refine (inRange_any _ _ _ _).mono ?_); rintro e w' ⟨rfl, rfl⟩)
      go_ret
      exact ⟨ret_bool (by rw [HO.out, h1, h2]; rfl), (Below.refl _ _).alloc (Nat.le_refl _) _⟩
    · rcases h3 : inB x.f 0 999 with _ | _
      · go_enter Try.func29, Try.ntmps29
        go_wp2_with (go_at_call 32; (with_reducible refine (inRange_any _ _ _ _).mono ?_); rintro e w' ⟨rfl, rfl⟩)
        go_ret
        exact ⟨ret_bool (by rw [HO.out, h1, h2, h3]; rfl), (Below.refl _ _).alloc (Nat.le_refl _) _⟩
      · have hb := inB_iff.1 h3
        obtain ⟨hb1, hb2⟩ := hb
        go_enter Try.func29, Try.ntmps29
        go_wp2_with (go_at_call 32; (with_reducible refine (inRange_any _ _ _ _).mono ?_); rintro e w' ⟨rfl, rfl⟩)
        go_ret
        exact ⟨ret_bool (by rw [HO.out, h1, h2, h3]; rfl), (Below.refl _ _).alloc (Nat.le_refl _) _⟩

theorem hits_meet {x y : L} : hits y x.c x.f x.u ↔ y.c = x.c ∧ meetB y x = true := by unfold hits meetB; simp

set_option maxHeartbeats 4000000 in
theorem svalidLeases_any (A : Option Addr) (c : Nat) (l : List L) (w : World) (h : Sees w w.heap.size A (lvals l)) (hn : l.length ≤ 4194304) :
    Calls Try.prog 17 #[.slice A l.length c] w fun e w' => e = .returned (.bool (validB l)) ∧ Below w.heap.size w w' := by
  have HV : Hid (validB l = decide (l.length ≤ 12 ∧ Fine l)) := hid rfl
  have HN := hid hn
  clear hn
  go_enter Try.func17, Try.ntmps17
  go_wp2
  go_loopw [3] (fun i wr => ∃ k : Nat, k ≤ l.length ∧ i = .int .i64 k ∧ Hid (Fine (l.take k)) ∧ Below w.heap.size w wr) (fun i _ => l.length - (intOf i).toNat)
  case atStart => exact ⟨0, Nat.zero_le _, rfl, hid Fine.nil, Below.refl _ _⟩
  case round =>
    obtain ⟨k, hk, rfl, HF, hb⟩ := hrel
    have hn := HN.out
    by_cases hlt : k < l.length
    · have hi : (k : Int) < (l.length : Int) := by omega
      have hs : Sees wr w.heap.size A (lvals l) := h.below hb
      obtain ⟨b, o, rfl, hbl, e0, e1, e2, e3⟩ := hs.lease hlt
      have hz := hb.size
      obtain ⟨x, hx⟩ : ∃ x, x = l[k] := ⟨_, rfl⟩
      rw [← hx] at e0 e1 e2 e3
      have HX := hid hx
      have HS : Hid (Fine (l.take (k + 1)) ↔ Fine (l.take k) ∧ x.ok = true ∧ freeB (l.take k) x.c x.f x.u = true) := hid (by rw [hx]; exact fine_take_succ hlt)
      have HM : Hid (Fine l → Fine (l.take (k + 1))) := hid fun hf => hf.take _
      clear hx
      rcases hok : x.ok with _ | _
      · have hno : validB l = false := by
          rw [HV.out, decide_eq_false_iff_not]
          rintro ⟨_, hf⟩
          have := (HS.out.1 (HM.out hf)).2.1
          rw [hok] at this; cases this
        have HNO := hid hno
        have HOK := hid hok
        clear hno hok
        go_wp2_with fail
        refine (svalidLease_any x _).mono ?_
        rintro e w1 ⟨he, hb1⟩
        rw [HOK.out] at he
        subst he
        go_wp2
        go_ret
        exact ⟨by simp [HNO.out], hb.trans (hb1.mono hz)⟩
      · have HOK := hid hok
        clear hok
        go_wp2_with fail
        refine (svalidLease_any x _).mono ?_
        rintro e w1 ⟨he, hb1⟩
        rw [HOK.out] at he
        subst he
        have hbw := hb.trans (hb1.mono hz)
        clear e0 e1 e2 e3 hs hz hb1
        go_wp2
        go_loopw [4] (fun i wr2 => ∃ j : Nat, j ≤ k ∧ i = .int .i64 j ∧ Hid (freeB (l.take j) x.c x.f x.u = true) ∧ Below w.heap.size w wr2) (fun i _ => k - (intOf i).toNat)
        case atStart => exact ⟨0, Nat.zero_le _, rfl, hid (freeB_iff.2 (by simp)), hbw⟩
        case round =>
          obtain ⟨j, hj, rfl, HJ, hbj⟩ := hrel
          by_cases hjk : j < k
          · have hji : (j : Int) < (k : Int) := by omega
            have hjl : j < l.length := by omega
            have hs2 := h.below hbj
            obtain ⟨b', o', e', hbl', e0, e1, e2, e3⟩ := hs2.lease hlt
            obtain ⟨rfl, rfl⟩ : b = b' ∧ o = o' := by injection e' with e'; injection e' with a b; exact ⟨a, b⟩
            obtain ⟨b', o', e'', hbl'', f0, f1, f2, f3⟩ := hs2.lease hjl
            obtain ⟨rfl, rfl⟩ : b = b' ∧ o = o' := by injection e'' with e'; injection e' with a b; exact ⟨a, b⟩
            clear e' e'' hbl' hbl''
            have HJS := hid (freeB_take_succ hjl (c := x.c) (f := x.f) (u := x.u))
            obtain ⟨y, hy⟩ : ∃ y, y = l[j] := ⟨_, rfl⟩
            rw [← hy] at f0 f1 f2 f3 HJS
            rw [← HX.out] at e0 e1 e2 e3
            have hzj := hbj.size
            have HT : Hid (y ∈ l.take k) := hid (by rw [hy]; exact List.mem_take_iff_getElem.2 ⟨j, by omega, rfl⟩)
            clear hy
            rcases d1 : (y.c == x.c) with _ | _
            · go_wp2
              go_quiet (fail)
              go_wp2
              go_roundw
              case rel => exact ⟨j + 1, by omega, by go_num, hid (by rw [HJS.out, HJ.out, Bool.true_and, decide_eq_true_eq]; rintro ⟨r1, r2, r3⟩; exact absurd r1 (by simpa using d1)), below_drewN hbj _⟩
              case measure => simp [intOf]; omega
            · have hbd : Below w.heap.size w wr.drew := hbj.drew
              rcases d2 : meetB y x with _ | _
              · have HD := hid d2
                clear d2
                go_wp2_with fail
                go_region_held3 (fun w' => w'.cell? ⟨b, o + k * 4, none⟩ = some (.int .i64 x.c) ∧ w'.cell? ⟨b, o + k * 4 + 1, none⟩ = some (.int .i64 x.o) ∧ w'.cell? ⟨b, o + k * 4 + 2, none⟩ = some (.int .i64 x.f) ∧ w'.cell? ⟨b, o + k * 4 + 3, none⟩ = some (.int .i64 x.u) ∧ w'.cell? ⟨b, o + j * 4, none⟩ = some (.int .i64 y.c) ∧ w'.cell? ⟨b, o + j * 4 + 1, none⟩ = some (.int .i64 y.o) ∧ w'.cell? ⟨b, o + j * 4 + 2, none⟩ = some (.int .i64 y.f) ∧ w'.cell? ⟨b, o + j * 4 + 3, none⟩ = some (.int .i64 y.u))
                  (first | with_reducible exact ⟨e0, e1, e2, e3, f0, f1, f2, f3⟩ | with_reducible exact ⟨p0, p1, p2, p3, q0, q1, q2, q3⟩ | go_keep)
                  (first
                    | (go_at_call 30; (with_reducible refine (meets_any y x _).mono ?_); rintro e w2 ⟨he, hb2⟩; rw [HD.out] at he; subst he; have hbw2 := hbd.trans (hb2.mono hbd.size); obtain ⟨hk1, _⟩ := below_cell hb2; have hlt2 := (show b < wr.drew.heap.size from Nat.lt_of_lt_of_le hbl hbd.size); have p0 := (hk1 b (o + k * 4) hlt2).trans e0; have p1 := (hk1 b (o + k * 4 + 1) hlt2).trans e1; have p2 := (hk1 b (o + k * 4 + 2) hlt2).trans e2; have p3 := (hk1 b (o + k * 4 + 3) hlt2).trans e3; have q0 := (hk1 b (o + j * 4) hlt2).trans f0; have q1 := (hk1 b (o + j * 4 + 1) hlt2).trans f1; have q2 := (hk1 b (o + j * 4 + 2) hlt2).trans f2; have q3 := (hk1 b (o + j * 4 + 3) hlt2).trans f3; clear hk1))
                all_goals
                  go_wp2
                  go_roundw
                  case rel => exact ⟨j + 1, by omega, by go_num, hid (by rw [HJS.out, HJ.out, Bool.true_and, decide_eq_true_eq, hits_meet, HD.out]; simp), hbw2⟩
                  case measure => simp [intOf]; omega
              · have HD := hid d2
                have hno : validB l = false := by
                  rw [HV.out, decide_eq_false_iff_not]
                  rintro ⟨_, hf⟩
                  have := (HS.out.1 (HM.out hf)).2.2
                  exact freeB_iff.1 this y HT.out (hits_meet.2 ⟨by simpa using d1, d2⟩)
                have HNO := hid hno
                clear d2 hno
                go_wp2_with fail
                go_region_held3 (fun w' => w'.cell? ⟨b, o + k * 4, none⟩ = some (.int .i64 x.c) ∧ w'.cell? ⟨b, o + k * 4 + 1, none⟩ = some (.int .i64 x.o) ∧ w'.cell? ⟨b, o + k * 4 + 2, none⟩ = some (.int .i64 x.f) ∧ w'.cell? ⟨b, o + k * 4 + 3, none⟩ = some (.int .i64 x.u) ∧ w'.cell? ⟨b, o + j * 4, none⟩ = some (.int .i64 y.c) ∧ w'.cell? ⟨b, o + j * 4 + 1, none⟩ = some (.int .i64 y.o) ∧ w'.cell? ⟨b, o + j * 4 + 2, none⟩ = some (.int .i64 y.f) ∧ w'.cell? ⟨b, o + j * 4 + 3, none⟩ = some (.int .i64 y.u))
                  (first | with_reducible exact ⟨e0, e1, e2, e3, f0, f1, f2, f3⟩ | with_reducible exact ⟨p0, p1, p2, p3, q0, q1, q2, q3⟩ | go_keep)
                  (first
                    | (go_at_call 30; (with_reducible refine (meets_any y x _).mono ?_); rintro e w2 ⟨he, hb2⟩; rw [HD.out] at he; subst he; have hbw2 := hbd.trans (hb2.mono hbd.size); obtain ⟨hk1, _⟩ := below_cell hb2; have hlt2 := (show b < wr.drew.heap.size from Nat.lt_of_lt_of_le hbl hbd.size); have p0 := (hk1 b (o + k * 4) hlt2).trans e0; have p1 := (hk1 b (o + k * 4 + 1) hlt2).trans e1; have p2 := (hk1 b (o + k * 4 + 2) hlt2).trans e2; have p3 := (hk1 b (o + k * 4 + 3) hlt2).trans e3; have q0 := (hk1 b (o + j * 4) hlt2).trans f0; have q1 := (hk1 b (o + j * 4 + 1) hlt2).trans f1; have q2 := (hk1 b (o + j * 4 + 2) hlt2).trans f2; have q3 := (hk1 b (o + j * 4 + 3) hlt2).trans f3; clear hk1))
                all_goals
                  go_wp2
                  go_ret
                  exact ⟨by simp [HNO.out], hbw2⟩
          · have hji : ¬ (j : Int) < (k : Int) := by omega
            have hje : j = k := by omega
            have HF2 := hid (HS.out.2 ⟨HF.out, HOK.out, hje ▸ HJ.out⟩)
            clear hje
            go_wp2
            go_roundw
            case rel => exact ⟨k + 1, by omega, by go_num, HF2, hbj⟩
            case measure => simp [intOf]; omega
    · have hi : ¬ (k : Int) < (l.length : Int) := by omega
      have hf : Fine l := by have := HF.out; rwa [take_whole hlt] at this
      have hv : validB l = decide ((l.length : Int) ≤ 12) := by rw [HV.out, Bool.eq_iff_iff]; simp [hf]; omega
      have HVV := hid hv
      clear hv
      go_wp2
      go_ret
      exact ⟨ret_bool HVV.out.symm, hb⟩

end Go.Proofs.Ytmaocmgnkdieeaa

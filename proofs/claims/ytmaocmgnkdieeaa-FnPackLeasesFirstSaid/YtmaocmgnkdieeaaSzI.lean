/-
  What the model's used answers. Condition: the lists lie in memory.
-/
import Derived.Test.YtmaocmgnkdieeaaSzH
import Derived.Test.YtmaocmgnkdieeaaLsD
import Derived.Test.YtmaocmgnkdieeaaLsF
import Derived.Deep.RegionHeld3
namespace Go.Proofs.Ytmaocmgnkdieeaa
open Go.RowKit Lse

set_option maxHeartbeats 2000000 in
theorem usedAny_any (A A2 : Option Addr) (c c2 : Nat) (O : List L) (d : List Nat) (q : Int) (x : L) (w : World) (h : Sees w w.heap.size A (lvals O)) (h2 : Sees w w.heap.size A2 (ints (nums d))) (hd : ∀ i ∈ d, i < O.length) (hn : d.length ≤ 12) :
    Calls Try.prog 19 #[.slice A O.length c, .slice A2 d.length c2, .int .i64 q, .agg #[.int .i64 x.c, .int .i64 x.o, .int .i64 x.f, .int .i64 x.u]] w fun e w' => e = .returned (.bool (!freeB (leasesAt O d) q x.f x.u)) ∧ Below w.heap.size w w' := by
  obtain ⟨Z, hZ⟩ : ∃ Z, Z = leasesAt O d := ⟨_, rfl⟩
  rw [← hZ]
  have hZl : Z.length = d.length := by rw [hZ]; simp [leasesAt]
  have HZL := hid hZl
  have HZZ := hid (fun (j : Nat) (hj : j < Z.length) => (show Z[j] = at0 O (ats d j) by rw [List.getElem_of_eq hZ]; rw [ats_get (show j < d.length by omega)]; simp [leasesAt, at0]))
  have HDD := hid hd
  clear hZl hZ hd
  have a0 := At.new w 30 #[.int .i64 x.c, .int .i64 x.o, .int .i64 x.f, .int .i64 x.u]
  have hb0 := (Below.refl w.heap.size w).alloc (Nat.le_refl _) (.cells #[.int .i64 x.c, .int .i64 x.o, .int .i64 x.f, .int .i64 x.u] 30)
  obtain ⟨wx, hwx⟩ : ∃ wx, wx = w.alloc (.cells #[.int .i64 x.c, .int .i64 x.o, .int .i64 x.f, .int .i64 x.u] 30) := ⟨_, rfl⟩
  have HWX := hid hwx
  rw [← hwx] at a0 hb0
  have hzx : w.heap.size + 1 = wx.heap.size := by rw [hwx]; simp
  clear hwx
  have hs := (h.below hb0)
  have hs2 := (h2.below hb0)
  have HZX := hid hzx
  clear hzx
  go_enter Try.func19, Try.ntmps19
  go_wp2
  rw [← HWX.out]
  go_loopw [9] (fun i wr => ∃ j : Nat, Hid (j ≤ Z.length) ∧ i = .int .i64 j ∧ Hid (freeB (Z.take j) q x.f x.u = true) ∧ Below wx.heap.size wx wr) (fun i _ => d.length - (intOf i).toNat)
  case atStart => exact ⟨0, hid (Nat.zero_le _), rfl, hid (freeB_iff.2 (by simp)), Below.refl _ _⟩
  case round =>
    obtain ⟨j, HJK, rfl, HJ, hb⟩ := hrel
    have hzx := HZX.out
    by_cases hlt : j < d.length
    · have hi : (j : Int) < (d.length : Int) := by omega
      have hj0 : (0 : Int) ≤ (j : Int) := by omega
      have hjZ : j < Z.length := by rw [HZL.out]; exact hlt
      have hpO : ats d j < O.length := HDD.out _ (by rw [ats_get hlt]; exact List.getElem_mem _)
      have HJS := hid (freeB_take_succ hjZ (c := q) (f := x.f) (u := x.u))
      have HMM := hid (fun (hh : hits Z[j] q x.f x.u) => (show freeB Z q x.f x.u = false by rw [Bool.eq_false_iff, ne_eq, freeB_iff]; exact fun hf => hf _ (List.getElem_mem hjZ) hh))
      rw [HZZ.out j hjZ, at0_at hpO] at HJS HMM
      have ax := a0.below hb a0.lt
      obtain ⟨x0, x1, x2, x3⟩ := (show _ ∧ _ ∧ _ ∧ _ from ⟨ax.cell 0, ax.cell 1, ax.cell 2, ax.cell 3⟩)
      obtain ⟨b2, o2, rfl, hbl2, ek⟩ := ((hs2.more (by omega)).below hb).int (show j < (nums d).length by rw [nums_len]; exact hlt)
      have enk : (nums d)[j]'(by rw [nums_len]; exact hlt) = (ats d j : Int) := by rw [ats_get hlt]; simp [nums]
      rw [enk] at ek
      obtain ⟨b, o, rfl, hbl, f0, f1, f2, f3⟩ := ((hs.more (by omega)).below hb).lease hpO
      obtain ⟨y, hy⟩ : ∃ y, y = O[ats d j] := ⟨_, rfl⟩
      obtain ⟨p, hp⟩ : ∃ p, p = ats d j := ⟨_, rfl⟩
      rw [← hy] at f0 f1 f2 f3 HJS HMM
      rw [← hp] at f0 f1 f2 f3 ek hpO
      clear hy hp enk ax
      have hz := hb.size
      have hp0 : (0 : Int) ≤ (p : Int) := by omega
      have hpi : (p : Int) < (O.length : Int) := by omega
      rcases d1 : (y.c == q) with _ | _
      · go_wp2
        go_quiet (fail)
        go_wp2
        go_roundw
        case rel => exact ⟨j + 1, hid (by omega), by go_num, hid (by rw [HJS.out, HJ.out, Bool.true_and, decide_eq_true_eq]; rintro ⟨r1, r2, r3⟩; exact absurd r1 (by simpa using d1)), below_drewN hb _⟩
        case measure => simp [intOf]; omega
      · have hbd : Below wx.heap.size wx wr.drew := hb.drew
        have hcq : y.c = q := by simpa using d1
        rcases d2 : meetB y x with _ | _
        · have HD := hid d2
          have HN := hid (show freeB (Z.take (j + 1)) q x.f x.u = true by
            rw [HJS.out, HJ.out, Bool.true_and, decide_eq_true_eq]
            rintro ⟨_, r⟩
            have : meetB y x = true := decide_eq_true r
            rw [d2] at this; cases this)
          clear d2 hcq HMM
          have hB2 : b2 < wr.drew.heap.size := Nat.lt_of_lt_of_le (by omega) hbd.size
          have hB : b < wr.drew.heap.size := Nat.lt_of_lt_of_le (by omega) hbd.size
          have hX : w.heap.size < wr.drew.heap.size := Nat.lt_of_lt_of_le (by omega) hbd.size
          go_wp2_with fail
          go_region_held3 (fun w' => w'.cell? ⟨b2, o2 + j, none⟩ = some (.int .i64 p) ∧ w'.cell? ⟨b, o + p * 4, none⟩ = some (.int .i64 y.c) ∧ w'.cell? ⟨b, o + p * 4 + 1, none⟩ = some (.int .i64 y.o) ∧ w'.cell? ⟨b, o + p * 4 + 2, none⟩ = some (.int .i64 y.f) ∧ w'.cell? ⟨b, o + p * 4 + 3, none⟩ = some (.int .i64 y.u) ∧ w'.cell? ⟨w.heap.size, 0, none⟩ = some (.int .i64 x.c) ∧ w'.cell? ⟨w.heap.size, 1, none⟩ = some (.int .i64 x.o) ∧ w'.cell? ⟨w.heap.size, 2, none⟩ = some (.int .i64 x.f) ∧ w'.cell? ⟨w.heap.size, 3, none⟩ = some (.int .i64 x.u))
            (first | with_reducible exact ⟨ek, f0, f1, f2, f3, x0, x1, x2, x3⟩ | with_reducible exact ⟨pk, p0, p1, p2, p3, q0, q1, q2, q3⟩ | go_keep)
            (first | (go_at_call 30; (with_reducible refine (meets_any y x _).mono ?_); rintro e w2 ⟨he, hb2⟩; rw [HD.out] at he; subst he; have hbw2 := hbd.trans (hb2.mono hbd.size); obtain ⟨hk1, _⟩ := below_cell hb2; have pk := (hk1 b2 (o2 + j) hB2).trans ek; have p0 := (hk1 b (o + p * 4) hB).trans f0; have p1 := (hk1 b (o + p * 4 + 1) hB).trans f1; have p2 := (hk1 b (o + p * 4 + 2) hB).trans f2; have p3 := (hk1 b (o + p * 4 + 3) hB).trans f3; have q0 := (hk1 w.heap.size 0 hX).trans x0; have q1 := (hk1 w.heap.size 1 hX).trans x1; have q2 := (hk1 w.heap.size 2 hX).trans x2; have q3 := (hk1 w.heap.size 3 hX).trans x3; clear hk1) | fail)
          all_goals
            go_wp2
            go_roundw
            case rel => exact ⟨j + 1, hid (by omega), by go_num, HN, hbw2⟩
            case measure => simp [intOf]; omega
        · have HD := hid d2
          have HN := hid (HMM.out ⟨hcq, of_decide_eq_true d2⟩)
          clear d2 hcq HMM
          have hB2 : b2 < wr.drew.heap.size := Nat.lt_of_lt_of_le (by omega) hbd.size
          have hB : b < wr.drew.heap.size := Nat.lt_of_lt_of_le (by omega) hbd.size
          have hX : w.heap.size < wr.drew.heap.size := Nat.lt_of_lt_of_le (by omega) hbd.size
          go_wp2_with fail
          go_region_held3 (fun w' => w'.cell? ⟨b2, o2 + j, none⟩ = some (.int .i64 p) ∧ w'.cell? ⟨b, o + p * 4, none⟩ = some (.int .i64 y.c) ∧ w'.cell? ⟨b, o + p * 4 + 1, none⟩ = some (.int .i64 y.o) ∧ w'.cell? ⟨b, o + p * 4 + 2, none⟩ = some (.int .i64 y.f) ∧ w'.cell? ⟨b, o + p * 4 + 3, none⟩ = some (.int .i64 y.u) ∧ w'.cell? ⟨w.heap.size, 0, none⟩ = some (.int .i64 x.c) ∧ w'.cell? ⟨w.heap.size, 1, none⟩ = some (.int .i64 x.o) ∧ w'.cell? ⟨w.heap.size, 2, none⟩ = some (.int .i64 x.f) ∧ w'.cell? ⟨w.heap.size, 3, none⟩ = some (.int .i64 x.u))
            (first | with_reducible exact ⟨ek, f0, f1, f2, f3, x0, x1, x2, x3⟩ | with_reducible exact ⟨pk, p0, p1, p2, p3, q0, q1, q2, q3⟩ | go_keep)
            (first | (go_at_call 30; (with_reducible refine (meets_any y x _).mono ?_); rintro e w2 ⟨he, hb2⟩; rw [HD.out] at he; subst he; have hbw2 := hbd.trans (hb2.mono hbd.size); obtain ⟨hk1, _⟩ := below_cell hb2; have pk := (hk1 b2 (o2 + j) hB2).trans ek; have p0 := (hk1 b (o + p * 4) hB).trans f0; have p1 := (hk1 b (o + p * 4 + 1) hB).trans f1; have p2 := (hk1 b (o + p * 4 + 2) hB).trans f2; have p3 := (hk1 b (o + p * 4 + 3) hB).trans f3; have q0 := (hk1 w.heap.size 0 hX).trans x0; have q1 := (hk1 w.heap.size 1 hX).trans x1; have q2 := (hk1 w.heap.size 2 hX).trans x2; have q3 := (hk1 w.heap.size 3 hX).trans x3; clear hk1) | fail)
          all_goals
            go_wp2
            go_ret
            exact ⟨ret_bool (by rw [HN.out]; rfl), hb0.trans (hbw2.mono (by have := HZX.out; omega))⟩
    · have hi : ¬ (j : Int) < (d.length : Int) := by omega
      have hjj : j = Z.length := by have := HJK.out; have := HZL.out; omega
      have HE := hid (show freeB Z q x.f x.u = true by have := HJ.out; rw [hjj, List.take_length] at this; exact this)
      clear hjj
      go_wp2
      go_ret
      exact ⟨ret_bool (by rw [HE.out]; rfl), hb0.trans (hb.mono (by have := HZX.out; omega))⟩

end Go.Proofs.Ytmaocmgnkdieeaa

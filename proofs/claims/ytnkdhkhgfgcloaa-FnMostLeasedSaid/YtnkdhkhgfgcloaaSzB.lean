/-
  What MeanLeased answers, the program's and the model's. Condition: the list lies in memory.
-/
import Derived.Test.YtnkdhkhgfgcloaaLsC
import Derived.Test.YtnkdhkhgfgcloaaLsD
import Derived.Test.YtnkdhkhgfgcloaaLsE
import Derived.Test.YtnkdhkhgfgcloaaLsF
import Derived.Handy
namespace Go.Proofs.Ytnkdhkhgfgcloaa
open Go.RowKit Lse

/-- How much of its time a lease has before u. -/
def ahead (x : L) (u : Int) : Int := min x.u u - min x.f u
def aheads (l : List L) (u : Int) : Int := (l.map fun x => ahead x u).sum
def meanB (l : List L) (u : Int) : Bool := validB l && inB u 1 1000
def meanOf (l : List L) (u : Int) : Int := if meanB l u = true then 100 * aheads l u / u else -1
theorem ahead_bd {x : L} (h : x.ok = true) (u : Int) : 0 ≤ ahead x u ∧ ahead x u ≤ 1000 := by
  have := L.ok_iff.1 h
  unfold ahead; omega
theorem ahead_max {x : L} (h : x.ok = true) (u : Int) : max 0 (min x.u u - x.f) = ahead x u := by
  have := L.ok_iff.1 h
  unfold ahead; omega
theorem aheads_snoc (l : List L) (x : L) (u : Int) : aheads (l ++ [x]) u = aheads l u + ahead x u := by simp [aheads]
theorem aheads_take {l : List L} {k : Nat} (hk : k < l.length) (u : Int) : aheads (l.take (k + 1)) u = aheads (l.take k) u + ahead l[k] u := by
  rw [List.take_succ_eq_append_getElem hk, aheads_snoc]
theorem aheads_bd : ∀ {l : List L} (_ : ∀ x ∈ l, x.ok = true) (u : Int), 0 ≤ aheads l u ∧ aheads l u ≤ 1000 * l.length
  | [], _, u => by simp [aheads]
  | x :: l, h, u => by
    have h1 := ahead_bd (h x (by simp)) u
    have h2 := aheads_bd (l := l) (fun y hy => h y (by simp [hy])) u
    have e : aheads (x :: l) u = ahead x u + aheads l u := by simp [aheads]
    rw [e, List.length_cons]
    omega
theorem aheads_take_bd {l : List L} (hv : validB l = true) (k : Nat) (u : Int) : 0 ≤ aheads (l.take k) u ∧ aheads (l.take k) u ≤ 12000 := by
  obtain ⟨h1, h2⟩ := validB_iff.1 hv
  have := aheads_bd (l := l.take k) (fun x hx => h2.1 x (List.mem_of_mem_take hx)) u
  have h3 : (l.take k).length ≤ 12 := by rw [List.length_take]; omega
  omega
theorem mean_no {l : List L} {u : Int} (h : meanB l u = false) : meanOf l u = -1 := by unfold meanOf; rw [if_neg (by simp [h])]
theorem mean_yes {l : List L} {u : Int} (h1 : validB l = true) (h2 : inB u 1 1000 = true) : meanOf l u = 100 * aheads l u / u := by unfold meanOf meanB; rw [if_pos (by rw [h1, h2]; rfl)]
theorem times_in (u : Int) : timesB 0 u = inB u 1 1000 := by
  unfold timesB inB
  rw [Bool.eq_iff_iff, decide_eq_true_eq, decide_eq_true_eq]
  omega
set_option maxHeartbeats 400000 in
theorem lesserOf_any (a b : Int) (w : World) :
    Calls Try.prog 49 #[.int .i64 a, .int .i64 b] w fun e w' => e = .returned (.int .i64 (min a b)) ∧ w = w' := by
  obtain ⟨M, hM⟩ : ∃ M, M = min a b := ⟨_, rfl⟩
  rw [← hM]
  by_cases h1 : a < b
  · have E := hid (show M = a by omega)
    clear hM
    go_enter Try.func49, Try.ntmps49
    go_wp2
    go_ret
    exact ⟨ret_int E.out.symm, rfl⟩
  · have E := hid (show M = b by omega)
    clear hM
    go_enter Try.func49, Try.ntmps49
    go_wp2
    go_ret
    exact ⟨ret_int E.out.symm, rfl⟩

set_option maxHeartbeats 4000000 in
theorem iMeanLeased_any (A : Option Addr) (c : Nat) (l : List L) (u : Int) (w : World) (h : Sees w w.heap.size A (lvals l)) (hc : l.length ≤ c) (hn : l.length ≤ 4194304) :
    Calls Try.prog 24 #[.slice A l.length c, .int .i64 u] w fun e w' => e = .returned (.int .i64 (meanOf l u)) ∧ Below w.heap.size w w' := by
  have HN := hid hn; clear hn
  rcases hv : validB l with _ | _
  · have E := hid (mean_no (l := l) (u := u) (by unfold meanB; rw [hv]; rfl))
    have HV := hid hv
    clear hv
    go_enter Try.func24, Try.ntmps24
    go_wp2_with fail
    refine (iValidLeases_any A c l _ h hc HN.out).mono ?_
    rintro e w1 ⟨he, hb1⟩
    rw [HV.out] at he
    subst he
    go_wp2
    go_ret
    exact ⟨ret_int E.out.symm, hb1⟩
  · rcases hm : inB u 1 1000 with _ | _
    · have E := hid (mean_no (l := l) (u := u) (by unfold meanB; rw [hm]; simp))
      have HV := hid hv
      have HM := hid hm
      clear hv hm
      go_enter Try.func24, Try.ntmps24
      go_wp2_with fail
      refine (iValidLeases_any A c l _ h hc HN.out).mono ?_
      rintro e w1 ⟨he, hb1⟩
      rw [HV.out] at he
      subst he
      go_wp2_with fail
      refine (validTimes_any _ _ _).mono ?_
      rintro e w2 ⟨he, rfl⟩
      rw [times_in, HM.out] at he
      subst he
      go_wp2
      go_ret
      exact ⟨ret_int E.out.symm, hb1⟩
    · have E := hid (mean_yes hv hm)
      obtain ⟨m1, m2⟩ := inB_iff.1 hm
      have HV := hid hv
      have HM := hid hm
      clear hv hm
      go_enter Try.func24, Try.ntmps24
      go_wp2_with fail
      refine (iValidLeases_any A c l _ h hc HN.out).mono ?_
      rintro e w1 ⟨he, hb1⟩
      rw [HV.out] at he
      subst he
      go_wp2_with fail
      refine (validTimes_any _ _ _).mono ?_
      rintro e w2 ⟨he, rfl⟩
      rw [times_in, HM.out] at he
      subst he
      go_wp2
      go_loopw [5, 18] (fun v i wr => ∃ k : Nat, k ≤ l.length ∧ i = .int .i64 k ∧ v = .int .i64 (aheads (l.take k) u) ∧ Below w.heap.size w wr) (fun _ i _ => l.length - (intOf i).toNat)
      case atStart => exact ⟨0, Nat.zero_le _, rfl, by simp [aheads], hb1⟩
      case round =>
        obtain ⟨k, hk, rfl, rfl, hb⟩ := hrel
        have hn := HN.out
        by_cases hlt : k < l.length
        · have hi : (k : Int) < (l.length : Int) := by omega
          obtain ⟨b, o, rfl, hbl, e0, e1, e2, e3⟩ := (h.below hb).lease hlt
          have hz := hb.size
          have hbw : b < wr.heap.size := by omega
          have HS := hid (aheads_take hlt u)
          obtain ⟨t1, t2⟩ := aheads_take_bd HV.out k u
          have hok := ok_of hlt HV.out
          obtain ⟨x, hx⟩ : ∃ x, x = l[k] := ⟨_, rfl⟩
          rw [← hx] at e0 e1 e2 e3 HS hok
          clear hx
          have HA := hid (ahead_max hok u)
          obtain ⟨a1, a2⟩ := ahead_bd hok u
          obtain ⟨_, _, _, _, g5, g6, g7⟩ := L.ok_iff.1 hok
          clear hok
          obtain ⟨s, hs⟩ : ∃ s, s = aheads (l.take k) u := ⟨_, rfl⟩
          rw [← hs] at t1 t2 HS
          rw [← hs]
          clear hs
          obtain ⟨D, hD⟩ : ∃ D, D = ahead x u := ⟨_, rfl⟩
          have HDD : Hid (min x.u u - min x.f u = D) := hid (by rw [hD]; rfl)
          rw [← hD] at HS a1 a2
          clear hD HA
          obtain ⟨M1, hM1⟩ : ∃ M, M = min x.u u := ⟨_, rfl⟩
          obtain ⟨M2, hM2⟩ : ∃ M, M = min x.f u := ⟨_, rfl⟩
          have H1 := hid hM1.symm
          have H2 := hid hM2.symm
          rw [← hM1, ← hM2] at HDD
          have hd : M1 - M2 = D := HDD.out
          clear hM1 hM2
          have hw1 : IntKind.i64.wrap (M1 - M2) = D := by rw [hd, IntKind.wrap_i64]; omega
          have hw2 : IntKind.i64.wrap (s + D) = s + D := by rw [IntKind.wrap_i64]; omega
          have HDQ := hid hd
          clear hd
          go_wp2
          go_quiet ((go_at_call 49; exact Calls.quiet_of_same ((lesserOf_any _ _ _).mono fun _ _ ⟨he, hw⟩ => ⟨by first | rw [he, H1.out] | rw [he, H2.out], hw.symm⟩)))
          go_wp2
          go_roundw
          case rel => exact ⟨k + 1, by omega, by go_num, by rw [HS.out], below_drewN (hb.alloc (by omega) _) _⟩
          case measure => simp [intOf]; omega
        · have hi : ¬ (k : Int) < (l.length : Int) := by omega
          obtain ⟨t1, t2⟩ := aheads_take_bd HV.out k u
          rw [take_whole hlt] at t1 t2 ⊢
          obtain ⟨s, hs⟩ : ∃ s, s = aheads l u := ⟨_, rfl⟩
          rw [← hs] at t1 t2 E ⊢
          clear hs
          have hw1 : IntKind.i64.wrap (100 * s) = 100 * s := by rw [IntKind.wrap_i64]; omega
          have hq0 : 0 ≤ 100 * s / u := Int.ediv_nonneg (by omega) (by omega)
          have hq1 : 100 * s / u ≤ 100 * s := Int.ediv_le_self _ (by omega)
          have hw2 : IntKind.i64.wrap (100 * s / u) = 100 * s / u := by rw [IntKind.wrap_i64]; omega
          have hw3 : (100 * s).tdiv u = 100 * s / u := Int.tdiv_eq_ediv_of_nonneg (by omega)
          have hu0 : ¬ u = 0 := by omega
          have hu0b : (u == 0) = false := beq_eq_false_iff_ne.2 hu0
          go_wp2
          go_ret
          exact ⟨ret_int E.out.symm, hb⟩

set_option maxHeartbeats 4000000 in
theorem sMeanLeased_any (A : Option Addr) (c : Nat) (l : List L) (u : Int) (w : World) (h : Sees w w.heap.size A (lvals l)) (hn : l.length ≤ 4194304) :
    Calls Try.prog 25 #[.slice A l.length c, .int .i64 u] w fun e w' => e = .returned (.int .i64 (meanOf l u)) ∧ Below w.heap.size w w' := by
  have HN := hid hn; clear hn
  rcases hv : validB l with _ | _
  · have E := hid (mean_no (l := l) (u := u) (by unfold meanB; rw [hv]; rfl))
    have HV := hid hv
    clear hv
    go_enter Try.func25, Try.ntmps25
    go_wp2_with fail
    refine (svalidLeases_any A c l _ h HN.out).mono ?_
    rintro e w1 ⟨he, hb1⟩
    rw [HV.out] at he
    subst he
    go_wp2
    go_ret
    exact ⟨ret_int E.out.symm, hb1⟩
  · rcases hm : inB u 1 1000 with _ | _
    · have E := hid (mean_no (l := l) (u := u) (by unfold meanB; rw [hm]; simp))
      have HV := hid hv
      have HM := hid hm
      clear hv hm
      go_enter Try.func25, Try.ntmps25
      go_wp2_with fail
      refine (svalidLeases_any A c l _ h HN.out).mono ?_
      rintro e w1 ⟨he, hb1⟩
      rw [HV.out] at he
      subst he
      go_wp2_with fail
      refine (inRange_any _ _ _ _).mono ?_
      rintro e w2 ⟨he, rfl⟩
      rw [HM.out] at he
      subst he
      go_wp2
      go_ret
      exact ⟨ret_int E.out.symm, hb1⟩
    · have E := hid (mean_yes hv hm)
      obtain ⟨m1, m2⟩ := inB_iff.1 hm
      have HV := hid hv
      have HM := hid hm
      clear hv hm
      go_enter Try.func25, Try.ntmps25
      go_wp2_with fail
      refine (svalidLeases_any A c l _ h HN.out).mono ?_
      rintro e w1 ⟨he, hb1⟩
      rw [HV.out] at he
      subst he
      go_wp2_with fail
      refine (inRange_any _ _ _ _).mono ?_
      rintro e w2 ⟨he, rfl⟩
      rw [HM.out] at he
      subst he
      go_wp2
      go_loopw [5, 6] (fun v i wr => ∃ k : Nat, k ≤ l.length ∧ i = .int .i64 k ∧ v = .int .i64 (aheads (l.take k) u) ∧ Below w.heap.size w wr) (fun _ i _ => l.length - (intOf i).toNat)
      case atStart => exact ⟨0, Nat.zero_le _, rfl, by simp [aheads], hb1⟩
      case round =>
        obtain ⟨k, hk, rfl, rfl, hb⟩ := hrel
        have hn := HN.out
        by_cases hlt : k < l.length
        · have hi : (k : Int) < (l.length : Int) := by omega
          obtain ⟨b, o, rfl, hbl, e0, e1, e2, e3⟩ := (h.below hb).lease hlt
          have hz := hb.size
          have hbw : b < wr.heap.size := by omega
          have HS := hid (aheads_take hlt u)
          obtain ⟨t1, t2⟩ := aheads_take_bd HV.out k u
          have hok := ok_of hlt HV.out
          obtain ⟨x, hx⟩ : ∃ x, x = l[k] := ⟨_, rfl⟩
          rw [← hx] at e0 e1 e2 e3 HS hok
          clear hx
          have HA := hid (ahead_max hok u)
          obtain ⟨a1, a2⟩ := ahead_bd hok u
          obtain ⟨_, _, _, _, g5, g6, g7⟩ := L.ok_iff.1 hok
          clear hok
          obtain ⟨s, hs⟩ : ∃ s, s = aheads (l.take k) u := ⟨_, rfl⟩
          rw [← hs] at t1 t2 HS
          rw [← hs]
          clear hs
          have hc1 : x.u < u ∨ x.u = u ∨ u < x.u := by omega
          rcases hc1 with hc1 | hc1 | hc1
          · skip
            have hmm : min x.u u - x.f = x.u - x.f := by omega
            have hpos : 0 < x.u - x.f := by omega
            have hw1 : IntKind.i64.wrap (x.u - x.f) = x.u - x.f := by rw [IntKind.wrap_i64]; omega
            have HX := hid (show ahead x u = x.u - x.f by have := HA.out; omega)
            have hw2 : IntKind.i64.wrap (s + (x.u - x.f)) = s + (x.u - x.f) := by rw [IntKind.wrap_i64]; omega
            clear a1 a2 HA hmm
            go_wp2
            go_quiet (fail)
            go_wp2
            go_roundw
            case rel => exact ⟨k + 1, by omega, by go_num, by rw [HS.out, HX.out], below_drewN hb _⟩
            case measure => simp [intOf]; omega
          · skip
            subst hc1
            have hmm : min x.u x.u - x.f = x.u - x.f := by omega
            have hpos : 0 < x.u - x.f := by omega
            have hw1 : IntKind.i64.wrap (x.u - x.f) = x.u - x.f := by rw [IntKind.wrap_i64]; omega
            have HX := hid (show ahead x x.u = x.u - x.f by have := HA.out; omega)
            have hw2 : IntKind.i64.wrap (s + (x.u - x.f)) = s + (x.u - x.f) := by rw [IntKind.wrap_i64]; omega
            clear a1 a2 HA hmm
            go_wp2
            go_quiet (fail)
            go_wp2
            go_roundw
            case rel => exact ⟨k + 1, by omega, by go_num, by rw [HS.out, HX.out], below_drewN hb _⟩
            case measure => simp [intOf]; omega
          · skip
            have hmm : min x.u u - x.f = u - x.f := by omega
            have hw1 : IntKind.i64.wrap (u - x.f) = u - x.f := by rw [IntKind.wrap_i64]; omega
            have hc2 : 0 < u - x.f ∨ u - x.f = 0 ∨ u - x.f < 0 := by omega
            rcases hc2 with hc2 | hc2 | hc2
            · skip
              have HX := hid (show ahead x u = u - x.f by have := HA.out; omega)
              have hw2 : IntKind.i64.wrap (s + (u - x.f)) = s + (u - x.f) := by rw [IntKind.wrap_i64]; omega
              clear a1 a2 HA hmm
              go_wp2
              go_quiet (fail)
              go_wp2
              go_roundw
              case rel => exact ⟨k + 1, by omega, by go_num, (by rw [HS.out, HX.out] <;> try go_num), below_drewN hb _⟩
              case measure => simp [intOf]; omega
            · skip
              have HX := hid (show ahead x u = 0 by have := HA.out; omega)
              have hw2 : IntKind.i64.wrap (s + (0)) = s + (0) := by rw [IntKind.wrap_i64]; omega
              have hw3 : IntKind.i64.wrap s = s := by rw [IntKind.wrap_i64]; omega
              clear a1 a2 HA hmm
              go_wp2
              go_quiet (fail)
              go_wp2
              go_roundw
              case rel => exact ⟨k + 1, by omega, by go_num, (by rw [HS.out, HX.out] <;> try go_num), below_drewN hb _⟩
              case measure => simp [intOf]; omega
            · skip
              have HX := hid (show ahead x u = 0 by have := HA.out; omega)
              have hw2 : IntKind.i64.wrap (s + (0)) = s + (0) := by rw [IntKind.wrap_i64]; omega
              have hw3 : IntKind.i64.wrap s = s := by rw [IntKind.wrap_i64]; omega
              clear a1 a2 HA hmm
              go_wp2
              go_quiet (fail)
              go_wp2
              go_roundw
              case rel => exact ⟨k + 1, by omega, by go_num, (by rw [HS.out, HX.out] <;> try go_num), below_drewN hb _⟩
              case measure => simp [intOf]; omega
        · have hi : ¬ (k : Int) < (l.length : Int) := by omega
          obtain ⟨t1, t2⟩ := aheads_take_bd HV.out k u
          rw [take_whole hlt] at t1 t2 ⊢
          obtain ⟨s, hs⟩ : ∃ s, s = aheads l u := ⟨_, rfl⟩
          rw [← hs] at t1 t2 E ⊢
          clear hs
          have hw1 : IntKind.i64.wrap (100 * s) = 100 * s := by rw [IntKind.wrap_i64]; omega
          have hq0 : 0 ≤ 100 * s / u := Int.ediv_nonneg (by omega) (by omega)
          have hq1 : 100 * s / u ≤ 100 * s := Int.ediv_le_self _ (by omega)
          have hw2 : IntKind.i64.wrap (100 * s / u) = 100 * s / u := by rw [IntKind.wrap_i64]; omega
          have hw3 : (100 * s).tdiv u = 100 * s / u := Int.tdiv_eq_ediv_of_nonneg (by omega)
          have hu0 : ¬ u = 0 := by omega
          have hu0b : (u == 0) = false := beq_eq_false_iff_ne.2 hu0
          go_wp2
          go_ret
          exact ⟨ret_int E.out.symm, hb⟩

end Go.Proofs.Ytnkdhkhgfgcloaa

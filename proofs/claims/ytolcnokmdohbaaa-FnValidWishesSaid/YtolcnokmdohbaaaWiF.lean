/-
  What LongestWait and ConnsFor answer. Condition: the list lies in memory.
-/
import Derived.Test.YtolcnokmdohbaaaWiE
namespace Go.Proofs.Ytolcnokmdohbaaa
open Go.RowKit Wis

theorem waits_step {ts : List Int} {l : List Wi} (h : ts.length = l.length) {k : Nat} (hk : k < l.length) (hk2 : k < ts.length) : waits (ts.take (k + 1)) (l.take (k + 1)) = max (waits (ts.take k) (l.take k)) (if ts[k]'hk2 = -1 then 0 else ts[k]'hk2 - l[k].a) := waits_succ h hk
theorem waits_bd {l : List Wi} {m : Int} (h : serveB l m = true) (k : Nat) : 0 ≤ waits ((serveL l m).take k) (l.take k) ∧ waits ((serveL l m).take k) (l.take k) ≤ 100 := by
  have h2 := serveB_take h k
  have := long_patient h2
  rw [long_yes h2, serve_take h] at this
  omega
set_option maxHeartbeats 4000000 in
theorem iLongestWait_any (A : Option Addr) (c : Nat) (l : List Wi) (m : Int) (w : World) (h : Sees w w.heap.size A (strip wcells l)) (hn : l.length ≤ 4194304) :
    Calls Try.prog 23 #[.slice A l.length c, .int .i64 m] w fun e w' => e = .returned (.int .i64 (longest l m)) ∧ Below w.heap.size w w' := by
  have HN := hid hn; clear hn
  rcases hv : serveB l m with _ | _
  · have E := hid (long_no hv)
    have HV := hid hv
    clear hv
    go_enter Try.func23, Try.ntmps23
    go_wp2_with fail
    refine (validService_any A c l m _ h HN.out).mono ?_
    rintro e w1 ⟨he, hb1⟩
    rw [HV.out] at he
    subst he
    go_wp2
    go_ret
    exact ⟨ret_int E.out.symm, hb1⟩
  · have E := hid (long_yes hv)
    have HV := hid hv
    have HSV := hid hv
    clear hv
    go_enter Try.func23, Try.ntmps23
    go_wp2_with fail
    refine (validService_any A c l m _ h HN.out).mono ?_
    rintro e w1 ⟨he, hb1⟩
    rw [HV.out] at he
    subst he
    go_wp2_with fail
    refine (iServeTimes_any A c l m _ ((h.below hb1).more hb1.size) HN.out).mono ?_
    rintro e w2 ⟨v2, rfl, ho2, hb2⟩
    obtain ⟨As, cs, rfl, hs2⟩ := ho2.form
    have hb3 := hb1.trans (hb2.mono hb1.size)
    have hs3 := h.below hb3
    have hbd := waits_bd HSV.out
    have hle := serve_le HSV.out
    have hlen := serve_all HSV.out
    have HSU := hid (fun k (hk : k < l.length) hk2 => waits_step hlen hk hk2)
    have HEA := hid (fun k (hk : k < (serveL l m).length) => serve_each HSV.out hk)
    obtain ⟨T, hT⟩ : ∃ T, T = serveL l m := ⟨_, rfl⟩
    rw [← hT] at hs2 E hbd HSU HEA hlen hle ⊢
    have HBD := hid hbd
    have HLEN := hid hlen
    clear hT hbd ho2 hb1 hb2 hlen
    go_wp2
    go_loopw [5, 16] (fun s i wr => ∃ k : Nat, k ≤ T.length ∧ i = .int .i64 k ∧ s = .int .i64 (waits (T.take k) (l.take k)) ∧ ∃ d, wr = w2.drewN d) (fun _ i _ => T.length - (intOf i).toNat)
    case atStart => exact ⟨0, Nat.zero_le _, rfl, by simp [waits], 0, rfl⟩
    case round =>
      obtain ⟨k, hk, rfl, rfl, d, rfl⟩ := hrel
      obtain ⟨d1, d2⟩ := HBD.out k
      by_cases hlt : k < T.length
      · have hi : (k : Int) < (T.length : Int) := by omega
        have hll : k < l.length := by rw [← HLEN.out]; exact hlt
        have hil : (k : Int) < (l.length : Int) := by omega
        have hk0 : (0 : Int) ≤ (k : Int) := by omega
        obtain ⟨b, o, rfl, _, e0⟩ := hs2.int hlt
        obtain ⟨b2, o2, rfl, _, f0, _, _⟩ := hs3.wish hll
        have HX := hid (HSU.out k hll hlt)
        obtain ⟨⟨t1, t2⟩, _, t3⟩ := HEA.out k hlt
        obtain ⟨t, ht⟩ : ∃ t, t = T[k] := ⟨_, rfl⟩
        rw [← ht] at e0 HX t1 t2 t3
        obtain ⟨x, hx⟩ : ∃ x, x = l[k].a := ⟨_, rfl⟩
        rw [← hx] at f0 HX t3
        obtain ⟨s, hs⟩ : ∃ s, s = waits (T.take k) (l.take k) := ⟨_, rfl⟩
        rw [← hs] at d1 d2 HX ⊢
        clear ht hs hx
        rcases hx : (t != -1) with _ | _
        · have HY := hid (HX.out.trans (by rw [if_pos (by simpa using hx)]; omega : _ = s))
          go_wp2
          go_roundw
          case rel => exact ⟨k + 1, by omega, by go_num, by rw [HY.out], _, rfl⟩
          case measure => simp [intOf]; omega
        · have hne : ¬ t = -1 := by simpa using hx
          have ht3 := t3.resolve_left hne
          obtain ⟨t4, t5, t6⟩ := ht3
          clear t3
          have HY := hid (HX.out.trans (by rw [if_neg hne] : _ = max s (t - x)))
          have hw1 : IntKind.i64.wrap (t - x) = t - x := by rw [IntKind.wrap_i64]; omega
          have HNE := hid hne
          clear hne
          go_wp2_with fail
          refine (greaterOf_any _ _ _).mono ?_
          rintro e w5 ⟨rfl, rfl⟩
          go_wp2
          go_roundw
          case rel => exact ⟨k + 1, by omega, by go_num, by rw [HY.out], _, rfl⟩
          case measure => simp [intOf]; omega
      · have hi : ¬ (k : Int) < (T.length : Int) := by omega
        rw [take_whole hlt, take_whole (by rw [← HLEN.out]; exact hlt)]
        go_wp2
        go_ret
        exact ⟨ret_int E.out.symm, below_drewN hb3 _⟩

set_option maxHeartbeats 4000000 in
theorem sLongestWait_any (A : Option Addr) (c : Nat) (l : List Wi) (m : Int) (w : World) (h : Sees w w.heap.size A (strip wcells l)) (hn : l.length ≤ 4194304) :
    Calls Try.prog 22 #[.slice A l.length c, .int .i64 m] w fun e w' => e = .returned (.int .i64 (longest l m)) ∧ Below w.heap.size w w' := by
  have HN := hid hn; clear hn
  rcases hv : wishB l with _ | _
  · have E := hid (long_no (l := l) (m := m) (by rw [serveB_in, hv]; rfl))
    have HV := hid hv
    clear hv
    go_enter Try.func22, Try.ntmps22
    go_wp2_with fail
    refine (svalidWishes_any A c l _ h HN.out).mono ?_
    rintro e w1 ⟨he, hb1⟩
    rw [HV.out] at he
    subst he
    go_wp2
    go_ret
    exact ⟨ret_int E.out.symm, hb1⟩
  · rcases hm : inB m 1 6 with _ | _
    · have E := hid (long_no (l := l) (m := m) (by rw [serveB_in, hv, hm]; rfl))
      have HV := hid hv
      have HM := hid hm
      clear hv hm
      go_enter Try.func22, Try.ntmps22
      go_wp2_with fail
      refine (svalidWishes_any A c l _ h HN.out).mono ?_
      rintro e w1 ⟨he, hb1⟩
      rw [HV.out] at he
      subst he
      go_wp2_with fail
      refine (inRange_any _ _ _ _).mono ?_
      rintro e w2 ⟨he, rfl⟩
      rw [HM.out] at he
      subst he
      go_wp2
      go_ret
      exact ⟨ret_int E.out.symm, hb1⟩
    · have hsv : serveB l m = true := by rw [serveB_in, hv, hm]; rfl
      have E := hid (long_yes hsv)
      have HS := hid (serve_yes hsv)
      have HSV := hid hsv
      have HV := hid hv
      have HM := hid hm
      have hm' := inB_iff.1 hm
      obtain ⟨n, rfl⟩ : ∃ n : Nat, m = n := ⟨m.toNat, by omega⟩
      have hn0 : 0 < n := by omega
      have hn6 : n ≤ 6 := by omega
      have HS2 : Hid (run (zeros n) l = serveL l n) := hid (by rw [HS.out]; rfl)
      clear hv hm hm' hsv
      go_enter Try.func22, Try.ntmps22
      go_wp2_with fail
      refine (svalidWishes_any A c l _ h HN.out).mono ?_
      rintro e w1 ⟨he, hb1⟩
      rw [HV.out] at he
      subst he
      go_wp2_with fail
      refine (inRange_any _ _ _ _).mono ?_
      rintro e w2 ⟨he, rfl⟩
      rw [HM.out] at he
      subst he
      go_wp2_with fail
      refine (sserve_any A c l n _ ((h.below hb1).more hb1.size) HN.out HV.out hn0 hn6).mono ?_
      rintro e w2 ⟨v2, rfl, ho2, hb2⟩
      rw [HS2.out] at ho2
      obtain ⟨As, cs, rfl, hs2⟩ := ho2.form
      have hb3 := hb1.trans (hb2.mono hb1.size)
      have hs3 := h.below hb3
      have hbd := waits_bd HSV.out
      have hle := serve_le HSV.out
      have hlen := serve_all HSV.out
      have HSU := hid (fun k (hk : k < l.length) hk2 => waits_step hlen hk hk2)
      have HEA := hid (fun k (hk : k < (serveL l n).length) => serve_each HSV.out hk)
      obtain ⟨T, hT⟩ : ∃ T, T = serveL l n := ⟨_, rfl⟩
      rw [← hT] at hs2 E hbd HSU HEA hlen hle ⊢
      have HBD := hid hbd
      have HLEN := hid hlen
      clear hT hbd ho2 hb1 hb2 hlen
      go_wp2
      go_loopw [5, 7] (fun s i wr => ∃ k : Nat, k ≤ T.length ∧ i = .int .i64 k ∧ s = .int .i64 (waits (T.take k) (l.take k)) ∧ ∃ d, wr = w2.drewN d) (fun _ i _ => T.length - (intOf i).toNat)
      case atStart => exact ⟨0, Nat.zero_le _, rfl, by simp [waits], 0, rfl⟩
      case round =>
        obtain ⟨k, hk, rfl, rfl, d, rfl⟩ := hrel
        obtain ⟨d1, d2⟩ := HBD.out k
        by_cases hlt : k < T.length
        · have hi : (k : Int) < (T.length : Int) := by omega
          have hll : k < l.length := by rw [← HLEN.out]; exact hlt
          have hil : (k : Int) < (l.length : Int) := by omega
          have hk0 : (0 : Int) ≤ (k : Int) := by omega
          obtain ⟨b, o, rfl, _, e0⟩ := hs2.int hlt
          obtain ⟨b2, o2, rfl, _, f0, _, _⟩ := hs3.wish hll
          have HX := hid (HSU.out k hll hlt)
          obtain ⟨⟨t1, t2⟩, _, t3⟩ := HEA.out k hlt
          obtain ⟨t, ht⟩ : ∃ t, t = T[k] := ⟨_, rfl⟩
          rw [← ht] at e0 HX t1 t2 t3
          obtain ⟨x, hx⟩ : ∃ x, x = l[k].a := ⟨_, rfl⟩
          rw [← hx] at f0 HX t3
          obtain ⟨s, hs⟩ : ∃ s, s = waits (T.take k) (l.take k) := ⟨_, rfl⟩
          rw [← hs] at d1 d2 HX ⊢
          clear ht hs hx
          by_cases hx : t ≥ 0
          · have hne : ¬ t = -1 := by omega
            have ht3 := t3.resolve_left hne
            obtain ⟨t4, t5, t6⟩ := ht3
            clear t3
            have HY := hid (HX.out.trans (by rw [if_neg hne] : _ = max s (t - x)))
            have hw1 : IntKind.i64.wrap (t - x) = t - x := by rw [IntKind.wrap_i64]; omega
            have HNE := hid hne
            clear hne
            have hcmp : s < t - x ∨ s = t - x ∨ t - x < s := by omega
            rcases hcmp with hc | hc | hc
            · have HZ := hid (HY.out.trans (by omega : _ = t - x))
              go_wp2
              go_quiet (fail)
              go_wp2
              go_roundw
              case rel => exact ⟨k + 1, by omega, by go_num, by rw [HZ.out], _, rfl⟩
              case measure => simp [intOf]; omega
            · have HZ := hid (HY.out.trans (by omega : _ = t - x))
              have HC := hid hc
              subst hc
              have hnl : ¬ t - x < t - x := by omega
              go_wp2
              go_quiet (fail)
              go_wp2
              go_roundw
              case rel => exact ⟨k + 1, by omega, by go_num, by rw [HZ.out], _, rfl⟩
              case measure => simp [intOf]; omega
            · have HZ := hid (HY.out.trans (by omega : _ = s))
              go_wp2
              go_quiet (fail)
              go_wp2
              go_roundw
              case rel => exact ⟨k + 1, by omega, by go_num, by rw [HZ.out], _, rfl⟩
              case measure => simp [intOf]; omega
          · have HY := hid (HX.out.trans (by rw [if_pos (by omega)]; omega : _ = s))
            go_wp2
            go_roundw
            case rel => exact ⟨k + 1, by omega, by go_num, by rw [HY.out], _, rfl⟩
            case measure => simp [intOf]; omega
        · have hi : ¬ (k : Int) < (T.length : Int) := by omega
          rw [take_whole hlt, take_whole (by rw [← HLEN.out]; exact hlt)]
          go_wp2
          go_ret
          exact ⟨ret_int E.out.symm, below_drewN hb3 _⟩

set_option maxHeartbeats 2000000 in
theorem iConnsFor_any (A : Option Addr) (c : Nat) (l : List Wi) (w : World) (h : Sees w w.heap.size A (strip wcells l)) (hn : l.length ≤ 4194304) :
    Calls Try.prog 25 #[.slice A l.length c] w fun e w' => e = .returned (.int .i64 (connsFor l)) ∧ Below w.heap.size w w' := by
  have HN := hid hn; clear hn
  rcases hv : wishB l with _ | _
  · have E := hid (conns_no hv)
    have HV := hid hv
    clear hv
    go_enter Try.func25, Try.ntmps25
    go_wp2_with fail
    refine (iValidWishes_any A c l _ h HN.out).mono ?_
    rintro e w1 ⟨he, hb1⟩
    rw [HV.out] at he
    subst he
    go_wp2
    go_ret
    exact ⟨ret_int E.out.symm, hb1⟩
  · have E := hid (show connsFor l = firstAll l 1 6 by unfold connsFor; rw [if_pos hv])
    have HV := hid hv
    clear hv
    go_enter Try.func25, Try.ntmps25
    go_wp2_with fail
    refine (iValidWishes_any A c l _ h HN.out).mono ?_
    rintro e w1 ⟨he, hb1⟩
    rw [HV.out] at he
    subst he
    go_wp2
    go_loopw [3] (fun i wr => ∃ k : Nat, i = .int .i64 k ∧ 1 ≤ k ∧ k ≤ 7 ∧ Hid (∀ j : Nat, 1 ≤ j → j < k → countS l j ≠ l.length) ∧ Below w.heap.size w wr) (fun i _ => 7 - (intOf i).toNat)
    case atStart => exact ⟨1, rfl, Nat.le_refl _, by omega, hid (fun j h1 h2 => by omega), hb1⟩
    case round =>
      obtain ⟨k, rfl, hk1, hk7, HF, hb⟩ := hrel
      have hn := HN.out
      by_cases hlt : k ≤ 6
      · have hi : (k : Int) ≤ 6 := by omega
        obtain ⟨C, hC⟩ : ∃ C, C = countS l k := ⟨_, rfl⟩
        have HC := hid hC.symm
        rcases hx : (C == (l.length : Int)) with _ | _
        · have HX := hid (show ∀ j : Nat, 1 ≤ j → j < k + 1 → countS l j ≠ l.length from fun j h1 h2 => by
            rcases Nat.lt_or_ge j k with e | e
            · exact HF.out j h1 e
            · rw [show j = k by omega, HC.out]; simpa using hx)
          clear hC
          go_wp2_with fail
          refine (iCountServed_any A c l k _ ((h.below hb).more hb.size) HN.out).mono ?_
          rintro e w3 ⟨he, hb3⟩
          rw [HC.out] at he
          subst he
          go_wp2
          go_roundw
          case rel => exact ⟨k + 1, by go_num, by omega, by omega, HX, hb.trans (hb3.mono hb.size)⟩
          case measure => simp [intOf]; omega
        · have HX := hid (first_at hk1 hlt (by rw [HC.out]; simpa using hx) HF.out)
          clear hC
          go_wp2_with fail
          refine (iCountServed_any A c l k _ ((h.below hb).more hb.size) HN.out).mono ?_
          rintro e w3 ⟨he, hb3⟩
          rw [HC.out] at he
          subst he
          go_wp2
          go_ret
          exact ⟨ret_int (by rw [E.out, HX.out]), hb.trans (hb3.mono hb.size)⟩
      · have hi : ¬ (k : Int) ≤ 6 := by omega
        have HX := hid (first_no (l := l) (fun j h1 h2 => HF.out j h1 (by omega)))
        go_wp2
        go_ret
        exact ⟨ret_int (by rw [E.out, HX.out]), hb⟩

set_option maxHeartbeats 2000000 in
theorem sConnsFor_any (A : Option Addr) (c : Nat) (l : List Wi) (w : World) (h : Sees w w.heap.size A (strip wcells l)) (hn : l.length ≤ 4194304) :
    Calls Try.prog 24 #[.slice A l.length c] w fun e w' => e = .returned (.int .i64 (connsFor l)) ∧ Below w.heap.size w w' := by
  have HN := hid hn; clear hn
  rcases hv : wishB l with _ | _
  · have E := hid (conns_no hv)
    have HV := hid hv
    clear hv
    go_enter Try.func24, Try.ntmps24
    go_wp2_with fail
    refine (svalidWishes_any A c l _ h HN.out).mono ?_
    rintro e w1 ⟨he, hb1⟩
    rw [HV.out] at he
    subst he
    go_wp2
    go_ret
    exact ⟨ret_int E.out.symm, hb1⟩
  · have E := hid (show connsFor l = firstAll l 1 6 by unfold connsFor; rw [if_pos hv])
    have HV := hid hv
    clear hv
    go_enter Try.func24, Try.ntmps24
    go_wp2_with fail
    refine (svalidWishes_any A c l _ h HN.out).mono ?_
    rintro e w1 ⟨he, hb1⟩
    rw [HV.out] at he
    subst he
    go_wp2
    go_loopw [3] (fun i wr => ∃ k : Nat, i = .int .i64 k ∧ 1 ≤ k ∧ k ≤ 7 ∧ Hid (∀ j : Nat, 1 ≤ j → j < k → countS l j ≠ l.length) ∧ Below w.heap.size w wr) (fun i _ => 7 - (intOf i).toNat)
    case atStart => exact ⟨1, rfl, Nat.le_refl _, by omega, hid (fun j h1 h2 => by omega), hb1⟩
    case round =>
      obtain ⟨k, rfl, hk1, hk7, HF, hb⟩ := hrel
      have hn := HN.out
      by_cases hlt : k ≤ 6
      · have hi : (k : Int) ≤ 6 := by omega
        obtain ⟨C, hC⟩ : ∃ C, C = countS l k := ⟨_, rfl⟩
        have HC := hid hC.symm
        rcases hx : (C == (l.length : Int)) with _ | _
        · have HX := hid (show ∀ j : Nat, 1 ≤ j → j < k + 1 → countS l j ≠ l.length from fun j h1 h2 => by
            rcases Nat.lt_or_ge j k with e | e
            · exact HF.out j h1 e
            · rw [show j = k by omega, HC.out]; simpa using hx)
          clear hC
          go_wp2_with fail
          refine (sCountServed_any A c l k _ ((h.below hb).more hb.size) HN.out).mono ?_
          rintro e w3 ⟨he, hb3⟩
          rw [HC.out] at he
          subst he
          go_wp2
          go_roundw
          case rel => exact ⟨k + 1, by go_num, by omega, by omega, HX, hb.trans (hb3.mono hb.size)⟩
          case measure => simp [intOf]; omega
        · have HX := hid (first_at hk1 hlt (by rw [HC.out]; simpa using hx) HF.out)
          clear hC
          go_wp2_with fail
          refine (sCountServed_any A c l k _ ((h.below hb).more hb.size) HN.out).mono ?_
          rintro e w3 ⟨he, hb3⟩
          rw [HC.out] at he
          subst he
          go_wp2
          go_ret
          exact ⟨ret_int (by rw [E.out, HX.out]), hb.trans (hb3.mono hb.size)⟩
      · have hi : ¬ (k : Int) ≤ 6 := by omega
        have HX := hid (first_no (l := l) (fun j h1 h2 => HF.out j h1 (by omega)))
        go_wp2
        go_ret
        exact ⟨ret_int (by rw [E.out, HX.out]), hb⟩

end Go.Proofs.Ytolcnokmdohbaaa

/-
  What ServeTimes (the model's), CountServed, LongestWait and ConnsFor answer. Condition: the list lies in memory.
-/
import Derived.Test.YtolcnokmdohbaaaWiD
import Derived.Test.YtolcnokmdohbaaaWishLawMath
namespace Go.Proofs.Ytolcnokmdohbaaa
open Go.RowKit Wis

theorem serveB_in (l : List Wi) (m : Int) : serveB l m = (wishB l && inB m 1 6) := by unfold serveB inB; rfl
theorem serve_each {l : List Wi} {m : Int} (h : serveB l m = true) {k : Nat} (hk : k < (serveL l m).length) : (-1 ≤ (serveL l m)[k] ∧ (serveL l m)[k] ≤ 1200) ∧ ∃ hl : k < l.length, (serveL l m)[k] = -1 ∨ (0 ≤ (serveL l m)[k] - l[k].a ∧ (serveL l m)[k] - l[k].a ≤ 100 ∧ 0 ≤ l[k].a) := by
  have hl : k < l.length := by rw [← serve_all h]; exact hk
  obtain ⟨t, ht, h1, h2⟩ := serve_at h hl
  rw [List.getElem?_eq_getElem hk] at ht
  injection ht with ht
  have hok := Wi.ok_iff.1 (ok_of hl (serveB_iff.1 h).1)
  rw [ht]
  refine ⟨by omega, hl, by omega⟩
theorem serve_le {l : List Wi} {m : Int} (h : serveB l m = true) : (serveL l m).length ≤ 12 := by rw [serve_all h]; exact (wishB_iff.1 (serveB_iff.1 h).1).1
theorem served_bd (a : List Int) (k : Nat) (h : a.length ≤ 12) : 0 ≤ servN (a.take k) ∧ servN (a.take k) ≤ 12 := by
  have := served_le (a.take k)
  have h2 : (a.take k).length ≤ a.length := List.length_take_le' _ _
  omega
set_option maxHeartbeats 2000000 in
theorem sServeTimes_any (A : Option Addr) (c : Nat) (l : List Wi) (m : Int) (w : World) (h : Sees w w.heap.size A (strip wcells l)) (hn : l.length ≤ 4194304) :
    Calls Try.prog 14 #[.slice A l.length c, .int .i64 m] w fun e w' => ∃ v, e = .returned v ∧ Own w' w.heap.size v (serveL l m) ∧ Below w.heap.size w w' := by
  have HN := hid hn; clear hn
  rcases hv : wishB l with _ | _
  · have E := hid (show serveL l m = [] from serve_no (by rw [serveB_in, hv]; rfl))
    have HV := hid hv
    clear hv
    go_enter Try.func14, Try.ntmps14
    go_wp2_with fail
    refine (svalidWishes_any A c l _ h HN.out).mono ?_
    rintro e w1 ⟨he, hb1⟩
    rw [HV.out] at he
    subst he
    go_wp2
    go_ret
    exact ⟨_, rfl, by rw [E.out]; exact Own.none_ _ _, hb1⟩
  · rcases hm : inB m 1 6 with _ | _
    · have E := hid (show serveL l m = [] from serve_no (by rw [serveB_in, hv, hm]; rfl))
      have HV := hid hv
      have HM := hid hm
      clear hv hm
      go_enter Try.func14, Try.ntmps14
      go_wp2_with fail
      refine (svalidWishes_any A c l _ h HN.out).mono ?_
      rintro e w1 ⟨he, hb1⟩
      rw [HV.out] at he
      subst he
      go_wp2_with fail
      refine (inRange_any _ _ _ _).mono ?_
      rintro e w2 ⟨he, rfl⟩
      rw [HM.out] at he
      subst he
      go_wp2
      go_ret
      exact ⟨_, rfl, by rw [E.out]; exact Own.none_ _ _, hb1⟩
    · have E := hid (show serveL l m = run (zeros m.toNat) l from serve_yes (by rw [serveB_in, hv, hm]; rfl))
      have HV := hid hv
      have HM := hid hm
      have hm' := inB_iff.1 hm
      obtain ⟨n, rfl⟩ : ∃ n : Nat, m = n := ⟨m.toNat, by omega⟩
      have hn0 : 0 < n := by omega
      have hn6 : n ≤ 6 := by omega
      clear hv hm hm'
      go_enter Try.func14, Try.ntmps14
      go_wp2_with fail
      refine (svalidWishes_any A c l _ h HN.out).mono ?_
      rintro e w1 ⟨he, hb1⟩
      rw [HV.out] at he
      subst he
      go_wp2_with fail
      refine (inRange_any _ _ _ _).mono ?_
      rintro e w2 ⟨he, rfl⟩
      rw [HM.out] at he
      subst he
      go_wp2_with fail
      refine (sserve_any A c l n _ ((h.below hb1).more hb1.size) HN.out HV.out hn0 hn6).mono ?_
      rintro e w2 ⟨v, rfl, ho2, hb2⟩
      go_wp2
      go_ret
      exact ⟨_, rfl, by rw [E.out]; exact ho2.mono hb1.size, hb1.trans (hb2.mono hb1.size)⟩

set_option maxHeartbeats 400000 in
theorem wtoInt_any (b : Bool) (w : World) :
    Calls Try.prog 36 #[.bool b] w fun e w' => e = .returned (.int .i64 (if b = true then 1 else 0)) ∧ w = w' := by
  cases b
  · go_enter Try.func36, Try.ntmps36
    go_wp2
    go_ret
    exact ⟨rfl, rfl⟩
  · go_enter Try.func36, Try.ntmps36
    go_wp2
    go_ret
    exact ⟨rfl, rfl⟩

set_option maxHeartbeats 2000000 in
theorem iCountServed_any (A : Option Addr) (c : Nat) (l : List Wi) (m : Int) (w : World) (h : Sees w w.heap.size A (strip wcells l)) (hn : l.length ≤ 4194304) :
    Calls Try.prog 21 #[.slice A l.length c, .int .i64 m] w fun e w' => e = .returned (.int .i64 (countS l m)) ∧ Below w.heap.size w w' := by
  have HN := hid hn; clear hn
  rcases hv : serveB l m with _ | _
  · have E := hid (count_no hv)
    have HV := hid hv
    clear hv
    go_enter Try.func21, Try.ntmps21
    go_wp2_with fail
    refine (validService_any A c l m _ h HN.out).mono ?_
    rintro e w1 ⟨he, hb1⟩
    rw [HV.out] at he
    subst he
    go_wp2
    go_ret
    exact ⟨ret_int E.out.symm, hb1⟩
  · have E := hid (count_yes hv)
    have HV := hid hv
    clear hv
    go_enter Try.func21, Try.ntmps21
    go_wp2_with fail
    refine (validService_any A c l m _ h HN.out).mono ?_
    rintro e w1 ⟨he, hb1⟩
    rw [HV.out] at he
    subst he
    go_wp2_with fail
    refine (iServeTimes_any A c l m _ ((h.below hb1).more hb1.size) HN.out).mono ?_
    rintro e w2 ⟨v2, rfl, ho2, hb2⟩
    obtain ⟨As, cs, rfl, hs2⟩ := ho2.form
    have hb3 := hb1.trans (hb2.mono hb1.size)
    clear ho2 hb1 hb2
    have hlen := serve_le HV.out
    have hbd := fun k => served_bd (serveL l m) k hlen
    have HSU := hid (fun k (hk : k < (serveL l m).length) => served_succ (a := serveL l m) hk)
    obtain ⟨T, hT⟩ : ∃ T, T = serveL l m := ⟨_, rfl⟩
    rw [← hT] at hs2 E hlen hbd HSU ⊢
    have HBD := hid hbd
    clear hT hbd
    go_wp2
    go_loopw [5, 16] (fun s i wr => ∃ k : Nat, k ≤ T.length ∧ i = .int .i64 k ∧ s = .int .i64 (servN (T.take k)) ∧ wr = w2) (fun _ i _ => T.length - (intOf i).toNat)
    case atStart => exact ⟨0, Nat.zero_le _, rfl, by simp [servN], rfl⟩
    case round =>
      obtain ⟨k, hk, rfl, rfl, rfl⟩ := hrel
      obtain ⟨d1, d2⟩ := HBD.out k
      by_cases hlt : k < T.length
      · have hi : (k : Int) < (T.length : Int) := by omega
        obtain ⟨b, o, rfl, _, e0⟩ := hs2.int hlt
        have HX := hid (HSU.out k hlt)
        obtain ⟨t, ht⟩ : ∃ t, t = T[k] := ⟨_, rfl⟩
        rw [← ht] at e0 HX
        obtain ⟨s, hs⟩ : ∃ s, s = servN (T.take k) := ⟨_, rfl⟩
        rw [← hs] at d1 d2 HX ⊢
        clear ht hs
        have hw1 : IntKind.i64.wrap (s + 1) = s + 1 := by rw [IntKind.wrap_i64]; omega
        rcases hx : (t != -1) with _ | _
        · have HY := hid (HX.out.trans (by rw [if_pos (by simpa using hx)]; omega : _ = s))
          go_wp2
          go_roundw
          case rel => exact ⟨k + 1, by omega, by go_num, by rw [HY.out], by trivial⟩
          case measure => simp [intOf]; omega
        · have HY := hid (HX.out.trans (by rw [if_neg (by simpa using hx)] : _ = s + 1))
          go_wp2
          go_roundw
          case rel => exact ⟨k + 1, by omega, by go_num, by rw [HY.out], by trivial⟩
          case measure => simp [intOf]; omega
      · have hi : ¬ (k : Int) < (T.length : Int) := by omega
        rw [take_whole hlt]
        go_wp2
        go_ret
        exact ⟨ret_int E.out.symm, hb3⟩

set_option maxHeartbeats 2000000 in
theorem sCountServed_any (A : Option Addr) (c : Nat) (l : List Wi) (m : Int) (w : World) (h : Sees w w.heap.size A (strip wcells l)) (hn : l.length ≤ 4194304) :
    Calls Try.prog 20 #[.slice A l.length c, .int .i64 m] w fun e w' => e = .returned (.int .i64 (countS l m)) ∧ Below w.heap.size w w' := by
  have HN := hid hn; clear hn
  rcases hv : wishB l with _ | _
  · have E := hid (count_no (l := l) (m := m) (by rw [serveB_in, hv]; rfl))
    have HV := hid hv
    clear hv
    go_enter Try.func20, Try.ntmps20
    go_wp2_with fail
    refine (svalidWishes_any A c l _ h HN.out).mono ?_
    rintro e w1 ⟨he, hb1⟩
    rw [HV.out] at he
    subst he
    go_wp2
    go_ret
    exact ⟨ret_int E.out.symm, hb1⟩
  · rcases hm : inB m 1 6 with _ | _
    · have E := hid (count_no (l := l) (m := m) (by rw [serveB_in, hv, hm]; rfl))
      have HV := hid hv
      have HM := hid hm
      clear hv hm
      go_enter Try.func20, Try.ntmps20
      go_wp2_with fail
      refine (svalidWishes_any A c l _ h HN.out).mono ?_
      rintro e w1 ⟨he, hb1⟩
      rw [HV.out] at he
      subst he
      go_wp2_with fail
      refine (inRange_any _ _ _ _).mono ?_
      rintro e w2 ⟨he, rfl⟩
      rw [HM.out] at he
      subst he
      go_wp2
      go_ret
      exact ⟨ret_int E.out.symm, hb1⟩
    · have hsv : serveB l m = true := by rw [serveB_in, hv, hm]; rfl
      have E := hid (count_yes hsv)
      have HS := hid (serve_yes hsv)
      have HSV := hid hsv
      have HV := hid hv
      have HM := hid hm
      have hm' := inB_iff.1 hm
      obtain ⟨n, rfl⟩ : ∃ n : Nat, m = n := ⟨m.toNat, by omega⟩
      have hn0 : 0 < n := by omega
      have hn6 : n ≤ 6 := by omega
      have HS2 : Hid (run (zeros n) l = serveL l n) := hid (by rw [HS.out]; rfl)
      clear hv hm hm' hsv
      go_enter Try.func20, Try.ntmps20
      go_wp2_with fail
      refine (svalidWishes_any A c l _ h HN.out).mono ?_
      rintro e w1 ⟨he, hb1⟩
      rw [HV.out] at he
      subst he
      go_wp2_with fail
      refine (inRange_any _ _ _ _).mono ?_
      rintro e w2 ⟨he, rfl⟩
      rw [HM.out] at he
      subst he
      go_wp2_with fail
      refine (sserve_any A c l n _ ((h.below hb1).more hb1.size) HN.out HV.out hn0 hn6).mono ?_
      rintro e w2 ⟨v2, rfl, ho2, hb2⟩
      rw [HS2.out] at ho2
      obtain ⟨As, cs, rfl, hs2⟩ := ho2.form
      have hb3 := hb1.trans (hb2.mono hb1.size)
      clear ho2 hb1 hb2
      have hlen := serve_le HSV.out
      have hbd := fun k => served_bd (serveL l n) k hlen
      have HSU := hid (fun k (hk : k < (serveL l n).length) => served_succ (a := serveL l n) hk)
      have HEA := hid (fun k (hk : k < (serveL l n).length) => (serve_each HSV.out hk).1)
      obtain ⟨T, hT⟩ : ∃ T, T = serveL l n := ⟨_, rfl⟩
      rw [← hT] at hs2 E hlen hbd HSU HEA ⊢
      have HBD := hid hbd
      clear hT hbd
      go_wp2
      go_loopw [5, 7] (fun s i wr => ∃ k : Nat, k ≤ T.length ∧ i = .int .i64 k ∧ s = .int .i64 (servN (T.take k)) ∧ wr = w2) (fun _ i _ => T.length - (intOf i).toNat)
      case atStart => exact ⟨0, Nat.zero_le _, rfl, by simp [servN], rfl⟩
      case round =>
        obtain ⟨k, hk, rfl, rfl, rfl⟩ := hrel
        obtain ⟨d1, d2⟩ := HBD.out k
        by_cases hlt : k < T.length
        · have hi : (k : Int) < (T.length : Int) := by omega
          obtain ⟨b, o, rfl, _, e0⟩ := hs2.int hlt
          have HX := hid (HSU.out k hlt)
          obtain ⟨t1, t2⟩ := HEA.out k hlt
          obtain ⟨t, ht⟩ : ∃ t, t = T[k] := ⟨_, rfl⟩
          rw [← ht] at e0 HX t1 t2
          obtain ⟨s, hs⟩ : ∃ s, s = servN (T.take k) := ⟨_, rfl⟩
          rw [← hs] at d1 d2 HX ⊢
          clear ht hs
          have hw1 : IntKind.i64.wrap (s + 1) = s + 1 := by rw [IntKind.wrap_i64]; omega
          have hw0 : IntKind.i64.wrap (s + 0) = s := by rw [IntKind.wrap_i64]; omega
          have hw00 : IntKind.i64.wrap s = s := by rw [IntKind.wrap_i64]; omega
          by_cases hx : t ≥ 0
          · have HY := hid (HX.out.trans (by rw [if_neg (by omega)] : _ = s + 1))
            have hdx : decide (t ≥ 0) = true := decide_eq_true hx
            go_wp2_with (go_at_call 36; (with_reducible refine (wtoInt_any _ _).mono ?_); rintro e w' ⟨rfl, rfl⟩)
            go_roundw
            case rel => exact ⟨k + 1, by omega, by go_num, by rw [HY.out], by trivial⟩
            case measure => simp [intOf]; omega
          · have HY := hid (HX.out.trans (by rw [if_pos (by omega)]; omega : _ = s))
            have hdx : decide (t ≥ 0) = false := decide_eq_false hx
            go_wp2_with (go_at_call 36; (with_reducible refine (wtoInt_any _ _).mono ?_); rintro e w' ⟨rfl, rfl⟩)
            go_roundw
            case rel => exact ⟨k + 1, by omega, by go_num, by rw [HY.out], by trivial⟩
            case measure => simp [intOf]; omega
        · have hi : ¬ (k : Int) < (T.length : Int) := by omega
          rw [take_whole hlt]
          go_wp2
          go_ret
          exact ⟨ret_int E.out.symm, hb3⟩

end Go.Proofs.Ytolcnokmdohbaaa

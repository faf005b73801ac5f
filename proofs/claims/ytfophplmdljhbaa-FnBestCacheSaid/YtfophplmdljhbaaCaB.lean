/-
  What ValidCache answers, the program's and the model's. Condition: the list lies in memory.
-/
import Derived.Test.YtfophplmdljhbaaCaA
import Derived.Test.YtfophplmdljhbaaDiffer
namespace Go.Proofs.Ytfophplmdljhbaa
open Go.RowKit Cac

theorem nodup_dec {l : List Int} : decide l.Nodup = true ↔ l.Nodup := by simp
set_option maxHeartbeats 2000000 in
theorem iValidCache_any (s : Cch) (A1 : Option Addr) (c1 : Nat) (w : World) (h : SeesN w w.heap.size A1 s) (hc : s.n.length ≤ c1) (h1 : s.n.length ≤ 4194304) :
    Calls Try.prog 34 #[.agg #[.int .i64 s.r, .slice A1 s.n.length c1]] w fun e w' => e = .returned (.bool (cacheB s)) ∧ Below w.heap.size w w' := by
  have H1 := hid h1
  have HC := hid hc
  have px0 := At.new w 37 #[.int .i64 s.r, .slice A1 s.n.length c1]
  have hB0 := (Below.refl w.heap.size w).alloc (Nat.le_refl _) (.cells #[.int .i64 s.r, .slice A1 s.n.length c1] 37)
  have hs0 := h.on hB0
  obtain ⟨p0, p1, pl, pf⟩ := px0.two
  clear h1 hc
  by_cases x1 : s.r < 0
  · have E := hid (cache_no (c := s) (fun h => by have := h.1.1; omega))
    go_enter Try.func34, Try.ntmps34
    go_wp2
    go_ret
    exact ⟨ret_bool E.out.symm, hB0⟩
  by_cases x2 : s.r > 6
  · have E := hid (cache_no (c := s) (fun h => by have := h.1.2; omega))
    go_enter Try.func34, Try.ntmps34
    go_wp2
    go_ret
    exact ⟨ret_bool E.out.symm, hB0⟩
  by_cases x3 : (s.n.length : Int) > s.r
  · have E := hid (cache_no (c := s) (fun h => by have := h.2.1; omega))
    go_enter Try.func34, Try.ntmps34
    go_wp2
    go_ret
    exact ⟨ret_bool E.out.symm, hB0⟩
  rcases hw : allB s.n 0 9 with _ | _
  · have E := hid (cache_no (c := s) (fun h => inN_no.1 hw h.2.2.1))
    have HW := hid hw
    clear hw
    go_enter Try.func34, Try.ntmps34
    go_wp2_with fail
    with_reducible refine (allWithin_any A1 c1 s.n 0 9 _ hs0.names H1.out).mono ?_
    rintro e w' ⟨he, rfl⟩
    rw [HW.out] at he
    subst he
    go_wp2
    go_ret
    exact ⟨ret_bool E.out.symm, hB0⟩
  have E : Hid (decide s.n.Nodup = cacheB s) := hid (by
    rw [Bool.eq_iff_iff, cacheB_iff, decide_eq_true_eq]
    exact ⟨fun h => ⟨by omega, by omega, inN_allB.1 hw, h⟩, fun h => h.2.2.2⟩)
  have HW := hid hw
  clear hw
  go_enter Try.func34, Try.ntmps34
  go_wp2_with fail
  with_reducible refine (allWithin_any A1 c1 s.n 0 9 _ hs0.names H1.out).mono ?_
  rintro e w' ⟨he, rfl⟩
  rw [HW.out] at he
  subst he
  go_wp2_with fail
  with_reducible refine (allDifferent_any A1 c1 s.n _ hs0.names HC.out H1.out).mono ?_
  rintro e w' ⟨he, rfl⟩
  rw [E.out] at he
  subst he
  go_wp2
  go_ret
  exact ⟨rfl, hB0⟩

set_option maxHeartbeats 4000000 in
theorem svalidCache_any (s : Cch) (A1 : Option Addr) (c1 : Nat) (w : World) (h : SeesN w w.heap.size A1 s) (h1 : s.n.length ≤ 4194304) :
    Calls Try.prog 18 #[.agg #[.int .i64 s.r, .slice A1 s.n.length c1]] w fun e w' => e = .returned (.bool (cacheB s)) ∧ Below w.heap.size w w' := by
  have H1 := hid h1
  have px0 := At.new w 37 #[.int .i64 s.r, .slice A1 s.n.length c1]
  have hB0 := (Below.refl w.heap.size w).alloc (Nat.le_refl _) (.cells #[.int .i64 s.r, .slice A1 s.n.length c1] 37)
  have hs0 := h.on hB0
  clear h1
  go_enter Try.func18, Try.ntmps18
  go_wp2
  go_loopw [3] (fun i wr => ∃ k : Nat, k ≤ s.n.length ∧ i = .int .i64 k ∧ Hid ((s.n.take k).Nodup) ∧ At wr w.heap.size 37 #[.int .i64 s.r, .slice A1 s.n.length c1] ∧ Sees wr wr.heap.size A1 (ints s.n) ∧ Below w.heap.size w wr) (fun i _ => s.n.length - (intOf i).toNat)
  case atStart => exact ⟨0, Nat.zero_le _, rfl, hid (by simp), px0, hs0, hB0⟩
  case round =>
    clear px0 hs0 hB0
    obtain ⟨k, hk, rfl, HA, px, hs, hb⟩ := hrel
    have hn := H1.out
    obtain ⟨p0, p1, pl, pf⟩ := px.two
    by_cases hlt : k < s.n.length
    · have hi : (k : Int) < (s.n.length : Int) := by omega
      have hk0 : (0 : Int) ≤ (k : Int) := by omega
      have HSS := hid (fun (hh : s.n[k] ∉ s.n.take k) => nodup_step hlt HA.out hh)
      have HM := hid (fun (hh : s.n[k] ∈ s.n.take k) => (show cacheB s = false from cache_no fun h => by have := nodup_not hlt hh; simp [h.2.2.2] at this))
      have HK := hid (fun (j : Nat) (hj : j < k) => (show s.n[j]'(by omega) ∈ s.n.take k from List.mem_take_iff_getElem.2 ⟨j, by omega, rfl⟩))
      have HT := hid (fun (j : Nat) (hj : j < k) (h : s.n[k] ∉ s.n.take j) (hx : s.n[j]'(by omega) ≠ s.n[k]) => not_take_succ (l := s.n) (k := j) (by omega) h hx)
      have HX0 := hid hs
      obtain ⟨x, hx⟩ : ∃ x, x = s.n[k] := ⟨_, rfl⟩
      rw [← hx] at HSS HM HT
      have HX := hid hx
      clear hx
      obtain ⟨wo, hwo⟩ : ∃ wo, wo = wr := ⟨_, rfl⟩
      subst hwo
      go_wp2
      go_loopw [4] (fun i wr => ∃ j : Nat, j ≤ k ∧ i = .int .i64 j ∧ Hid (x ∉ s.n.take j) ∧ At wr w.heap.size 37 #[.int .i64 s.r, .slice A1 s.n.length c1] ∧ Sees wr wr.heap.size A1 (ints s.n) ∧ Below w.heap.size w wr) (fun i _ => k - (intOf i).toNat)
      case atStart => exact ⟨0, Nat.zero_le _, rfl, hid (by simp), px, hs, hb⟩
      case round =>
        clear px hs hb p0 p1 pl pf
        obtain ⟨j, hj, rfl, HB, px, hs, hb⟩ := hrel
        obtain ⟨p0, p1, pl, pf⟩ := px.two
        by_cases hjk : j < k
        · have hji : (j : Int) < (k : Int) := by omega
          have hj0 : (0 : Int) ≤ (j : Int) := by omega
          have hjl : j < s.n.length := by omega
          have hjli : (j : Int) < (s.n.length : Int) := by omega
          obtain ⟨b, o, rfl, hbl, e0⟩ := hs.int hlt
          obtain ⟨b', o', e', _, e1⟩ := hs.int hjl
          injection e' with e'
          injection e' with e2 e3
          subst e2 e3
          rw [← HX.out] at e0
          have HJ := hid (HK.out j hjk)
          have HTJ := hid (HT.out j hjk HB.out)
          obtain ⟨y, hy⟩ : ∃ y, y = s.n[j] := ⟨_, rfl⟩
          rw [← hy] at e1 HJ HTJ
          clear hy
          rcases hxy : (y == x) with _ | _
          · have HY := hid (HTJ.out (by simpa using hxy))
            go_wp2
            go_quiet (fail)
            go_wp2
            go_roundw
            case rel => exact ⟨j + 1, by omega, by go_num, HY, px.drewN _, hs.drewN _, below_drewN hb _⟩
            case measure => simp [intOf]; omega
          · have hyx : y = x := by simpa using hxy
            have HY := hid (HM.out (hyx ▸ HJ.out))
            clear hyx
            go_wp2
            go_quiet (fail)
            go_wp2
            go_ret
            exact ⟨ret_bool HY.out.symm, below_drewN hb _⟩
        · have hji : ¬ (j : Int) < (k : Int) := by omega
          have e : j = k := by omega
          subst e
          have HY := hid (HSS.out HB.out)
          go_wp2
          go_roundw
          case rel => exact ⟨j + 1, by omega, by go_num, HY, px, hs, hb⟩
          case measure => simp [intOf]; omega
    · have hi : ¬ (k : Int) < (s.n.length : Int) := by omega
      have hd := HA.out
      rw [take_whole hlt] at hd
      rcases hr : inB s.r 0 6 with _ | _
      · have E := hid (cache_no (c := s) (fun h => by rw [inB_iff.2 h.1] at hr; cases hr))
        have HR := hid hr
        clear hr hd
        go_wp2_with fail
        with_reducible refine (inRange_any _ _ _ _).mono ?_
        rintro e w' ⟨he, rfl⟩
        rw [HR.out] at he
        subst he
        go_wp2
        go_ret
        exact ⟨ret_bool E.out.symm, hb⟩
      · by_cases x3 : (s.n.length : Int) ≤ s.r
        · have E : Hid (allB s.n 0 9 = cacheB s) := hid (by
            rw [Bool.eq_iff_iff, cacheB_iff, inN_allB]
            exact ⟨fun h => ⟨inB_iff.1 hr, x3, h, hd⟩, fun h => h.2.2.1⟩)
          have HR := hid hr
          clear hr hd
          go_wp2_with fail
          with_reducible refine (inRange_any _ _ _ _).mono ?_
          rintro e w' ⟨he, rfl⟩
          rw [HR.out] at he
          subst he
          go_wp2_with fail
          with_reducible refine (allIn_any A1 c1 s.n 0 9 _ hs (Nat.le_trans H1.out (by decide))).mono ?_
          rintro e w' ⟨he, rfl⟩
          rw [E.out] at he
          subst he
          go_wp2
          go_ret
          exact ⟨rfl, hb⟩
        · have E := hid (cache_no (c := s) (fun h => x3 h.2.1))
          have HR := hid hr
          clear hr hd
          go_wp2_with fail
          with_reducible refine (inRange_any _ _ _ _).mono ?_
          rintro e w' ⟨he, rfl⟩
          rw [HR.out] at he
          subst he
          go_wp2
          go_ret
          exact ⟨ret_bool E.out.symm, hb⟩

end Go.Proofs.Ytfophplmdljhbaa

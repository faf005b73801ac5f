/-
  What the program's ValidLeases answers. Condition: the list lies in memory, and its length is at most its capacity.
-/
import Derived.Test.YtmaocmgnkdieeaaLsB
import Derived.Deep.RegionHeld3
namespace Go.Proofs.Ytmaocmgnkdieeaa
open Go.RowKit Lse

/-- A block that holds one lease. -/
theorem At.lease {w : World} {g : Nat} {x : L} (h : At w g 30 #[.int .i64 x.c, .int .i64 x.o, .int .i64 x.f, .int .i64 x.u]) :
    w.cell? ⟨g, 0, none⟩ = some (.int .i64 x.c) ∧ w.cell? ⟨g, 1, none⟩ = some (.int .i64 x.o) ∧ w.cell? ⟨g, 2, none⟩ = some (.int .i64 x.f) ∧ w.cell? ⟨g, 3, none⟩ = some (.int .i64 x.u) ∧ g < w.heap.size :=
  ⟨h.cell 0, h.cell 1, h.cell 2, h.cell 3, h.lt⟩

set_option maxHeartbeats 1000000 in
theorem iValidLeases_any (A : Option Addr) (c : Nat) (l : List L) (w : World) (h : Sees w w.heap.size A (lvals l)) (hc : l.length ≤ c) (hn : l.length ≤ 4194304) :
    Calls Try.prog 11 #[.slice A l.length c] w fun e w' => e = .returned (.bool (validB l)) ∧ Below w.heap.size w w' := by
  by_cases hlen : 12 < l.length
  · have hv : validB l = false := by
      rcases hh : validB l with _ | _
      · rfl
      · have := (validB_iff.1 hh).1; omega
    rw [hv]
    go_enter Try.func11, Try.ntmps11
    go_wp2
    go_ret
    exact ⟨rfl, Below.refl _ _⟩
  · have HV : Hid (validB l = decide (Fine l)) := hid (by unfold validB; rw [Bool.eq_iff_iff]; simp; omega)
    go_enter Try.func11, Try.ntmps11
    go_wp2
    go_loopw [10] (fun i wr => ∃ k : Nat, k ≤ l.length ∧ i = .int .i64 k ∧ Hid (Fine (l.take k)) ∧ Below w.heap.size w wr) (fun i _ => l.length - (intOf i).toNat)
    case atStart => exact ⟨0, Nat.zero_le _, rfl, hid Fine.nil, Below.refl _ _⟩
    case round =>
      obtain ⟨k, hk, rfl, HF, hb⟩ := hrel
      by_cases hlt : k < l.length
      · have hi : (k : Int) < (l.length : Int) := by omega
        have hs : Sees wr w.heap.size A (lvals l) := h.below hb
        obtain ⟨b, o, rfl, hbl, e0, e1, e2, e3⟩ := hs.lease hlt
        have hz := hb.size
        have hkc : (k : Int) ≤ (c : Int) := by omega
        have hk0 : (0 : Int) ≤ (k : Int) := by omega
        obtain ⟨x, hx⟩ : ∃ x, x = l[k] := ⟨_, rfl⟩
        rw [← hx] at e0 e1 e2 e3
        have HS : Hid (Fine (l.take (k + 1)) ↔ Fine (l.take k) ∧ x.ok = true ∧ freeB (l.take k) x.c x.f x.u = true) := hid (by rw [hx]; exact fine_take_succ hlt)
        have HM : Hid (Fine l → Fine (l.take (k + 1))) := hid fun hf => hf.take _
        clear hx
        have ht := hs.leases_take k
        have hkl : (l.take k).length = k := by rw [List.length_take]; omega
        have HKL := hid hkl
        clear hkl
        have a0 := At.new wr 30 #[.int .i64 x.c, .int .i64 x.o, .int .i64 x.f, .int .i64 x.u]
        obtain ⟨y0, y1, y2, y3, yl⟩ := a0.lease
        have ad := a0.drew
        have hbd : Below w.heap.size w (wr.alloc (.cells #[.int .i64 x.c, .int .i64 x.o, .int .i64 x.f, .int .i64 x.u] 30)).drew := (hb.alloc hz _).drew
        have hzd := hbd.size
        rcases hok : x.ok with _ | _
        · have hno : validB l = false := by
            rw [HV.out, decide_eq_false_iff_not]
            intro hf
            have := (HS.out.1 (HM.out hf)).2.1
            rw [hok] at this; cases this
          have HNO := hid hno
          clear hno
          go_wp2_with fail
          refine wp_region_held_drew (S := fun w' => w'.cell? ⟨wr.heap.size, 0, none⟩ = some (.int .i64 x.c) ∧ w'.cell? ⟨wr.heap.size, 1, none⟩ = some (.int .i64 x.o) ∧ w'.cell? ⟨wr.heap.size, 2, none⟩ = some (.int .i64 x.f) ∧ w'.cell? ⟨wr.heap.size, 3, none⟩ = some (.int .i64 x.u)) (by kernel_rfl) ⟨y0, y1, y2, y3⟩ (fun hHeld => ?_)
          refine wpAnyH_take (i := 0) (v := .agg #[.int .i64 x.c, .int .i64 x.o, .int .i64 x.f, .int .i64 x.u]) rfl (by kernel_rfl) (by kernel_rfl) (by kernel_rfl) (fun _ _ _ h => h) (Or.inl ⟨by rfl, fun w hS => by obtain ⟨s0, s1, s2, s3⟩ := hS; go_simp⟩) hHeld ?_
          try simp only [Act.put, List.getElem_toArray, List.getElem_cons_zero, List.setIfInBounds_toArray, List.set_cons_zero, List.set_cons_succ]
          refine wpAnyH_ready (rs := [1]) (by kernel_rfl) (by simp) ?_
          refine AllReadyH.cons rfl (fun K hK => ?_) AllReadyH.nil
          go_simp
          go_at_call 22
          refine (ivalidLease_any x _).mono ?_
          rintro e w1 ⟨he, hb1⟩
          rw [hok] at he
          subst he
          have a1 := ad.below hb1 ad.lt
          obtain ⟨p0, p1, p2, p3, pl⟩ := a1.lease
          have hbw := hbd.trans (hb1.mono hzd)
          refine hK.out _ _ ⟨p0, p1, p2, p3⟩ (fun hHeld => ?_)
          try simp only [Act.put, List.getElem_toArray, List.getElem_cons_succ, List.getElem_cons_zero, List.setIfInBounds_toArray, List.set_cons_zero, List.set_cons_succ]
          refine wpAnyH_take (i := 2) (v := .bool true) rfl (by kernel_rfl) (by kernel_rfl) (by kernel_rfl) (fun _ _ _ h => h) (Or.inl ⟨by rfl, fun w hS => by go_simp⟩) hHeld ?_
          try simp only [Act.put, List.getElem_toArray, List.getElem_cons_succ, List.getElem_cons_zero, List.setIfInBounds_toArray, List.set_cons_zero, List.set_cons_succ]
          refine wpAnyH_take (i := 3) (v := .bool true) rfl (by kernel_rfl) (by kernel_rfl) (by kernel_rfl) (fun _ _ _ h => h) (Or.inl ⟨by rfl, fun w hS => by go_simp⟩) hHeld ?_
          try simp only [Act.put, List.getElem_toArray, List.getElem_cons_succ, List.getElem_cons_zero, List.setIfInBounds_toArray, List.set_cons_zero, List.set_cons_succ]
          refine wpAnyH_take (i := 4) (v := undef) rfl (by kernel_rfl) (by kernel_rfl) (by kernel_rfl) (fun _ _ _ h => h) (Or.inr ⟨by rfl, rfl⟩) hHeld ?_
          try simp only [Act.put, List.getElem_toArray, List.getElem_cons_succ, List.getElem_cons_zero, List.setIfInBounds_toArray, List.set_cons_zero, List.set_cons_succ]
          refine wpAnyH_take (i := 5) (v := undef) rfl (by kernel_rfl) (by kernel_rfl) (by kernel_rfl) (fun _ _ _ h => h) (Or.inr ⟨by rfl, rfl⟩) hHeld ?_
          try simp only [Act.put, List.getElem_toArray, List.getElem_cons_succ, List.getElem_cons_zero, List.setIfInBounds_toArray, List.set_cons_zero, List.set_cons_succ]
          refine wpAnyH_take (i := 6) (v := undef) rfl (by kernel_rfl) (by kernel_rfl) (by kernel_rfl) (fun _ _ _ h => h) (Or.inr ⟨by rfl, rfl⟩) hHeld ?_
          try simp only [Act.put, List.getElem_toArray, List.getElem_cons_succ, List.getElem_cons_zero, List.setIfInBounds_toArray, List.set_cons_zero, List.set_cons_succ]
          refine wpAnyH_take (i := 7) (v := undef) rfl (by kernel_rfl) (by kernel_rfl) (by kernel_rfl) (fun _ _ _ h => h) (Or.inr ⟨by rfl, rfl⟩) hHeld ?_
          try simp only [Act.put, List.getElem_toArray, List.getElem_cons_succ, List.getElem_cons_zero, List.setIfInBounds_toArray, List.set_cons_zero, List.set_cons_succ]
          refine wpAnyH_take (i := 8) (v := undef) rfl (by kernel_rfl) (by kernel_rfl) (by kernel_rfl) (fun _ _ _ h => h) (Or.inr ⟨by rfl, rfl⟩) hHeld ?_
          try simp only [Act.put, List.getElem_toArray, List.getElem_cons_succ, List.getElem_cons_zero, List.setIfInBounds_toArray, List.set_cons_zero, List.set_cons_succ]
          refine wpAnyH_take (i := 9) (v := undef) rfl (by kernel_rfl) (by kernel_rfl) (by kernel_rfl) (fun _ _ _ h => h) (Or.inr ⟨by rfl, rfl⟩) hHeld ?_
          try simp only [Act.put, List.getElem_toArray, List.getElem_cons_succ, List.getElem_cons_zero, List.setIfInBounds_toArray, List.set_cons_zero, List.set_cons_succ]
          refine wpAnyH_take (i := 10) (v := undef) rfl (by kernel_rfl) (by kernel_rfl) (by kernel_rfl) (fun _ _ _ h => h) (Or.inr ⟨by rfl, rfl⟩) hHeld ?_
          try simp only [Act.put, List.getElem_toArray, List.getElem_cons_succ, List.getElem_cons_zero, List.setIfInBounds_toArray, List.set_cons_zero, List.set_cons_succ]
          refine wpAnyH_take (i := 11) (v := undef) rfl (by kernel_rfl) (by kernel_rfl) (by kernel_rfl) (fun _ _ _ h => h) (Or.inr ⟨by rfl, rfl⟩) hHeld ?_
          try simp only [Act.put, List.getElem_toArray, List.getElem_cons_succ, List.getElem_cons_zero, List.setIfInBounds_toArray, List.set_cons_zero, List.set_cons_succ]
          refine wpAnyH_take (i := 12) (v := undef) rfl (by kernel_rfl) (by kernel_rfl) (by kernel_rfl) (fun _ _ _ h => h) (Or.inr ⟨by rfl, rfl⟩) hHeld ?_
          try simp only [Act.put, List.getElem_toArray, List.getElem_cons_succ, List.getElem_cons_zero, List.setIfInBounds_toArray, List.set_cons_zero, List.set_cons_succ]
          refine wpAnyH_take (i := 13) (v := undef) rfl (by kernel_rfl) (by kernel_rfl) (by kernel_rfl) (fun _ _ _ h => h) (Or.inr ⟨by rfl, rfl⟩) hHeld ?_
          try simp only [Act.put, List.getElem_toArray, List.getElem_cons_succ, List.getElem_cons_zero, List.setIfInBounds_toArray, List.set_cons_zero, List.set_cons_succ]
          refine wpAnyH_take (i := 14) (v := undef) rfl (by kernel_rfl) (by kernel_rfl) (by kernel_rfl) (fun _ _ _ h => h) (Or.inr ⟨by rfl, rfl⟩) hHeld ?_
          try simp only [Act.put, List.getElem_toArray, List.getElem_cons_succ, List.getElem_cons_zero, List.setIfInBounds_toArray, List.set_cons_zero, List.set_cons_succ]
          refine wpAnyH_take (i := 15) (v := .bool true) rfl (by kernel_rfl) (by kernel_rfl) (by kernel_rfl) (fun _ _ _ h => h) (Or.inl ⟨by rfl, fun w hS => by go_simp⟩) hHeld ?_
          try simp only [Act.put, List.getElem_toArray, List.getElem_cons_succ, List.getElem_cons_zero, List.setIfInBounds_toArray, List.set_cons_zero, List.set_cons_succ]
          refine wpAnyH_done (by kernel_rfl) ?_ _
          go_wp2
          go_ret
          exact ⟨by simp [HNO.out], hbw⟩
        · rcases hfr : freeB (l.take k) x.c x.f x.u with _ | _
          · have hno : validB l = false := by
              rw [HV.out, decide_eq_false_iff_not]
              intro hf
              have := (HS.out.1 (HM.out hf)).2.2
              rw [hfr] at this; cases this
            have HNO := hid hno
            have HFR := hid hfr
            clear hno hfr
            go_wp2_with fail
            go_region_held3 (fun w' => w'.cell? ⟨wr.heap.size, 0, none⟩ = some (.int .i64 x.c) ∧ w'.cell? ⟨wr.heap.size, 1, none⟩ = some (.int .i64 x.o) ∧ w'.cell? ⟨wr.heap.size, 2, none⟩ = some (.int .i64 x.f) ∧ w'.cell? ⟨wr.heap.size, 3, none⟩ = some (.int .i64 x.u))
              (first | with_reducible exact ⟨y0, y1, y2, y3⟩ | with_reducible exact ⟨p0, p1, p2, p3⟩ | with_reducible exact ⟨q0, q1, q2, q3⟩ | go_keep)
              (first
                | (go_at_call 22; (with_reducible refine (ivalidLease_any x _).mono ?_); rintro e w1 ⟨he, hb1⟩; rw [hok] at he; subst he; have a1 := ad.below hb1 ad.lt; obtain ⟨p0, p1, p2, p3, pl⟩ := a1.lease; have hbw := hbd.trans (hb1.mono hzd); have hs1 := ((h.below hbw).leases_take k).more hbw.size)
                | (go_at_call 23; (with_reducible refine (isFree_any (some ⟨b, o, none⟩) k c (l.take k) x.c x.f x.u _ hs1 (Nat.le_refl _) HKL.out (by omega)).mono ?_); rintro e w2 ⟨he, hb2⟩; rw [HFR.out] at he; subst he; have a2 := a1.below hb2 a1.lt; obtain ⟨q0, q1, q2, q3, ql⟩ := a2.lease; have hbw2 := hbw.trans (hb2.mono hbw.size)))
            all_goals
              go_wp2
              go_ret
              exact ⟨by simp [HNO.out], hbw2⟩
          · have HFR := hid hfr
            have HOK2 := hid (show Fine (l.take (k + 1)) from HS.out.2 ⟨HF.out, hok, hfr⟩)
            clear hfr
            go_wp2_with fail
            go_region_held3 (fun w' => w'.cell? ⟨wr.heap.size, 0, none⟩ = some (.int .i64 x.c) ∧ w'.cell? ⟨wr.heap.size, 1, none⟩ = some (.int .i64 x.o) ∧ w'.cell? ⟨wr.heap.size, 2, none⟩ = some (.int .i64 x.f) ∧ w'.cell? ⟨wr.heap.size, 3, none⟩ = some (.int .i64 x.u))
              (first | with_reducible exact ⟨y0, y1, y2, y3⟩ | with_reducible exact ⟨p0, p1, p2, p3⟩ | with_reducible exact ⟨q0, q1, q2, q3⟩ | go_keep)
              (first
                | (go_at_call 22; (with_reducible refine (ivalidLease_any x _).mono ?_); rintro e w1 ⟨he, hb1⟩; rw [hok] at he; subst he; have a1 := ad.below hb1 ad.lt; obtain ⟨p0, p1, p2, p3, pl⟩ := a1.lease; have hbw := hbd.trans (hb1.mono hzd); have hs1 := ((h.below hbw).leases_take k).more hbw.size)
                | (go_at_call 23; (with_reducible refine (isFree_any (some ⟨b, o, none⟩) k c (l.take k) x.c x.f x.u _ hs1 (Nat.le_refl _) HKL.out (by omega)).mono ?_); rintro e w2 ⟨he, hb2⟩; rw [HFR.out] at he; subst he; have a2 := a1.below hb2 a1.lt; obtain ⟨q0, q1, q2, q3, ql⟩ := a2.lease; have hbw2 := hbw.trans (hb2.mono hbw.size)))
            all_goals
              go_wp2
              go_roundw
              case rel => exact ⟨k + 1, by omega, by go_num, HOK2, hbw2⟩
              case measure => simp [intOf]; omega
      · have hi : ¬ (k : Int) < (l.length : Int) := by omega
        have hyes : validB l = true := by
          have := HF.out
          rw [take_whole hlt] at this
          rw [HV.out]; exact decide_eq_true this
        go_wp2
        go_ret
        exact ⟨by first | rfl | rw [hyes], hb⟩

end Go.Proofs.Ytmaocmgnkdieeaa

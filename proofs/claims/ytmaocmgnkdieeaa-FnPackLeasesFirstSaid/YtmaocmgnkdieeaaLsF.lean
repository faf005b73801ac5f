/-
  What FreeFor and LeasedTime answer, the program's and the model's. Condition: the list lies in memory.
-/
import Derived.Test.YtmaocmgnkdieeaaLsC
import Derived.Test.YtmaocmgnkdieeaaLsD
namespace Go.Proofs.Ytmaocmgnkdieeaa
open Go.RowKit Lse

/-- The least connection below m that is free, -1 if there is none. -/
def leastFree (l : List L) (f u : Int) (m : Nat) : Int := match (List.range m).find? (fun (c : Nat) => freeB l (c : Int) f u) with | some c => c | none => -1
theorem least_at {l : List L} {f u : Int} {m k : Nat} (hk : k < m) (h : ∀ j : Nat, j < k → freeB l (j : Int) f u = false) (hx : freeB l (k : Int) f u = true) : leastFree l f u m = k := by
  unfold leastFree
  have : (List.range m).find? (fun (c : Nat) => freeB l (c : Int) f u) = some k := by
    rw [List.find?_range_eq_some]
    exact ⟨hx, by simpa using hk, fun j hj => by simp [h j hj]⟩
  rw [this]
theorem least_no {l : List L} {f u : Int} {m : Nat} (h : ∀ j : Nat, j < m → freeB l (j : Int) f u = false) : leastFree l f u m = -1 := by
  unfold leastFree
  have : (List.range m).find? (fun (c : Nat) => freeB l (c : Int) f u) = none := by
    rw [List.find?_eq_none]
    intro j hj
    simp [h j (by simpa using hj)]
  rw [this]
def freeFor (l : List L) (m f u : Int) : Int := if (validB l && (inB m 1 6 && timesB f u)) = true then leastFree l f u m.toNat else -1
def leased (l : List L) (o : Int) : Int := if validB l = true then time l o else -1
theorem times_inB (f u : Int) : timesB f u = (inB f 0 999 && inB u (f + 1) 1000) := by
  unfold timesB inB
  rw [Bool.eq_iff_iff]
  simp only [Bool.and_eq_true, decide_eq_true_eq]
  omega
theorem ff_no {l : List L} {m f u : Int} (h : (validB l && (inB m 1 6 && timesB f u)) = false) : freeFor l m f u = -1 := by unfold freeFor; rw [h]; rfl
theorem ff_yes {l : List L} {m f u : Int} (h1 : validB l = true) (h2 : inB m 1 6 = true) (h3 : timesB f u = true) : freeFor l m f u = leastFree l f u m.toNat := by unfold freeFor; rw [h1, h2, h3]; rfl
theorem below_step {l : List L} {f u : Int} {k : Nat} (h : ∀ j : Nat, j < k → freeB l (j : Int) f u = false) (hx : freeB l (k : Int) f u = false) : ∀ j : Nat, j < k + 1 → freeB l (j : Int) f u = false := fun j hj => by
  rcases Nat.lt_or_ge j k with e | e
  · exact h j e
  · have : j = k := by omega
    subst this; exact hx
theorem time_take {l : List L} {k : Nat} (hk : k < l.length) (o : Int) : time (l.take (k + 1)) o = time (l.take k) o + if l[k].o = o then l[k].u - l[k].f else 0 := by
  rw [List.take_succ_eq_append_getElem hk, time_snoc]
theorem time_take_bd {l : List L} (hv : validB l = true) (k : Nat) (o : Int) : 0 ≤ time (l.take k) o ∧ time (l.take k) o ≤ 12000 := by
  obtain ⟨h1, h2, _⟩ := validB_iff.1 hv
  have := time_bounds (l := l.take k) (fun x hx => h2 x (List.mem_of_mem_take hx)) o
  have h3 : (l.take k).length ≤ 12 := by rw [List.length_take]; omega
  omega

theorem hits_zero {x : L} {q f u : Int} (d : x.c = q) : hits x q f u ↔ meetB x ⟨0, 0, f, u⟩ = true := by unfold hits meetB; simp [d]

set_option maxHeartbeats 4000000 in
theorem iFreeFor_any (A : Option Addr) (c : Nat) (l : List L) (m f u : Int) (w : World) (h : Sees w w.heap.size A (lvals l)) (hc : l.length ≤ c) (hn : l.length ≤ 4194304) :
    Calls Try.prog 16 #[.slice A l.length c, .int .i64 m, .int .i64 f, .int .i64 u] w fun e w' => e = .returned (.int .i64 (freeFor l m f u)) ∧ Below w.heap.size w w' := by
  have HN := hid hn
  clear hn
  rcases hv : validB l with _ | _
  · have E : Hid (freeFor l m f u = -1) := hid (ff_no (by rw [hv]; rfl))
    have HV := hid hv
    clear hv
    go_enter Try.func16, Try.ntmps16
    go_wp2_with fail
    refine (iValidLeases_any A c l _ h hc HN.out).mono ?_
    rintro e w1 ⟨he, hb1⟩
    rw [HV.out] at he
    subst he
    go_wp2
    go_ret
    exact ⟨ret_int E.out.symm, hb1⟩
  · have HV := hid hv
    by_cases hm1 : m < 1
    · have E : Hid (freeFor l m f u = -1) := hid (ff_no (by rw [show inB m 1 6 = false by rw [Bool.eq_false_iff, ne_eq, inB_iff]; omega]; simp))
      clear hv
      go_enter Try.func16, Try.ntmps16
      go_wp2_with fail
      refine (iValidLeases_any A c l _ h hc HN.out).mono ?_
      rintro e w1 ⟨he, hb1⟩
      rw [HV.out] at he
      subst he
      go_wp2
      go_ret
      exact ⟨ret_int E.out.symm, hb1⟩
    · by_cases hm2 : 6 < m
      · have E : Hid (freeFor l m f u = -1) := hid (ff_no (by rw [show inB m 1 6 = false by rw [Bool.eq_false_iff, ne_eq, inB_iff]; omega]; simp))
        clear hv
        go_enter Try.func16, Try.ntmps16
        go_wp2_with fail
        refine (iValidLeases_any A c l _ h hc HN.out).mono ?_
        rintro e w1 ⟨he, hb1⟩
        rw [HV.out] at he
        subst he
        go_wp2
        go_ret
        exact ⟨ret_int E.out.symm, hb1⟩
      · rcases ht : timesB f u with _ | _
        · have E : Hid (freeFor l m f u = -1) := hid (ff_no (by rw [ht]; simp))
          have HT := hid ht
          clear hv ht
          go_enter Try.func16, Try.ntmps16
          go_wp2_with fail
          refine (iValidLeases_any A c l _ h hc HN.out).mono ?_
          rintro e w1 ⟨he, hb1⟩
          rw [HV.out] at he
          subst he
          go_wp2_with fail
          refine (validTimes_any f u _).mono ?_
          rintro e w2 ⟨he, rfl⟩
          rw [HT.out] at he
          subst he
          go_wp2
          go_ret
          exact ⟨ret_int E.out.symm, hb1⟩
        · have E : Hid (freeFor l m f u = leastFree l f u m.toNat) := hid (ff_yes hv (inB_iff.2 ⟨by omega, by omega⟩) ht)
          have HT := hid ht
          clear hv ht
          obtain ⟨n, rfl⟩ : ∃ n : Nat, m = n := ⟨m.toNat, by omega⟩
          have HE : Hid (freeFor l n f u = leastFree l f u n) := hid (by have := E.out; simpa using this)
          clear E
          go_enter Try.func16, Try.ntmps16
          go_wp2_with fail
          refine (iValidLeases_any A c l _ h hc HN.out).mono ?_
          rintro e w1 ⟨he, hb1⟩
          rw [HV.out] at he
          subst he
          go_wp2_with fail
          refine (validTimes_any f u _).mono ?_
          rintro e w2 ⟨he, rfl⟩
          rw [HT.out] at he
          subst he
          go_wp2
          go_loopw [9] (fun i wr => ∃ k : Nat, k ≤ n ∧ i = .int .i64 k ∧ Hid (∀ j : Nat, j < k → freeB l (j : Int) f u = false) ∧ Below w.heap.size w wr) (fun i _ => n - (intOf i).toNat)
          case atStart => exact ⟨0, Nat.zero_le _, rfl, hid (fun j hj => absurd hj (Nat.not_lt_zero j)), hb1⟩
          case round =>
            obtain ⟨k, hk, rfl, HF, hb⟩ := hrel
            by_cases hlt : k < n
            · have hi : (k : Int) < (n : Int) := by omega
              rcases hfr : freeB l k f u with _ | _
              · have HR := hid hfr
                clear hfr
                go_wp2_with fail
                refine (isFree_any A l.length c l k f u _ (h.below hb) hb.size rfl HN.out).mono ?_
                rintro e w3 ⟨he, hb3⟩
                rw [HR.out] at he
                subst he
                go_wp2
                go_roundw
                case rel => exact ⟨k + 1, by omega, by go_num, hid (below_step HF.out HR.out), hb.trans hb3⟩
                case measure => simp [intOf]; omega
              · have HR := hid hfr
                clear hfr
                go_wp2_with fail
                refine (isFree_any A l.length c l k f u _ (h.below hb) hb.size rfl HN.out).mono ?_
                rintro e w3 ⟨he, hb3⟩
                rw [HR.out] at he
                subst he
                go_wp2
                go_ret
                exact ⟨ret_int (by rw [HE.out, least_at hlt HF.out HR.out]), hb.trans hb3⟩
            · have hi : ¬ (k : Int) < (n : Int) := by omega
              have HX : Hid (leastFree l f u n = -1) := hid (least_no fun j hj => HF.out j (by omega))
              go_wp2
              go_ret
              exact ⟨ret_int (by rw [HE.out, HX.out]), hb⟩

end Go.Proofs.Ytmaocmgnkdieeaa

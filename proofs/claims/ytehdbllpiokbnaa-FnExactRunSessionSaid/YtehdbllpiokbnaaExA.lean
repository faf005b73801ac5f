/-
  What the helpers of the exact laws answer on lists of numbers: szIntS and toIntS; and a store into a list of the call's own. Condition: the list lies in memory and is at most 2^22 long.
-/
import Derived.Test.YtehdbllpiokbnaaOwnI
import Derived.Test.YtehdbllpiokbnaaOwnB
import Derived.OwnWalk

namespace Go.Proofs.Ytehdbllpiokbnaa
open Go.RowKit

/-- A store into a list of the call's own. -/
theorem Own.put {w : World} {base g c i : Nat} {ys : List Int} (h : Own w base (.slice (some ⟨g, 0, none⟩) ys.length c) ys) (x : Int) :
    Own (w.setCell ⟨g, i, none⟩ (.int .i64 x)) base (.slice (some ⟨g, 0, none⟩) (ys.set i x).length c) (ys.set i x) := by
  obtain ⟨h1, h2⟩ := h
  refine ⟨by simp [ints_len], .inr ?_⟩
  rcases h2 with ⟨e, _⟩ | ⟨g', cap, cur, e, hg, hh, h3, h4, h5, h6⟩
  · cases e
  · injection e with e1 e2 e3
    injection e1 with e1
    injection e1 with e1
    subst e1 e3
    refine ⟨g, c, cur.setIfInBounds i (.int .i64 x), by simp, hg, ?_, by simpa using h3, h4, by simpa using h5, ?_⟩
    · simp [World.setCell, Array.getElem?_modify, hh]
    · simp only [Nat.mul_one, List.length_set, Array.toList_setIfInBounds] at h6 ⊢
      rw [List.take_set, h6]
      simp [ints, List.map_set]
theorem Own.thaw {w : World} {base g c : Nat} {ys : List Int} (h : Own w base (.slice (some ⟨g, 0, none⟩) ys.length c) ys) : ∀ i, w.frozen? ⟨g, i, none⟩ = false := fun i => by
  rcases h.2 with ⟨e, _⟩ | ⟨g', cap, cur, e, hg, hh, _⟩
  · cases e
  · injection e with e1 e2 e3
    injection e1 with e1
    injection e1 with e1
    subst e1
    simp [World.frozen?, hh]
theorem Own.at_ {w : World} {base g c i : Nat} {ys : List Int} (h : Own w base (.slice (some ⟨g, 0, none⟩) ys.length c) ys) (hi : i < ys.length) : w.cell? ⟨g, i, none⟩ = some (.int .i64 ys[i]) := by
  obtain ⟨b, o, e, _, hc⟩ := (Sees.of_own h.out).int hi
  injection e with e
  injection e with e1 e2
  subst e1 e2
  simpa using hc
theorem Own.base_le {w : World} {base g c : Nat} {ys : List Int} (h : Own w base (.slice (some ⟨g, 0, none⟩) ys.length c) ys) : base ≤ g := by
  rcases h.2 with ⟨e, _⟩ | ⟨g', cap, cur, e, hg, _⟩
  · cases e
  · injection e with e1 e2 e3
    injection e1 with e1
    injection e1 with e1
    subst e1
    exact hg

theorem made_ints (n : Nat) : (madeCells #[Value.int .i64 0] n).toList = ints (List.replicate n 0) := by
  simp [madeCells, ints, Nat.mod_one, List.map_const']

set_option maxHeartbeats 400000 in
theorem szIntS_any (A : Option Addr) (n c : Nat) (w : World) (hn : n ≤ maxLen) :
    Calls Try.prog 31 #[.slice A n c, .int .i64 1048576] w fun e w' => e = .returned (.int .i64 (if 1048576 < n then -1 else 1048576 - n)) ∧ w = w' := by
  unfold maxLen at hn
  have hw : IntKind.i64.wrap (1048576 - (n : Int)) = 1048576 - (n : Int) := by rw [IntKind.wrap_i64]; omega
  by_cases h : 1048576 < n
  · have h1 : (1048576 : Int) - (n : Int) < 0 := by omega
    rw [if_pos h]
    go_enter Try.func31, Try.ntmps31
    go_wp2
    go_ret
    exact ⟨rfl, rfl⟩
  · have h1 : ¬ (1048576 : Int) - (n : Int) < 0 := by omega
    rw [if_neg h]
    go_enter Try.func31, Try.ntmps31
    go_wp2
    go_ret
    exact ⟨rfl, rfl⟩

set_option maxHeartbeats 1000000 in
theorem toIntS_any (A : Option Addr) (c : Nat) (xs : List Int) (w : World) (h : Sees w w.heap.size A (ints xs)) (hn : xs.length ≤ 4194304) :
    Calls Try.prog 35 #[.slice A xs.length c] w fun e w' => ∃ v, e = .returned v ∧ Own w' w.heap.size v xs ∧ Below w.heap.size w w' := by
  obtain ⟨i0, hi0, hz0, hz1, hz2⟩ := info_parts intInfo
  have HN := hid hn; clear hn
  go_enter Try.func35, Try.ntmps35
  go_wp2_with (refine wpList_make_full _ rfl _ _ 22 rfl w.heap.size 3 i0 (.int .i64 0) 1 Try.underlying22 hi0 hz0 hz1 .i64 .i64 xs.length xs.length xs.length rfl rfl rfl rfl (by rw [hz2]; have := HN.out; omega) (by have := HN.out; unfold maxLen; omega) (Nat.le_refl _) ?_)
  case _ =>
    intro w1 h1 hg1
    have ho1 : Own w1 w.heap.size (.slice (some ⟨w.heap.size, 0, none⟩) xs.length xs.length) (List.replicate xs.length 0) := by
      unfold Own; rw [List.length_replicate, ← made_ints]; exact h1
    have hb1 : Below w.heap.size w w1 := (Below.refl _ _).grown hg1 (Nat.le_refl _) (fun k hk => by cases hk)
    clear h1 hg1
    go_wp2
    go_loopw [4] (fun i wr => ∃ k : Nat, k ≤ xs.length ∧ i = .int .i64 k ∧ Own wr w.heap.size (.slice (some ⟨w.heap.size, 0, none⟩) xs.length xs.length) (xs.take k ++ List.replicate (xs.length - k) 0) ∧ Below w.heap.size w wr) (fun i _ => xs.length - (intOf i).toNat)
    case atStart => exact ⟨0, Nat.zero_le _, rfl, by simpa using ho1, hb1⟩
    case round =>
      obtain ⟨k, hk, rfl, ho, hb⟩ := hrel
      have hn := HN.out
      by_cases hlt : k < xs.length
      · obtain ⟨b, o, rfl, _, hc⟩ := (h.below hb).int hlt
        have hi : (k : Int) < (xs.length : Int) := by omega
        have hlen : (xs.take k ++ List.replicate (xs.length - k) (0 : Int)).length = xs.length := by simp; omega
        have ho' : Own wr w.heap.size (.slice (some ⟨w.heap.size, 0, none⟩) (xs.take k ++ List.replicate (xs.length - k) (0 : Int)).length xs.length) (xs.take k ++ List.replicate (xs.length - k) (0 : Int)) := by rw [hlen]; exact ho
        obtain ⟨u, hcell⟩ : ∃ u, wr.cell? ⟨w.heap.size, k, none⟩ = some (.int .i64 u) := ⟨_, ho'.at_ (i := k) (by omega)⟩
        have hfr := ho'.thaw
        have hput := ho'.put (i := k) xs[k]
        have hset : (xs.take k ++ List.replicate (xs.length - k) (0 : Int)).set k xs[k] = xs.take (k + 1) ++ List.replicate (xs.length - (k + 1)) 0 := by
          rw [List.set_append_right _ _ (by simp; omega)]
          have e1 : xs.length - k = (xs.length - (k + 1)) + 1 := by omega
          rw [e1, List.replicate_succ]
          simp only [List.length_take, Nat.min_eq_left hk, Nat.sub_self, List.set_cons_zero]
          rw [List.take_succ_eq_append_getElem hlt, List.append_assoc]
          rfl
        rw [hset] at hput
        have hlen2 : (xs.take (k + 1) ++ List.replicate (xs.length - (k + 1)) (0 : Int)).length = xs.length := by simp; omega
        rw [hlen2] at hput
        clear ho' hset hlen hlen2
        go_wp2
        go_roundw
        case rel => exact ⟨k + 1, by omega, by go_num, hput, hb.setCell (Nat.le_refl _) _⟩
        case measure => simp [intOf]; omega
      · have hi : ¬ (k : Int) < (xs.length : Int) := by omega
        go_wp2
        go_ret
        refine ⟨_, rfl, ?_, hb⟩
        have hk0 : xs.length - k = 0 := by omega
        rw [hk0, take_whole hlt] at ho
        simpa using ho

end Go.Proofs.Ytehdbllpiokbnaa

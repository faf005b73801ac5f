/-
  Hold in lists: what the exact laws' helpers answer. Condition: the list lies in memory and is at most 2^22 long.
-/
import Derived.Test.YtehdbllpiokbnaaStrip
import Derived.Test.YtehdbllpiokbnaaPlA
import Derived.Handy
import Derived.Deep.RegionHeld3

namespace Go.Proofs.Ytehdbllpiokbnaa
open Go.RowKit Pol

theorem hcells_len (x : Ho) : (hcells x).length = 2 := rfl
theorem hcells_one : ∀ l : List Ho, ∀ u ∈ strip hcells l, u.oneCell' = true := by
  intro l u hu
  obtain ⟨x, _, hx⟩ := List.mem_flatMap.1 hu
  simp [hcells] at hx
  rcases hx with rfl | rfl <;> rfl
def Ho.zero : Ho := ⟨0, 0⟩
/-- The mark of element i. -/
def Ho.mk_ (i : Nat) : Ho := ⟨1 + 2 * (i : Int), 1 + 2 * (i : Int) + 1⟩
def Ho.marks (n : Nat) : List Ho := (List.range n).map Ho.mk_
theorem Ho.marks_len (n : Nat) : (Ho.marks n).length = n := by simp [Ho.marks]
theorem Ho.marks_succ (n : Nat) : Ho.marks (n + 1) = Ho.marks n ++ [Ho.mk_ n] := by simp [Ho.marks, List.range_succ]
theorem Ho.marks_at {n k : Nat} (h : k < (Ho.marks n).length) : (Ho.marks n)[k] = Ho.mk_ k := by simp [Ho.marks]
def Ho.marked (k : Nat) (ys : List Ho) : List Ho := Ho.marks k ++ ys.drop k
theorem Ho.marked_len {k : Nat} {ys : List Ho} (h : k ≤ ys.length) : (Ho.marked k ys).length = ys.length := by simp [Ho.marked, Ho.marks_len]; omega
theorem Ho.marked_zero (ys : List Ho) : Ho.marked 0 ys = ys := by simp [Ho.marked, Ho.marks]
theorem Ho.marked_all {k : Nat} {ys : List Ho} (h : ¬ k < ys.length) (hk : k ≤ ys.length) : Ho.marked k ys = Ho.marks ys.length := by
  have : k = ys.length := by omega
  subst this
  simp [Ho.marked]
theorem Ho.marked_set {k : Nat} {ys : List Ho} (h : k < ys.length) : (Ho.marked k ys).set k (Ho.mk_ k) = Ho.marked (k + 1) ys := by
  unfold Ho.marked
  rw [List.set_append_right _ _ (by simp [Ho.marks_len]), Ho.marks_succ, Ho.marks_len, Nat.sub_self, List.drop_eq_getElem_cons h, List.set_cons_zero, List.append_assoc]
  rfl
theorem Ho.fill_set {xs : List Ho} {k : Nat} (hlt : k < xs.length) : (xs.take k ++ List.replicate (xs.length - k) Ho.zero).set k xs[k] = xs.take (k + 1) ++ List.replicate (xs.length - (k + 1)) Ho.zero := by
  rw [List.set_append_right _ _ (by simp; omega)]
  have e1 : xs.length - k = (xs.length - (k + 1)) + 1 := by omega
  rw [e1, List.replicate_succ]
  simp only [List.length_take, Nat.min_eq_left (Nat.le_of_lt hlt), Nat.sub_self, List.set_cons_zero]
  rw [List.take_succ_eq_append_getElem hlt, List.append_assoc]
  rfl
theorem Ho.made (n : Nat) : (madeCells #[.int .i64 0, .int .i64 0] (n * 2)).toList = strip hcells (List.replicate n Ho.zero) := by
  apply List.ext_getElem?
  intro i
  rcases Nat.lt_or_ge i (n * 2) with h | h
  · have hi : (strip hcells (List.replicate n Ho.zero))[i]? = some (.int .i64 0) := by
      have h1 : i = i / 2 * 2 + i % 2 := by omega
      have h2 : i / 2 < n := by omega
      rw [h1, strip_at hcells_len (k := i / 2) (by simpa using h2) (by omega)]
      have h3 : i % 2 < 2 := by omega
      simp only [List.getElem_replicate, Ho.zero, hcells]
      generalize i % 2 = q at h3
      match q, h3 with
      | 0, _ => rfl
      | 1, _ => rfl
    rw [hi]
    have h3 : i % 2 < 2 := by omega
    simp only [madeCells, Array.toList_map, Array.toList_range, List.getElem?_map, List.getElem?_range h, Option.map_some]
    congr 1
    simp only [List.size_toArray, List.length_cons, List.length_nil, Nat.zero_add]
    generalize i % 2 = q at h3
    match q, h3 with
    | 0, _ => rfl
    | 1, _ => rfl
  · rw [List.getElem?_eq_none (by simp [madeCells]; omega), List.getElem?_eq_none (by rw [strip_len hcells_len]; simpa using h)]
theorem holdInfo : (Try.prog.info? 91).map (fun i => (i.zero, i.size, i.bytes)) = some (some (.agg #[.int .i64 0, .int .i64 0]), 2, 16) := by kernel_rfl
/-- The cells of element k of a row of the call's own. -/
theorem hold_at {w : World} {base g n c : Nat} {ys : List Ho} (h : w.ownsRow base 91 2 (.slice (some ⟨g, 0, none⟩) n c) n (strip hcells ys)) {k : Nat} (hk : k < ys.length) :
    w.cell? ⟨g, k * 2, none⟩ = some (.int .i64 ys[k].c) ∧ w.cell? ⟨g, k * 2 + 1, none⟩ = some (.int .i64 ys[k].o) := by
  obtain ⟨b, o, e, _, hc⟩ := Sees.elem hcells_len (by decide) (Sees.of_own h) hk
  injection e with e
  injection e with e1 e2
  subst e1 e2
  refine ⟨?_, ?_⟩
  · simpa using hc 0 _ rfl
  · simpa using hc 1 _ rfl
/-- An element is written. -/
theorem hold_put {w : World} {base g n c : Nat} {ys : List Ho} (h : w.ownsRow base 91 2 (.slice (some ⟨g, 0, none⟩) n c) n (strip hcells ys)) {k : Nat} (hk : k < ys.length) (x : Ho) :
    ((w.setCell ⟨g, k * 2, none⟩ (.int .i64 x.c)).setCell ⟨g, k * 2 + 1, none⟩ (.int .i64 x.o)).ownsRow base 91 2 (.slice (some ⟨g, 0, none⟩) n c) n (strip hcells (ys.set k x)) := by
  rw [strip_set hcells_len ys k hk x]
  exact row_put (row_put h _ _) _ _
set_option maxHeartbeats 400000 in
theorem szHoldS_any (A : Option Addr) (n c : Nat) (w : World) (hn : n ≤ maxLen) :
    Calls Try.prog 32 #[.slice A n c, .int .i64 1048576] w fun e w' => e = .returned (.int .i64 (if 1048576 < n then -1 else 1048576 - n)) ∧ w = w' := by
  unfold maxLen at hn
  have hw : IntKind.i64.wrap (1048576 - (n : Int)) = 1048576 - (n : Int) := by rw [IntKind.wrap_i64]; omega
  by_cases h : 1048576 < n
  · have h1 : (1048576 : Int) - (n : Int) < 0 := by omega
    rw [if_pos h]
    go_enter Try.func32, Try.ntmps32
    go_wp2
    go_ret
    exact ⟨rfl, rfl⟩
  · have h1 : ¬ (1048576 : Int) - (n : Int) < 0 := by omega
    rw [if_neg h]
    go_enter Try.func32, Try.ntmps32
    go_wp2
    go_ret
    exact ⟨rfl, rfl⟩

set_option maxHeartbeats 1000000 in
theorem toHold_any (x : Ho) (w : World) :
    Calls Try.prog 70 #[.agg #[.int .i64 x.c, .int .i64 x.o]] w fun e w' => e = .returned (.agg #[.int .i64 x.c, .int .i64 x.o]) ∧ Below w.heap.size w w' := by
  go_enter Try.func70, Try.ntmps70
  go_wp2
  refine bodyPost_ret (v := .agg #[.int .i64 x.c, .int .i64 x.o]) (by simp [results, Try.results70, go_sem]) rfl ⟨rfl, ?_⟩
  go_grown

set_option maxHeartbeats 2000000 in
theorem toHoldS_any (A : Option Addr) (c : Nat) (xs : List Ho) (w : World) (h : Sees w w.heap.size A (strip hcells xs)) (hn : xs.length ≤ 4194304) :
    Calls Try.prog 36 #[.slice A xs.length c] w fun e w' => ∃ v, e = .returned v ∧ OwnS 91 2 hcells w' w.heap.size v xs ∧ Below w.heap.size w w' := by
  obtain ⟨i0, hi0, hz0, hz1, hz2⟩ := info_parts holdInfo
  have HN := hid hn; clear hn
  go_enter Try.func36, Try.ntmps36
  go_wp2_with (refine wpList_make_full _ rfl _ _ 28 rfl w.heap.size 91 i0 (.agg #[.int .i64 0, .int .i64 0]) 2 Try.underlying28 hi0 hz0 hz1 .i64 .i64 xs.length xs.length xs.length rfl rfl rfl rfl (by rw [hz2]; have := HN.out; omega) (by have := HN.out; unfold maxLen; omega) (Nat.le_refl _) ?_)
  case _ =>
    intro w1 h1 hg1
    have ho1 : w1.ownsRow w.heap.size 91 2 (.slice (some ⟨w.heap.size, 0, none⟩) xs.length xs.length) xs.length (strip hcells (xs.take 0 ++ List.replicate (xs.length - 0) Ho.zero)) := by
      have e := Ho.made xs.length
      simp only [List.take_zero, List.nil_append, Nat.sub_zero]
      rw [← e]; exact h1
    have hb1 : Below w.heap.size w w1 := (Below.refl _ _).grown hg1 (Nat.le_refl _) (fun k hk => by cases hk)
    clear h1 hg1
    go_wp2
    go_loopw [4] (fun i wr => ∃ k : Nat, k ≤ xs.length ∧ i = .int .i64 k ∧ wr.ownsRow w.heap.size 91 2 (.slice (some ⟨w.heap.size, 0, none⟩) xs.length xs.length) xs.length (strip hcells (xs.take k ++ List.replicate (xs.length - k) Ho.zero)) ∧ Below w.heap.size w wr) (fun i _ => xs.length - (intOf i).toNat)
    case atStart => exact ⟨0, Nat.zero_le _, rfl, ho1, hb1⟩
    case round =>
      clear ho1
      obtain ⟨k, hk, rfl, ho, hb⟩ := hrel
      have hn := HN.out
      by_cases hlt : k < xs.length
      · obtain ⟨b, o, rfl, hbl, hc⟩ := Sees.elem hcells_len (by decide) (h.below hb) hlt
        have hi : (k : Int) < (xs.length : Int) := by omega
        have hlen : k < (xs.take k ++ List.replicate (xs.length - k) Ho.zero).length := by simp; omega
        have hset := Ho.fill_set hlt
        have HS := hid hset
        clear hset
        obtain ⟨x, hx⟩ : ∃ x, x = xs[k] := ⟨_, rfl⟩
        rw [← hx] at hc HS
        clear hx
        have e0 : wr.cell? ⟨b, o + k * 2, none⟩ = some (.int .i64 x.c) := by simpa [Nat.add_assoc] using hc 0 _ rfl
        have e1 : wr.cell? ⟨b, o + k * 2 + 1, none⟩ = some (.int .i64 x.o) := by simpa [Nat.add_assoc] using hc 1 _ rfl
        clear hc
        obtain ⟨hgl, hgw⟩ := row_base ho
        go_wp2_with fail
        refine (toHold_any x _).mono ?_
        rintro e w3 ⟨rfl, hb3⟩
        have ho3 := own_below ho hb3
        obtain ⟨u0, u1⟩ := hold_at ho3 hlen
        have hfr := row_thaw ho3
        have hput := hold_put ho3 hlen x
        rw [HS.out] at hput
        have hb' := hb.trans (hb3.mono hb.size)
        clear e0 e1
        go_wp2
        go_roundw
        case rel => exact ⟨k + 1, by omega, by go_num, hput, (hb'.setCell (Nat.le_refl _) _).setCell (Nat.le_refl _) _⟩
        case measure => simp [intOf]; omega
      · have hi : ¬ (k : Int) < (xs.length : Int) := by omega
        go_wp2
        go_ret
        refine ⟨_, rfl, ?_, hb⟩
        have hk0 : xs.length - k = 0 := by omega
        rw [hk0, take_whole hlt] at ho
        simpa [OwnS] using ho

set_option maxHeartbeats 1000000 in
theorem eqHold_same (x : Ho) (w : World) :
    Calls Try.prog 75 #[.agg #[.int .i64 x.c, .int .i64 x.o], .agg #[.int .i64 x.c, .int .i64 x.o]] w fun e w' => e = .returned (.bool true) ∧ Below w.heap.size w w' := by
  go_enter Try.func75, Try.ntmps75
  go_wp2
  go_ret
  exact ⟨rfl, by go_grown⟩

set_option maxHeartbeats 2000000 in
theorem eqHoldS_same (A B : Option Addr) (c d : Nat) (xs : List Ho) (w : World) (h : Sees w w.heap.size A (strip hcells xs)) (h' : Sees w w.heap.size B (strip hcells xs)) (hn : xs.length ≤ 4194304) :
    Calls Try.prog 42 #[.slice A xs.length c, .slice B xs.length d] w fun e w' => e = .returned (.bool true) ∧ Below w.heap.size w w' := by
  have HN := hid hn; clear hn
  go_enter Try.func42, Try.ntmps42
  go_wp2
  go_loopw [5] (fun i wr => ∃ k : Nat, k ≤ xs.length ∧ i = .int .i64 k ∧ Below w.heap.size w wr) (fun i _ => xs.length - (intOf i).toNat)
  case atStart => exact ⟨0, Nat.zero_le _, rfl, Below.refl _ _⟩
  case round =>
    obtain ⟨k, hk, rfl, hb⟩ := hrel
    have hn := HN.out
    by_cases hlt : k < xs.length
    · have hi : (k : Int) < (xs.length : Int) := by omega
      obtain ⟨b, o, rfl, hbl, hc⟩ := Sees.elem hcells_len (by decide) (h.below hb) hlt
      obtain ⟨b', o', rfl, hbl', hc'⟩ := Sees.elem hcells_len (by decide) (h'.below hb) hlt
      obtain ⟨x, hx⟩ : ∃ x, x = xs[k] := ⟨_, rfl⟩
      rw [← hx] at hc hc'
      clear hx
      have e0 : wr.cell? ⟨b, o + k * 2, none⟩ = some (.int .i64 x.c) := by simpa [Nat.add_assoc] using hc 0 _ rfl
      have e1 : wr.cell? ⟨b, o + k * 2 + 1, none⟩ = some (.int .i64 x.o) := by simpa [Nat.add_assoc] using hc 1 _ rfl
      have f0 : wr.cell? ⟨b', o' + k * 2, none⟩ = some (.int .i64 x.c) := by simpa [Nat.add_assoc] using hc' 0 _ rfl
      have f1 : wr.cell? ⟨b', o' + k * 2 + 1, none⟩ = some (.int .i64 x.o) := by simpa [Nat.add_assoc] using hc' 1 _ rfl
      clear hc hc'
      have hbd : Below w.heap.size w wr.drew := hb.drew
      go_wp2_with fail
      go_region_held3 (fun w' => w'.cell? ⟨b, o + k * 2, none⟩ = some (.int .i64 x.c) ∧ w'.cell? ⟨b, o + k * 2 + 1, none⟩ = some (.int .i64 x.o) ∧ w'.cell? ⟨b', o' + k * 2, none⟩ = some (.int .i64 x.c) ∧ w'.cell? ⟨b', o' + k * 2 + 1, none⟩ = some (.int .i64 x.o))
        (first | with_reducible exact ⟨e0, e1, f0, f1⟩ | with_reducible exact ⟨p0, p1, q0, q1⟩ | go_keep)
        (first
          | (go_at_call 75; (with_reducible refine (eqHold_same x _).mono ?_); rintro e w2 ⟨rfl, hb2⟩; have hbw2 := hbd.trans (hb2.mono hbd.size); obtain ⟨hk1, _⟩ := below_cell hb2; have hlt2 := (show b < wr.drew.heap.size from Nat.lt_of_lt_of_le hbl hbd.size); have hlt3 := (show b' < wr.drew.heap.size from Nat.lt_of_lt_of_le hbl' hbd.size); have p0 := (hk1 b (o + k * 2) hlt2).trans e0; have p1 := (hk1 b (o + k * 2 + 1) hlt2).trans e1; have q0 := (hk1 b' (o' + k * 2) hlt3).trans f0; have q1 := (hk1 b' (o' + k * 2 + 1) hlt3).trans f1; clear hk1))
      all_goals
        go_wp2
        go_roundw
        case rel => exact ⟨k + 1, by omega, by go_num, hbw2⟩
        case measure => simp [intOf]; omega
    · have hi : ¬ (k : Int) < (xs.length : Int) := by omega
      go_wp2
      go_ret
      exact ⟨rfl, hb⟩

set_option maxHeartbeats 4000000 in
theorem markHoldS_any (base : Nat) (A : Option Addr) (c : Nat) (ys : List Ho) (w : World) (h : OwnS 91 2 hcells w base (.slice A ys.length c) ys) (hn : ys.length ≤ 4194304) :
    Calls Try.prog 52 #[.slice A ys.length c, .int .i64 1] w fun e w' => e = .returned (.int .i64 (1 + 2 * ys.length)) ∧ OwnS 91 2 hcells w' base (.slice A ys.length c) (Ho.marks ys.length) ∧ w.grownBy w' (Value.slice A ys.length c).ownBlock := by
  have HN := hid hn; clear hn
  rcases hv : A with _ | ⟨g, o, spot⟩
  · subst hv
    have hl : ys.length = 0 := by
      rcases h.2 with ⟨_, e⟩ | ⟨_, _, _, e, _⟩
      · exact e
      · cases e
    have hys : ys = [] := List.eq_nil_of_length_eq_zero hl
    subst hys
    go_enter Try.func52, Try.ntmps52
    go_wp2
    go_loopw [1, 5] (fun m i wr => m = .int .i64 1 ∧ i = .int .i64 0 ∧ wr = w) (fun _ _ _ => 0)
    case atStart => exact ⟨rfl, rfl, rfl⟩
    case round =>
      obtain ⟨rfl, rfl, rfl⟩ := hrel
      go_wp2
      go_ret
      exact ⟨by simp, h, grown_refl _ _⟩
  · have ho0 : o = 0 ∧ spot = none := by
      rcases h.2 with ⟨e, _⟩ | ⟨g', cap, cur, e, _⟩
      · rw [hv] at e; cases e
      · rw [hv] at e
        injection e with e1 e2 e3
        injection e1 with e1
        injection e1 with e1 e4 e5
        exact ⟨e4, e5⟩
    obtain ⟨rfl, rfl⟩ := ho0
    subst hv
    go_enter Try.func52, Try.ntmps52
    go_wp2
    go_loopw [1, 5] (fun m i wr => ∃ k : Nat, k ≤ ys.length ∧ m = .int .i64 (1 + 2 * k) ∧ i = .int .i64 k ∧ wr.ownsRow base 91 2 (.slice (some ⟨g, 0, none⟩) ys.length c) ys.length (strip hcells (Ho.marked k ys)) ∧ w.grownBy wr (some g)) (fun _ i _ => ys.length - (intOf i).toNat)
    case atStart => exact ⟨0, Nat.zero_le _, rfl, rfl, by rw [Ho.marked_zero]; exact h, grown_refl _ _⟩
    case round =>
      obtain ⟨k, hk, rfl, rfl, ho, hg⟩ := hrel
      have hn := HN.out
      by_cases hlt : k < ys.length
      · have hi : (k : Int) < (ys.length : Int) := by omega
        have hlen : k < (Ho.marked k ys).length := by rw [Ho.marked_len hk]; exact hlt
        obtain ⟨u0, u1⟩ := hold_at ho hlen
        have hfr := row_thaw ho
        have hput := hold_put ho hlen (Ho.mk_ k)
        rw [Ho.marked_set hlt] at hput
        have HP := hid hput
        clear hput ho
        have hw0 : IntKind.i64.wrap (1 + 2 * (k : Int) + 1) = 1 + 2 * (k : Int) + 1 := by rw [IntKind.wrap_i64]; omega
        have hw1 : IntKind.i64.wrap (1 + 2 * (k : Int) + 1 + 1) = 1 + 2 * (k : Int) + 2 := by rw [IntKind.wrap_i64]; omega
        go_wp2
        go_roundw
        case rel => exact ⟨k + 1, by omega, by go_num, by go_num, HP.out, grown_trans (grown_trans hg (grown_set _ _ _ _)) (grown_set _ _ _ _)⟩
        case measure => simp [intOf]; omega
      · have hi : ¬ (k : Int) < (ys.length : Int) := by omega
        rw [Ho.marked_all hlt hk] at ho
        have hke : (k : Int) = (ys.length : Int) := by omega
        go_wp2
        go_ret
        exact ⟨by simp, by unfold OwnS; rw [Ho.marks_len]; exact ho, hg⟩

set_option maxHeartbeats 4000000 in
theorem heldHoldS_any (A : Option Addr) (m c : Nat) (w : World) {B : Nat} (h : Sees w B A (strip hcells (Ho.marks m))) (hn : m ≤ 4194304) :
    Calls Try.prog 54 #[.slice A m c, .int .i64 1] w fun e w' => e = .returned (.int .i64 (1 + 2 * m)) ∧ w = w' := by
  have HN := hid hn; clear hn
  go_enter Try.func54, Try.ntmps54
  go_wp2
  go_loopw [1, 5] (fun v i wr => ∃ k : Nat, k ≤ m ∧ v = .int .i64 (1 + 2 * k) ∧ i = .int .i64 k ∧ wr = w) (fun _ i _ => m - (intOf i).toNat)
  case atStart => exact ⟨0, Nat.zero_le _, rfl, rfl, rfl⟩
  case round =>
    obtain ⟨k, hk, rfl, rfl, rfl⟩ := hrel
    have hn := HN.out
    by_cases hlt : k < m
    · have hi : (k : Int) < (m : Int) := by omega
      obtain ⟨b, o, rfl, _, hc⟩ := Sees.elem hcells_len (by decide) h (k := k) (by rw [Ho.marks_len]; exact hlt)
      rw [Ho.marks_at] at hc
      have e0 : wr.cell? ⟨b, o + k * 2, none⟩ = some (.int .i64 (1 + 2 * (k : Int))) := by simpa [Nat.add_assoc, Ho.mk_] using hc 0 _ rfl
      have e1 : wr.cell? ⟨b, o + k * 2 + 1, none⟩ = some (.int .i64 (1 + 2 * (k : Int) + 1)) := by simpa [Nat.add_assoc, Ho.mk_] using hc 1 _ rfl
      clear hc
      have hw0 : IntKind.i64.wrap (1 + 2 * (k : Int) + 1) = 1 + 2 * (k : Int) + 1 := by rw [IntKind.wrap_i64]; omega
      have hw1 : IntKind.i64.wrap (1 + 2 * (k : Int) + 1 + 1) = 1 + 2 * (k : Int) + 2 := by rw [IntKind.wrap_i64]; omega
      go_wp2
      go_roundw
      case rel => exact ⟨k + 1, by omega, by go_num, by go_num, by trivial⟩
      case measure => simp [intOf]; omega
    · have hke : (k : Int) = (m : Int) := by omega
      have hi : ¬ (k : Int) < (m : Int) := by omega
      go_wp2
      go_ret
      exact ⟨by simp, by trivial⟩

end Go.Proofs.Ytehdbllpiokbnaa

/-
  Host in lists: what the exact laws' helpers answer. Condition: the list lies in memory and is at most 2^22 long.
-/
import Derived.Test.YtbgpdpmijlhkkaaStrip
import Derived.Test.YtbgpdpmijlhkkaaHoA
import Derived.Handy
import Derived.Deep.RegionHeld3
namespace Go.Proofs.Ytbgpdpmijlhkkaa
open Go.RowKit Hos

theorem hcl_len (x : Hst) : (hcl x).length = 3 := rfl
theorem hcl_one : ∀ l : List Hst, ∀ u ∈ strip hcl l, u.oneCell' = true := by
  intro l u hu
  obtain ⟨x, _, hx⟩ := List.mem_flatMap.1 hu
  simp [hcl] at hx
  rcases hx with rfl | rfl | rfl <;> rfl
def Hst.zero : Hst := ⟨0, 0, false⟩
/-- The mark of element i. -/
def Hst.mk_ (i : Nat) : Hst := ⟨1 + 3 * (i : Int), 1 + 3 * (i : Int) + 1, true⟩
def Hst.marks (n : Nat) : List Hst := (List.range n).map Hst.mk_
theorem Hst.marks_len (n : Nat) : (Hst.marks n).length = n := by simp [Hst.marks]
theorem Hst.marks_succ (n : Nat) : Hst.marks (n + 1) = Hst.marks n ++ [Hst.mk_ n] := by simp [Hst.marks, List.range_succ]
theorem Hst.marks_at {n k : Nat} (h : k < (Hst.marks n).length) : (Hst.marks n)[k] = Hst.mk_ k := by simp [Hst.marks]
def Hst.marked (k : Nat) (ys : List Hst) : List Hst := Hst.marks k ++ ys.drop k
theorem Hst.marked_len {k : Nat} {ys : List Hst} (h : k ≤ ys.length) : (Hst.marked k ys).length = ys.length := by simp [Hst.marked, Hst.marks_len]; omega
theorem Hst.marked_zero (ys : List Hst) : Hst.marked 0 ys = ys := by simp [Hst.marked, Hst.marks]
theorem Hst.marked_all {k : Nat} {ys : List Hst} (h : ¬ k < ys.length) (hk : k ≤ ys.length) : Hst.marked k ys = Hst.marks ys.length := by
  have : k = ys.length := by omega
  subst this
  simp [Hst.marked]
theorem Hst.marked_set {k : Nat} {ys : List Hst} (h : k < ys.length) : (Hst.marked k ys).set k (Hst.mk_ k) = Hst.marked (k + 1) ys := by
  unfold Hst.marked
  rw [List.set_append_right _ _ (by simp [Hst.marks_len]), Hst.marks_succ, Hst.marks_len, Nat.sub_self, List.drop_eq_getElem_cons h, List.set_cons_zero, List.append_assoc]
  rfl
theorem Hst.fill_set {xs : List Hst} {k : Nat} (hlt : k < xs.length) : (xs.take k ++ List.replicate (xs.length - k) Hst.zero).set k xs[k] = xs.take (k + 1) ++ List.replicate (xs.length - (k + 1)) Hst.zero := by
  rw [List.set_append_right _ _ (by simp; omega)]
  have e1 : xs.length - k = (xs.length - (k + 1)) + 1 := by omega
  rw [e1, List.replicate_succ]
  simp only [List.length_take, Nat.min_eq_left (Nat.le_of_lt hlt), Nat.sub_self, List.set_cons_zero]
  rw [List.take_succ_eq_append_getElem hlt, List.append_assoc]
  rfl
theorem Hst.made (n : Nat) : (madeCells #[.int .i64 0, .int .i64 0, .bool false] (n * 3)).toList = strip hcl (List.replicate n Hst.zero) := by
  apply List.ext_getElem?
  intro i
  rcases Nat.lt_or_ge i (n * 3) with h | h
  · have h1 : i = i / 3 * 3 + i % 3 := by omega
    have h2 : i / 3 < n := by omega
    have h3 : i % 3 < 3 := by omega
    have hi : (strip hcl (List.replicate n Hst.zero))[i]? = (hcl Hst.zero)[i % 3]? := by
      have := strip_at hcl_len (l := List.replicate n Hst.zero) (k := i / 3) (by simpa using h2) h3
      rw [← h1] at this
      rw [this, List.getElem_replicate]
    rw [hi]
    simp only [madeCells, Array.toList_map, Array.toList_range, List.getElem?_map, List.getElem?_range h, Option.map_some]
    simp only [List.size_toArray, List.length_cons, List.length_nil, Nat.zero_add]
    generalize i % 3 = q at h3
    match q, h3 with
    | 0, _ => rfl
    | 1, _ => rfl
    | 2, _ => rfl
  · rw [List.getElem?_eq_none (by simp [madeCells]; omega), List.getElem?_eq_none (by rw [strip_len hcl_len]; simpa using h)]
theorem hostInfo : (Try.prog.info? 44).map (fun i => (i.zero, i.size, i.bytes)) = some (some (.agg #[.int .i64 0, .int .i64 0, .bool false]), 3, 24) := by kernel_rfl
/-- The cells of element k of a row of the call's own. -/
theorem host_at {w : World} {base g n c : Nat} {ys : List Hst} (h : w.ownsRow base 44 3 (.slice (some ⟨g, 0, none⟩) n c) n (strip hcl ys)) {k : Nat} (hk : k < ys.length) :
    w.cell? ⟨g, k * 3, none⟩ = some (.int .i64 ys[k].l) ∧ w.cell? ⟨g, k * 3 + 1, none⟩ = some (.int .i64 ys[k].g) ∧ w.cell? ⟨g, k * 3 + 2, none⟩ = some (.bool ys[k].d) := by
  obtain ⟨b, o, e, _, hc⟩ := Sees.elem hcl_len (by decide) (Sees.of_own h) hk
  injection e with e
  injection e with e1 e2
  subst e1 e2
  refine ⟨?_, ?_, ?_⟩
  · simpa using hc 0 _ rfl
  · simpa using hc 1 _ rfl
  · simpa using hc 2 _ rfl
/-- An element is written. -/
theorem host_put {w : World} {base g n c : Nat} {ys : List Hst} (h : w.ownsRow base 44 3 (.slice (some ⟨g, 0, none⟩) n c) n (strip hcl ys)) {k : Nat} (hk : k < ys.length) (x : Hst) :
    (((w.setCell ⟨g, k * 3, none⟩ (.int .i64 x.l)).setCell ⟨g, k * 3 + 1, none⟩ (.int .i64 x.g)).setCell ⟨g, k * 3 + 2, none⟩ (.bool x.d)).ownsRow base 44 3 (.slice (some ⟨g, 0, none⟩) n c) n (strip hcl (ys.set k x)) := by
  rw [strip_set hcl_len ys k hk x]
  exact row_put (row_put (row_put h _ _) _ _) _ _
set_option maxHeartbeats 400000 in
theorem szHostS_any (A : Option Addr) (n c : Nat) (w : World) (hn : n ≤ maxLen) :
    Calls Try.prog 11 #[.slice A n c, .int .i64 1048576] w fun e w' => e = .returned (.int .i64 (if 1048576 < n then -1 else 1048576 - n)) ∧ w = w' := by
  unfold maxLen at hn
  have hw : IntKind.i64.wrap (1048576 - (n : Int)) = 1048576 - (n : Int) := by rw [IntKind.wrap_i64]; omega
  by_cases h : 1048576 < n
  · have h1 : (1048576 : Int) - (n : Int) < 0 := by omega
    rw [if_pos h]
    go_enter Try.func11, Try.ntmps11
    go_wp2
    go_ret
    exact ⟨rfl, rfl⟩
  · have h1 : ¬ (1048576 : Int) - (n : Int) < 0 := by omega
    rw [if_neg h]
    go_enter Try.func11, Try.ntmps11
    go_wp2
    go_ret
    exact ⟨rfl, rfl⟩

set_option maxHeartbeats 1000000 in
theorem toHost_any (x : Hst) (w : World) :
    Calls Try.prog 34 #[.agg #[.int .i64 x.l, .int .i64 x.g, .bool x.d]] w fun e w' => e = .returned (.agg #[.int .i64 x.l, .int .i64 x.g, .bool x.d]) ∧ Below w.heap.size w w' := by
  go_enter Try.func34, Try.ntmps34
  go_wp2
  refine bodyPost_ret (v := .agg #[.int .i64 x.l, .int .i64 x.g, .bool x.d]) (by simp [results, Try.results34, go_sem]) rfl ⟨rfl, ?_⟩
  go_grown

set_option maxHeartbeats 2000000 in
theorem toHostS_any (A : Option Addr) (c : Nat) (xs : List Hst) (w : World) (h : Sees w w.heap.size A (strip hcl xs)) (hn : xs.length ≤ 4194304) :
    Calls Try.prog 13 #[.slice A xs.length c] w fun e w' => ∃ v, e = .returned v ∧ OwnS 44 3 hcl w' w.heap.size v xs ∧ Below w.heap.size w w' := by
  obtain ⟨i0, hi0, hz0, hz1, hz2⟩ := info_parts hostInfo
  have HN := hid hn; clear hn
  go_enter Try.func13, Try.ntmps13
  go_wp2_with (refine wpList_make_full _ rfl _ _ 25 rfl w.heap.size 44 i0 (.agg #[.int .i64 0, .int .i64 0, .bool false]) 3 Try.underlying25 hi0 hz0 hz1 .i64 .i64 xs.length xs.length xs.length rfl rfl rfl rfl (by rw [hz2]; have := HN.out; omega) (by have := HN.out; unfold maxLen; omega) (Nat.le_refl _) ?_)
  case _ =>
    intro w1 h1 hg1
    have ho1 : w1.ownsRow w.heap.size 44 3 (.slice (some ⟨w.heap.size, 0, none⟩) xs.length xs.length) xs.length (strip hcl (xs.take 0 ++ List.replicate (xs.length - 0) Hst.zero)) := by
      have e := Hst.made xs.length
      simp only [List.take_zero, List.nil_append, Nat.sub_zero]
      rw [← e]; exact h1
    have hb1 : Below w.heap.size w w1 := (Below.refl _ _).grown hg1 (Nat.le_refl _) (fun k hk => by cases hk)
    clear h1 hg1
    go_wp2
    go_loopw [4] (fun i wr => ∃ k : Nat, k ≤ xs.length ∧ i = .int .i64 k ∧ wr.ownsRow w.heap.size 44 3 (.slice (some ⟨w.heap.size, 0, none⟩) xs.length xs.length) xs.length (strip hcl (xs.take k ++ List.replicate (xs.length - k) Hst.zero)) ∧ Below w.heap.size w wr) (fun i _ => xs.length - (intOf i).toNat)
    case atStart => exact ⟨0, Nat.zero_le _, rfl, ho1, hb1⟩
    case round =>
      clear ho1
      obtain ⟨k, hk, rfl, ho, hb⟩ := hrel
      have hn := HN.out
      by_cases hlt : k < xs.length
      · obtain ⟨b, o, rfl, hbl, hc⟩ := Sees.elem hcl_len (by decide) (h.below hb) hlt
        have hi : (k : Int) < (xs.length : Int) := by omega
        have hlen : k < (xs.take k ++ List.replicate (xs.length - k) Hst.zero).length := by simp; omega
        have hset := Hst.fill_set hlt
        have HS := hid hset
        clear hset
        obtain ⟨x, hx⟩ : ∃ x, x = xs[k] := ⟨_, rfl⟩
        rw [← hx] at hc HS
        clear hx
        have e0 : wr.cell? ⟨b, o + k * 3, none⟩ = some (.int .i64 x.l) := by simpa [Nat.add_assoc] using hc 0 _ rfl
        have e1 : wr.cell? ⟨b, o + k * 3 + 1, none⟩ = some (.int .i64 x.g) := by simpa [Nat.add_assoc] using hc 1 _ rfl
        have e2 : wr.cell? ⟨b, o + k * 3 + 2, none⟩ = some (.bool x.d) := by simpa [Nat.add_assoc] using hc 2 _ rfl
        clear hc
        obtain ⟨hgl, hgw⟩ := row_base ho
        go_wp2_with fail
        refine (toHost_any x _).mono ?_
        rintro e w3 ⟨rfl, hb3⟩
        have ho3 := own_below ho hb3
        obtain ⟨u0, u1, u2⟩ := host_at ho3 hlen
        have hfr := row_thaw ho3
        have hput := host_put ho3 hlen x
        rw [HS.out] at hput
        have hb' := hb.trans (hb3.mono hb.size)
        clear e0 e1 e2
        go_wp2
        go_roundw
        case rel => exact ⟨k + 1, by omega, by go_num, hput, ((hb'.setCell (Nat.le_refl _) _).setCell (Nat.le_refl _) _).setCell (Nat.le_refl _) _⟩
        case measure => simp [intOf]; omega
      · have hi : ¬ (k : Int) < (xs.length : Int) := by omega
        go_wp2
        go_ret
        refine ⟨_, rfl, ?_, hb⟩
        have hk0 : xs.length - k = 0 := by omega
        rw [hk0, take_whole hlt] at ho
        simpa [OwnS] using ho

set_option maxHeartbeats 1000000 in
theorem eqHost_same (x : Hst) (w : World) :
    Calls Try.prog 36 #[.agg #[.int .i64 x.l, .int .i64 x.g, .bool x.d], .agg #[.int .i64 x.l, .int .i64 x.g, .bool x.d]] w fun e w' => e = .returned (.bool true) ∧ Below w.heap.size w w' := by
  go_enter Try.func36, Try.ntmps36
  go_wp2
  go_ret
  exact ⟨rfl, by go_grown⟩

set_option maxHeartbeats 2000000 in
theorem eqHostS_same (A B : Option Addr) (c d : Nat) (xs : List Hst) (w : World) (h : Sees w w.heap.size A (strip hcl xs)) (h' : Sees w w.heap.size B (strip hcl xs)) (hn : xs.length ≤ 4194304) :
    Calls Try.prog 15 #[.slice A xs.length c, .slice B xs.length d] w fun e w' => e = .returned (.bool true) ∧ Below w.heap.size w w' := by
  have HN := hid hn; clear hn
  go_enter Try.func15, Try.ntmps15
  go_wp2
  go_loopw [5] (fun i wr => ∃ k : Nat, k ≤ xs.length ∧ i = .int .i64 k ∧ Below w.heap.size w wr) (fun i _ => xs.length - (intOf i).toNat)
  case atStart => exact ⟨0, Nat.zero_le _, rfl, Below.refl _ _⟩
  case round =>
    obtain ⟨k, hk, rfl, hb⟩ := hrel
    have hn := HN.out
    by_cases hlt : k < xs.length
    · have hi : (k : Int) < (xs.length : Int) := by omega
      obtain ⟨b, o, rfl, hbl, hc⟩ := Sees.elem hcl_len (by decide) (h.below hb) hlt
      obtain ⟨b', o', rfl, hbl', hc'⟩ := Sees.elem hcl_len (by decide) (h'.below hb) hlt
      obtain ⟨x, hx⟩ : ∃ x, x = xs[k] := ⟨_, rfl⟩
      rw [← hx] at hc hc'
      clear hx
      have e0 : wr.cell? ⟨b, o + k * 3, none⟩ = some (.int .i64 x.l) := by simpa [Nat.add_assoc] using hc 0 _ rfl
      have e1 : wr.cell? ⟨b, o + k * 3 + 1, none⟩ = some (.int .i64 x.g) := by simpa [Nat.add_assoc] using hc 1 _ rfl
      have e2 : wr.cell? ⟨b, o + k * 3 + 2, none⟩ = some (.bool x.d) := by simpa [Nat.add_assoc] using hc 2 _ rfl
      have f0 : wr.cell? ⟨b', o' + k * 3, none⟩ = some (.int .i64 x.l) := by simpa [Nat.add_assoc] using hc' 0 _ rfl
      have f1 : wr.cell? ⟨b', o' + k * 3 + 1, none⟩ = some (.int .i64 x.g) := by simpa [Nat.add_assoc] using hc' 1 _ rfl
      have f2 : wr.cell? ⟨b', o' + k * 3 + 2, none⟩ = some (.bool x.d) := by simpa [Nat.add_assoc] using hc' 2 _ rfl
      clear hc hc'
      have hbd : Below w.heap.size w wr.drew := hb.drew
      go_wp2_with fail
      go_region_held3 (fun w' => w'.cell? ⟨b, o + k * 3, none⟩ = some (.int .i64 x.l) ∧ w'.cell? ⟨b, o + k * 3 + 1, none⟩ = some (.int .i64 x.g) ∧ w'.cell? ⟨b, o + k * 3 + 2, none⟩ = some (.bool x.d) ∧ w'.cell? ⟨b', o' + k * 3, none⟩ = some (.int .i64 x.l) ∧ w'.cell? ⟨b', o' + k * 3 + 1, none⟩ = some (.int .i64 x.g) ∧ w'.cell? ⟨b', o' + k * 3 + 2, none⟩ = some (.bool x.d))
        (first | with_reducible exact ⟨e0, e1, e2, f0, f1, f2⟩ | with_reducible exact ⟨p0, p1, p2, q0, q1, q2⟩ | go_keep)
        (first
          | (go_at_call 36; (with_reducible refine (eqHost_same x _).mono ?_); rintro e w2 ⟨rfl, hb2⟩; have hbw2 := hbd.trans (hb2.mono hbd.size); obtain ⟨hk1, _⟩ := below_cell hb2; have hlt2 := (show b < wr.drew.heap.size from Nat.lt_of_lt_of_le hbl hbd.size); have hlt3 := (show b' < wr.drew.heap.size from Nat.lt_of_lt_of_le hbl' hbd.size); have p0 := (hk1 b (o + k * 3) hlt2).trans e0; have p1 := (hk1 b (o + k * 3 + 1) hlt2).trans e1; have p2 := (hk1 b (o + k * 3 + 2) hlt2).trans e2; have q0 := (hk1 b' (o' + k * 3) hlt3).trans f0; have q1 := (hk1 b' (o' + k * 3 + 1) hlt3).trans f1; have q2 := (hk1 b' (o' + k * 3 + 2) hlt3).trans f2; clear hk1))
      all_goals
        go_wp2
        go_roundw
        case rel => exact ⟨k + 1, by omega, by go_num, hbw2⟩
        case measure => simp [intOf]; omega
    · have hi : ¬ (k : Int) < (xs.length : Int) := by omega
      go_wp2
      go_ret
      exact ⟨rfl, hb⟩

set_option maxHeartbeats 4000000 in
theorem markHostS_any (base : Nat) (A : Option Addr) (c : Nat) (ys : List Hst) (w : World) (h : OwnS 44 3 hcl w base (.slice A ys.length c) ys) (hn : ys.length ≤ 4194304) :
    Calls Try.prog 22 #[.slice A ys.length c, .int .i64 1] w fun e w' => e = .returned (.int .i64 (1 + 3 * ys.length)) ∧ OwnS 44 3 hcl w' base (.slice A ys.length c) (Hst.marks ys.length) ∧ w.grownBy w' (Value.slice A ys.length c).ownBlock := by
  have HN := hid hn; clear hn
  rcases hv : A with _ | ⟨g, o, spot⟩
  · subst hv
    have hl : ys.length = 0 := by
      rcases h.2 with ⟨_, e⟩ | ⟨_, _, _, e, _⟩
      · exact e
      · cases e
    have hys : ys = [] := List.eq_nil_of_length_eq_zero hl
    subst hys
    go_enter Try.func22, Try.ntmps22
    go_wp2
    go_loopw [1, 5] (fun m i wr => m = .int .i64 1 ∧ i = .int .i64 0 ∧ wr = w) (fun _ _ _ => 0)
    case atStart => exact ⟨rfl, rfl, rfl⟩
    case round =>
      obtain ⟨rfl, rfl, rfl⟩ := hrel
      go_wp2
      go_ret
      exact ⟨by simp, h, grown_refl _ _⟩
  · have ho0 : o = 0 ∧ spot = none := by
      rcases h.2 with ⟨e, _⟩ | ⟨g', cap, cur, e, _⟩
      · rw [hv] at e; cases e
      · rw [hv] at e
        injection e with e1 e2 e3
        injection e1 with e1
        injection e1 with e1 e4 e5
        exact ⟨e4, e5⟩
    obtain ⟨rfl, rfl⟩ := ho0
    subst hv
    go_enter Try.func22, Try.ntmps22
    go_wp2
    go_loopw [1, 5] (fun m i wr => ∃ k : Nat, k ≤ ys.length ∧ m = .int .i64 (1 + 3 * k) ∧ i = .int .i64 k ∧ wr.ownsRow base 44 3 (.slice (some ⟨g, 0, none⟩) ys.length c) ys.length (strip hcl (Hst.marked k ys)) ∧ w.grownBy wr (some g)) (fun _ i _ => ys.length - (intOf i).toNat)
    case atStart => exact ⟨0, Nat.zero_le _, rfl, rfl, by rw [Hst.marked_zero]; exact h, grown_refl _ _⟩
    case round =>
      obtain ⟨k, hk, rfl, rfl, ho, hg⟩ := hrel
      have hn := HN.out
      by_cases hlt : k < ys.length
      · have hi : (k : Int) < (ys.length : Int) := by omega
        have hlen : k < (Hst.marked k ys).length := by rw [Hst.marked_len hk]; exact hlt
        obtain ⟨u0, u1, u2⟩ := host_at ho hlen
        have hfr := row_thaw ho
        have hput := host_put ho hlen (Hst.mk_ k)
        rw [Hst.marked_set hlt] at hput
        have HP := hid hput
        clear hput ho
        have hm2 : Int.tmod (1 + 3 * (k : Int) + 2) 3 = 0 := by rw [Int.tmod_eq_emod_of_nonneg (by omega)]; omega
        have hw0 : IntKind.i64.wrap (1 + 3 * (k : Int) + 1) = 1 + 3 * (k : Int) + 1 := by rw [IntKind.wrap_i64]; omega
        have hw1 : IntKind.i64.wrap (1 + 3 * (k : Int) + 1 + 1) = 1 + 3 * (k : Int) + 2 := by rw [IntKind.wrap_i64]; omega
        have hw2 : IntKind.i64.wrap (1 + 3 * (k : Int) + 2 + 1) = 1 + 3 * (k : Int) + 3 := by rw [IntKind.wrap_i64]; omega
        go_wp2
        go_roundw
        case rel => exact ⟨k + 1, by omega, by go_num, by go_num, HP.out, grown_trans (grown_trans (grown_trans hg (grown_set _ _ _ _)) (grown_set _ _ _ _)) (grown_set _ _ _ _)⟩
        case measure => simp [intOf]; omega
      · have hi : ¬ (k : Int) < (ys.length : Int) := by omega
        rw [Hst.marked_all hlt hk] at ho
        have hke : (k : Int) = (ys.length : Int) := by omega
        go_wp2
        go_ret
        exact ⟨by simp, by unfold OwnS; rw [Hst.marks_len]; exact ho, hg⟩

set_option maxHeartbeats 4000000 in
theorem heldHostS_any (A : Option Addr) (m c : Nat) (w : World) {B : Nat} (h : Sees w B A (strip hcl (Hst.marks m))) (hn : m ≤ 4194304) :
    Calls Try.prog 23 #[.slice A m c, .int .i64 1] w fun e w' => e = .returned (.int .i64 (1 + 3 * m)) ∧ w = w' := by
  have HN := hid hn; clear hn
  go_enter Try.func23, Try.ntmps23
  go_wp2
  go_loopw [1, 5] (fun v i wr => ∃ k : Nat, k ≤ m ∧ v = .int .i64 (1 + 3 * k) ∧ i = .int .i64 k ∧ wr = w) (fun _ i _ => m - (intOf i).toNat)
  case atStart => exact ⟨0, Nat.zero_le _, rfl, rfl, rfl⟩
  case round =>
    obtain ⟨k, hk, rfl, rfl, rfl⟩ := hrel
    have hn := HN.out
    by_cases hlt : k < m
    · have hi : (k : Int) < (m : Int) := by omega
      obtain ⟨b, o, rfl, _, hc⟩ := Sees.elem hcl_len (by decide) h (k := k) (by rw [Hst.marks_len]; exact hlt)
      rw [Hst.marks_at] at hc
      have e0 : wr.cell? ⟨b, o + k * 3, none⟩ = some (.int .i64 (1 + 3 * (k : Int))) := by simpa [Nat.add_assoc, Hst.mk_] using hc 0 _ rfl
      have e1 : wr.cell? ⟨b, o + k * 3 + 1, none⟩ = some (.int .i64 (1 + 3 * (k : Int) + 1)) := by simpa [Nat.add_assoc, Hst.mk_] using hc 1 _ rfl
      have e2 : wr.cell? ⟨b, o + k * 3 + 2, none⟩ = some (.bool true) := by simpa [Nat.add_assoc, Hst.mk_] using hc 2 _ rfl
      clear hc
      have hm2 : Int.tmod (1 + 3 * (k : Int) + 2) 3 = 0 := by rw [Int.tmod_eq_emod_of_nonneg (by omega)]; omega
      have hw0 : IntKind.i64.wrap (1 + 3 * (k : Int) + 1) = 1 + 3 * (k : Int) + 1 := by rw [IntKind.wrap_i64]; omega
      have hw1 : IntKind.i64.wrap (1 + 3 * (k : Int) + 1 + 1) = 1 + 3 * (k : Int) + 2 := by rw [IntKind.wrap_i64]; omega
      have hw2 : IntKind.i64.wrap (1 + 3 * (k : Int) + 2 + 1) = 1 + 3 * (k : Int) + 3 := by rw [IntKind.wrap_i64]; omega
      go_wp2
      go_roundw
      case rel => exact ⟨k + 1, by omega, by go_num, by go_num, by trivial⟩
      case measure => simp [intOf]; omega
    · have hke : (k : Int) = (m : Int) := by omega
      have hi : ¬ (k : Int) < (m : Int) := by omega
      go_wp2
      go_ret
      exact ⟨by simp, by trivial⟩

end Go.Proofs.Ytbgpdpmijlhkkaa

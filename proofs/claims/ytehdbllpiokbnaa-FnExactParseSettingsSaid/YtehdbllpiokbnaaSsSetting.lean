/-
  Setting in lists: what the exact laws' helpers answer. Condition: the list lies in memory and is at most 2^22 long.
-/
import Derived.Test.YtehdbllpiokbnaaStrip
import Derived.Test.YtehdbllpiokbnaaStA
import Derived.Handy
import Derived.Deep.RegionHeld3
namespace Go.Proofs.Ytehdbllpiokbnaa
open Go.RowKit Stt

theorem stcl_len (x : Stg) : (stcl x).length = 2 := rfl
theorem stcl_one : ∀ l : List Stg, ∀ u ∈ strip stcl l, u.oneCell' = true := by
  intro l u hu
  obtain ⟨x, _, hx⟩ := List.mem_flatMap.1 hu
  simp [stcl] at hx
  rcases hx with rfl | rfl <;> rfl
def Stg.zero : Stg := ⟨0, 0⟩
/-- The mark of element i. -/
def Stg.mk_ (i : Nat) : Stg := ⟨1 + 2 * (i : Int), 1 + 2 * (i : Int) + 1⟩
def Stg.marks (n : Nat) : List Stg := (List.range n).map Stg.mk_
theorem Stg.marks_len (n : Nat) : (Stg.marks n).length = n := by simp [Stg.marks]
theorem Stg.marks_succ (n : Nat) : Stg.marks (n + 1) = Stg.marks n ++ [Stg.mk_ n] := by simp [Stg.marks, List.range_succ]
theorem Stg.marks_at {n k : Nat} (h : k < (Stg.marks n).length) : (Stg.marks n)[k] = Stg.mk_ k := by simp [Stg.marks]
def Stg.marked (k : Nat) (ys : List Stg) : List Stg := Stg.marks k ++ ys.drop k
theorem Stg.marked_len {k : Nat} {ys : List Stg} (h : k ≤ ys.length) : (Stg.marked k ys).length = ys.length := by simp [Stg.marked, Stg.marks_len]; omega
theorem Stg.marked_zero (ys : List Stg) : Stg.marked 0 ys = ys := by simp [Stg.marked, Stg.marks]
theorem Stg.marked_all {k : Nat} {ys : List Stg} (h : ¬ k < ys.length) (hk : k ≤ ys.length) : Stg.marked k ys = Stg.marks ys.length := by
  have : k = ys.length := by omega
  subst this
  simp [Stg.marked]
theorem Stg.marked_set {k : Nat} {ys : List Stg} (h : k < ys.length) : (Stg.marked k ys).set k (Stg.mk_ k) = Stg.marked (k + 1) ys := by
  unfold Stg.marked
  rw [List.set_append_right _ _ (by simp [Stg.marks_len]), Stg.marks_succ, Stg.marks_len, Nat.sub_self, List.drop_eq_getElem_cons h, List.set_cons_zero, List.append_assoc]
  rfl
theorem Stg.fill_set {xs : List Stg} {k : Nat} (hlt : k < xs.length) : (xs.take k ++ List.replicate (xs.length - k) Stg.zero).set k xs[k] = xs.take (k + 1) ++ List.replicate (xs.length - (k + 1)) Stg.zero := by
  rw [List.set_append_right _ _ (by simp; omega)]
  have e1 : xs.length - k = (xs.length - (k + 1)) + 1 := by omega
  rw [e1, List.replicate_succ]
  simp only [List.length_take, Nat.min_eq_left (Nat.le_of_lt hlt), Nat.sub_self, List.set_cons_zero]
  rw [List.take_succ_eq_append_getElem hlt, List.append_assoc]
  rfl
theorem Stg.made (n : Nat) : (madeCells #[.int .i64 0, .int .i64 0] (n * 2)).toList = strip stcl (List.replicate n Stg.zero) := by
  apply List.ext_getElem?
  intro i
  rcases Nat.lt_or_ge i (n * 2) with h | h
  · have hi : (strip stcl (List.replicate n Stg.zero))[i]? = some (.int .i64 0) := by
      have h1 : i = i / 2 * 2 + i % 2 := by omega
      have h2 : i / 2 < n := by omega
      rw [h1, strip_at stcl_len (k := i / 2) (by simpa using h2) (by omega)]
      have h3 : i % 2 < 2 := by omega
      simp only [List.getElem_replicate, Stg.zero, stcl]
      generalize i % 2 = q at h3
      match q, h3 with
      | 0, _ => rfl
      | 1, _ => rfl
    rw [hi]
    have h3 : i % 2 < 2 := by omega
    simp only [madeCells, Array.toList_map, Array.toList_range, List.getElem?_map, List.getElem?_range h, Option.map_some]
    congr 1
    simp only [List.size_toArray, List.length_cons, List.length_nil, Nat.zero_add]
    generalize i % 2 = q at h3
    match q, h3 with
    | 0, _ => rfl
    | 1, _ => rfl
  · rw [List.getElem?_eq_none (by simp [madeCells]; omega), List.getElem?_eq_none (by rw [strip_len stcl_len]; simpa using h)]
theorem settingInfo : (Try.prog.info? 76).map (fun i => (i.zero, i.size, i.bytes)) = some (some (.agg #[.int .i64 0, .int .i64 0]), 2, 16) := by kernel_rfl
/-- The cells of element k of a row of the call's own. -/
theorem setting_at {w : World} {base g n c : Nat} {ys : List Stg} (h : w.ownsRow base 76 2 (.slice (some ⟨g, 0, none⟩) n c) n (strip stcl ys)) {k : Nat} (hk : k < ys.length) :
    w.cell? ⟨g, k * 2, none⟩ = some (.int .i64 ys[k].n) ∧ w.cell? ⟨g, k * 2 + 1, none⟩ = some (.int .i64 ys[k].v) := by
  obtain ⟨b, o, e, _, hc⟩ := Sees.elem stcl_len (by decide) (Sees.of_own h) hk
  injection e with e
  injection e with e1 e2
  subst e1 e2
  refine ⟨?_, ?_⟩
  · simpa using hc 0 _ rfl
  · simpa using hc 1 _ rfl
/-- An element is written. -/
theorem setting_put {w : World} {base g n c : Nat} {ys : List Stg} (h : w.ownsRow base 76 2 (.slice (some ⟨g, 0, none⟩) n c) n (strip stcl ys)) {k : Nat} (hk : k < ys.length) (x : Stg) :
    ((w.setCell ⟨g, k * 2, none⟩ (.int .i64 x.n)).setCell ⟨g, k * 2 + 1, none⟩ (.int .i64 x.v)).ownsRow base 76 2 (.slice (some ⟨g, 0, none⟩) n c) n (strip stcl (ys.set k x)) := by
  rw [strip_set stcl_len ys k hk x]
  exact row_put (row_put h _ _) _ _
set_option maxHeartbeats 400000 in
theorem szSettingS_any (A : Option Addr) (n c : Nat) (w : World) (hn : n ≤ maxLen) :
    Calls Try.prog 17 #[.slice A n c, .int .i64 1048576] w fun e w' => e = .returned (.int .i64 (if 1048576 < n then -1 else 1048576 - n)) ∧ w = w' := by
  unfold maxLen at hn
  have hw : IntKind.i64.wrap (1048576 - (n : Int)) = 1048576 - (n : Int) := by rw [IntKind.wrap_i64]; omega
  by_cases h : 1048576 < n
  · have h1 : (1048576 : Int) - (n : Int) < 0 := by omega
    rw [if_pos h]
    go_enter Try.func17, Try.ntmps17
    go_wp2
    go_ret
    exact ⟨rfl, rfl⟩
  · have h1 : ¬ (1048576 : Int) - (n : Int) < 0 := by omega
    rw [if_neg h]
    go_enter Try.func17, Try.ntmps17
    go_wp2
    go_ret
    exact ⟨rfl, rfl⟩

set_option maxHeartbeats 1000000 in
theorem toSetting_any (x : Stg) (w : World) :
    Calls Try.prog 57 #[.agg #[.int .i64 x.n, .int .i64 x.v]] w fun e w' => e = .returned (.agg #[.int .i64 x.n, .int .i64 x.v]) ∧ Below w.heap.size w w' := by
  go_enter Try.func57, Try.ntmps57
  go_wp2
  refine bodyPost_ret (v := .agg #[.int .i64 x.n, .int .i64 x.v]) (by simp [results, Try.results57, go_sem]) rfl ⟨rfl, ?_⟩
  go_grown

set_option maxHeartbeats 2000000 in
theorem toSettingS_any (A : Option Addr) (c : Nat) (xs : List Stg) (w : World) (h : Sees w w.heap.size A (strip stcl xs)) (hn : xs.length ≤ 4194304) :
    Calls Try.prog 19 #[.slice A xs.length c] w fun e w' => ∃ v, e = .returned v ∧ OwnS 76 2 stcl w' w.heap.size v xs ∧ Below w.heap.size w w' := by
  obtain ⟨i0, hi0, hz0, hz1, hz2⟩ := info_parts settingInfo
  have HN := hid hn; clear hn
  go_enter Try.func19, Try.ntmps19
  go_wp2_with (refine wpList_make_full _ rfl _ _ 41 rfl w.heap.size 76 i0 (.agg #[.int .i64 0, .int .i64 0]) 2 Try.underlying41 hi0 hz0 hz1 .i64 .i64 xs.length xs.length xs.length rfl rfl rfl rfl (by rw [hz2]; have := HN.out; omega) (by have := HN.out; unfold maxLen; omega) (Nat.le_refl _) ?_)
  case _ =>
    intro w1 h1 hg1
    have ho1 : w1.ownsRow w.heap.size 76 2 (.slice (some ⟨w.heap.size, 0, none⟩) xs.length xs.length) xs.length (strip stcl (xs.take 0 ++ List.replicate (xs.length - 0) Stg.zero)) := by
      have e := Stg.made xs.length
      simp only [List.take_zero, List.nil_append, Nat.sub_zero]
      rw [← e]; exact h1
    have hb1 : Below w.heap.size w w1 := (Below.refl _ _).grown hg1 (Nat.le_refl _) (fun k hk => by cases hk)
    clear h1 hg1
    go_wp2
    go_loopw [4] (fun i wr => ∃ k : Nat, k ≤ xs.length ∧ i = .int .i64 k ∧ wr.ownsRow w.heap.size 76 2 (.slice (some ⟨w.heap.size, 0, none⟩) xs.length xs.length) xs.length (strip stcl (xs.take k ++ List.replicate (xs.length - k) Stg.zero)) ∧ Below w.heap.size w wr) (fun i _ => xs.length - (intOf i).toNat)
    case atStart => exact ⟨0, Nat.zero_le _, rfl, ho1, hb1⟩
    case round =>
      clear ho1
      obtain ⟨k, hk, rfl, ho, hb⟩ := hrel
      have hn := HN.out
      by_cases hlt : k < xs.length
      · obtain ⟨b, o, rfl, hbl, hc⟩ := Sees.elem stcl_len (by decide) (h.below hb) hlt
        have hi : (k : Int) < (xs.length : Int) := by omega
        have hlen : k < (xs.take k ++ List.replicate (xs.length - k) Stg.zero).length := by simp; omega
        have hset := Stg.fill_set hlt
        have HS := hid hset
        clear hset
        obtain ⟨x, hx⟩ : ∃ x, x = xs[k] := ⟨_, rfl⟩
        rw [← hx] at hc HS
        clear hx
        have e0 : wr.cell? ⟨b, o + k * 2, none⟩ = some (.int .i64 x.n) := by simpa [Nat.add_assoc] using hc 0 _ rfl
        have e1 : wr.cell? ⟨b, o + k * 2 + 1, none⟩ = some (.int .i64 x.v) := by simpa [Nat.add_assoc] using hc 1 _ rfl
        clear hc
        obtain ⟨hgl, hgw⟩ := row_base ho
        go_wp2_with fail
        refine (toSetting_any x _).mono ?_
        rintro e w3 ⟨rfl, hb3⟩
        have ho3 := own_below ho hb3
        obtain ⟨u0, u1⟩ := setting_at ho3 hlen
        have hfr := row_thaw ho3
        have hput := setting_put ho3 hlen x
        rw [HS.out] at hput
        have hb' := hb.trans (hb3.mono hb.size)
        clear e0 e1
        go_wp2
        go_roundw
        case rel => exact ⟨k + 1, by omega, by go_num, hput, (hb'.setCell (Nat.le_refl _) _).setCell (Nat.le_refl _) _⟩
        case measure => simp [intOf]; omega
      · have hi : ¬ (k : Int) < (xs.length : Int) := by omega
        go_wp2
        go_ret
        refine ⟨_, rfl, ?_, hb⟩
        have hk0 : xs.length - k = 0 := by omega
        rw [hk0, take_whole hlt] at ho
        simpa [OwnS] using ho

set_option maxHeartbeats 1000000 in
theorem eqSetting_same (x : Stg) (w : World) :
    Calls Try.prog 60 #[.agg #[.int .i64 x.n, .int .i64 x.v], .agg #[.int .i64 x.n, .int .i64 x.v]] w fun e w' => e = .returned (.bool true) ∧ Below w.heap.size w w' := by
  go_enter Try.func60, Try.ntmps60
  go_wp2
  go_ret
  exact ⟨rfl, by go_grown⟩

set_option maxHeartbeats 2000000 in
theorem eqSettingS_same (A B : Option Addr) (c d : Nat) (xs : List Stg) (w : World) (h : Sees w w.heap.size A (strip stcl xs)) (h' : Sees w w.heap.size B (strip stcl xs)) (hn : xs.length ≤ 4194304) :
    Calls Try.prog 21 #[.slice A xs.length c, .slice B xs.length d] w fun e w' => e = .returned (.bool true) ∧ Below w.heap.size w w' := by
  have HN := hid hn; clear hn
  go_enter Try.func21, Try.ntmps21
  go_wp2
  go_loopw [5] (fun i wr => ∃ k : Nat, k ≤ xs.length ∧ i = .int .i64 k ∧ Below w.heap.size w wr) (fun i _ => xs.length - (intOf i).toNat)
  case atStart => exact ⟨0, Nat.zero_le _, rfl, Below.refl _ _⟩
  case round =>
    obtain ⟨k, hk, rfl, hb⟩ := hrel
    have hn := HN.out
    by_cases hlt : k < xs.length
    · have hi : (k : Int) < (xs.length : Int) := by omega
      obtain ⟨b, o, rfl, hbl, hc⟩ := Sees.elem stcl_len (by decide) (h.below hb) hlt
      obtain ⟨b', o', rfl, hbl', hc'⟩ := Sees.elem stcl_len (by decide) (h'.below hb) hlt
      obtain ⟨x, hx⟩ : ∃ x, x = xs[k] := ⟨_, rfl⟩
      rw [← hx] at hc hc'
      clear hx
      have e0 : wr.cell? ⟨b, o + k * 2, none⟩ = some (.int .i64 x.n) := by simpa [Nat.add_assoc] using hc 0 _ rfl
      have e1 : wr.cell? ⟨b, o + k * 2 + 1, none⟩ = some (.int .i64 x.v) := by simpa [Nat.add_assoc] using hc 1 _ rfl
      have f0 : wr.cell? ⟨b', o' + k * 2, none⟩ = some (.int .i64 x.n) := by simpa [Nat.add_assoc] using hc' 0 _ rfl
      have f1 : wr.cell? ⟨b', o' + k * 2 + 1, none⟩ = some (.int .i64 x.v) := by simpa [Nat.add_assoc] using hc' 1 _ rfl
      clear hc hc'
      have hbd : Below w.heap.size w wr.drew := hb.drew
      go_wp2_with fail
      go_region_held3 (fun w' => w'.cell? ⟨b, o + k * 2, none⟩ = some (.int .i64 x.n) ∧ w'.cell? ⟨b, o + k * 2 + 1, none⟩ = some (.int .i64 x.v) ∧ w'.cell? ⟨b', o' + k * 2, none⟩ = some (.int .i64 x.n) ∧ w'.cell? ⟨b', o' + k * 2 + 1, none⟩ = some (.int .i64 x.v))
        (first | with_reducible exact ⟨e0, e1, f0, f1⟩ | with_reducible exact ⟨p0, p1, q0, q1⟩ | go_keep)
        (first
          | (go_at_call 60; (with_reducible refine (eqSetting_same x _).mono ?_); rintro e w2 ⟨rfl, hb2⟩; have hbw2 := hbd.trans (hb2.mono hbd.size); obtain ⟨hk1, _⟩ := below_cell hb2; have hlt2 := (show b < wr.drew.heap.size from Nat.lt_of_lt_of_le hbl hbd.size); have hlt3 := (show b' < wr.drew.heap.size from Nat.lt_of_lt_of_le hbl' hbd.size); have p0 := (hk1 b (o + k * 2) hlt2).trans e0; have p1 := (hk1 b (o + k * 2 + 1) hlt2).trans e1; have q0 := (hk1 b' (o' + k * 2) hlt3).trans f0; have q1 := (hk1 b' (o' + k * 2 + 1) hlt3).trans f1; clear hk1))
      all_goals
        go_wp2
        go_roundw
        case rel => exact ⟨k + 1, by omega, by go_num, hbw2⟩
        case measure => simp [intOf]; omega
    · have hi : ¬ (k : Int) < (xs.length : Int) := by omega
      go_wp2
      go_ret
      exact ⟨rfl, hb⟩

set_option maxHeartbeats 4000000 in
theorem markSettingS_any (base : Nat) (A : Option Addr) (c : Nat) (ys : List Stg) (w : World) (h : OwnS 76 2 stcl w base (.slice A ys.length c) ys) (hn : ys.length ≤ 4194304) :
    Calls Try.prog 24 #[.slice A ys.length c, .int .i64 1] w fun e w' => e = .returned (.int .i64 (1 + 2 * ys.length)) ∧ OwnS 76 2 stcl w' base (.slice A ys.length c) (Stg.marks ys.length) ∧ w.grownBy w' (Value.slice A ys.length c).ownBlock := by
  have HN := hid hn; clear hn
  rcases hv : A with _ | ⟨g, o, spot⟩
  · subst hv
    have hl : ys.length = 0 := by
      rcases h.2 with ⟨_, e⟩ | ⟨_, _, _, e, _⟩
      · exact e
      · cases e
    have hys : ys = [] := List.eq_nil_of_length_eq_zero hl
    subst hys
    go_enter Try.func24, Try.ntmps24
    go_wp2
    go_loopw [1, 5] (fun m i wr => m = .int .i64 1 ∧ i = .int .i64 0 ∧ wr = w) (fun _ _ _ => 0)
    case atStart => exact ⟨rfl, rfl, rfl⟩
    case round =>
      obtain ⟨rfl, rfl, rfl⟩ := hrel
      go_wp2
      go_ret
      exact ⟨by simp, h, grown_refl _ _⟩
  · have ho0 : o = 0 ∧ spot = none := by
      rcases h.2 with ⟨e, _⟩ | ⟨g', cap, cur, e, _⟩
      · rw [hv] at e; cases e
      · rw [hv] at e
        injection e with e1 e2 e3
        injection e1 with e1
        injection e1 with e1 e4 e5
        exact ⟨e4, e5⟩
    obtain ⟨rfl, rfl⟩ := ho0
    subst hv
    go_enter Try.func24, Try.ntmps24
    go_wp2
    go_loopw [1, 5] (fun m i wr => ∃ k : Nat, k ≤ ys.length ∧ m = .int .i64 (1 + 2 * k) ∧ i = .int .i64 k ∧ wr.ownsRow base 76 2 (.slice (some ⟨g, 0, none⟩) ys.length c) ys.length (strip stcl (Stg.marked k ys)) ∧ w.grownBy wr (some g)) (fun _ i _ => ys.length - (intOf i).toNat)
    case atStart => exact ⟨0, Nat.zero_le _, rfl, rfl, by rw [Stg.marked_zero]; exact h, grown_refl _ _⟩
    case round =>
      obtain ⟨k, hk, rfl, rfl, ho, hg⟩ := hrel
      have hn := HN.out
      by_cases hlt : k < ys.length
      · have hi : (k : Int) < (ys.length : Int) := by omega
        have hlen : k < (Stg.marked k ys).length := by rw [Stg.marked_len hk]; exact hlt
        obtain ⟨u0, u1⟩ := setting_at ho hlen
        have hfr := row_thaw ho
        have hput := setting_put ho hlen (Stg.mk_ k)
        rw [Stg.marked_set hlt] at hput
        have HP := hid hput
        clear hput ho
        have hw0 : IntKind.i64.wrap (1 + 2 * (k : Int) + 1) = 1 + 2 * (k : Int) + 1 := by rw [IntKind.wrap_i64]; omega
        have hw1 : IntKind.i64.wrap (1 + 2 * (k : Int) + 1 + 1) = 1 + 2 * (k : Int) + 2 := by rw [IntKind.wrap_i64]; omega
        go_wp2
        go_roundw
        case rel => exact ⟨k + 1, by omega, by go_num, by go_num, HP.out, grown_trans (grown_trans hg (grown_set _ _ _ _)) (grown_set _ _ _ _)⟩
        case measure => simp [intOf]; omega
      · have hi : ¬ (k : Int) < (ys.length : Int) := by omega
        rw [Stg.marked_all hlt hk] at ho
        have hke : (k : Int) = (ys.length : Int) := by omega
        go_wp2
        go_ret
        exact ⟨by simp, by unfold OwnS; rw [Stg.marks_len]; exact ho, hg⟩

set_option maxHeartbeats 4000000 in
theorem heldSettingS_any (A : Option Addr) (m c : Nat) (w : World) {B : Nat} (h : Sees w B A (strip stcl (Stg.marks m))) (hn : m ≤ 4194304) :
    Calls Try.prog 25 #[.slice A m c, .int .i64 1] w fun e w' => e = .returned (.int .i64 (1 + 2 * m)) ∧ w = w' := by
  have HN := hid hn; clear hn
  go_enter Try.func25, Try.ntmps25
  go_wp2
  go_loopw [1, 5] (fun v i wr => ∃ k : Nat, k ≤ m ∧ v = .int .i64 (1 + 2 * k) ∧ i = .int .i64 k ∧ wr = w) (fun _ i _ => m - (intOf i).toNat)
  case atStart => exact ⟨0, Nat.zero_le _, rfl, rfl, rfl⟩
  case round =>
    obtain ⟨k, hk, rfl, rfl, rfl⟩ := hrel
    have hn := HN.out
    by_cases hlt : k < m
    · have hi : (k : Int) < (m : Int) := by omega
      obtain ⟨b, o, rfl, _, hc⟩ := Sees.elem stcl_len (by decide) h (k := k) (by rw [Stg.marks_len]; exact hlt)
      rw [Stg.marks_at] at hc
      have e0 : wr.cell? ⟨b, o + k * 2, none⟩ = some (.int .i64 (1 + 2 * (k : Int))) := by simpa [Nat.add_assoc, Stg.mk_] using hc 0 _ rfl
      have e1 : wr.cell? ⟨b, o + k * 2 + 1, none⟩ = some (.int .i64 (1 + 2 * (k : Int) + 1)) := by simpa [Nat.add_assoc, Stg.mk_] using hc 1 _ rfl
      clear hc
      have hw0 : IntKind.i64.wrap (1 + 2 * (k : Int) + 1) = 1 + 2 * (k : Int) + 1 := by rw [IntKind.wrap_i64]; omega
      have hw1 : IntKind.i64.wrap (1 + 2 * (k : Int) + 1 + 1) = 1 + 2 * (k : Int) + 2 := by rw [IntKind.wrap_i64]; omega
      go_wp2
      go_roundw
      case rel => exact ⟨k + 1, by omega, by go_num, by go_num, by trivial⟩
      case measure => simp [intOf]; omega
    · have hke : (k : Int) = (m : Int) := by omega
      have hi : ¬ (k : Int) < (m : Int) := by omega
      go_wp2
      go_ret
      exact ⟨by simp, by trivial⟩

end Go.Proofs.Ytehdbllpiokbnaa

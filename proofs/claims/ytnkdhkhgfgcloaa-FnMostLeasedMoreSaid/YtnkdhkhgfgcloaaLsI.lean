/-
  What BusyAt answers, the program's and the model's. Condition: the list lies in memory.
-/
import Derived.Test.YtnkdhkhgfgcloaaLsE
import Derived.Test.YtnkdhkhgfgcloaaOwnI
namespace Go.Proofs.Ytnkdhkhgfgcloaa
open Go.RowKit Lse

/-- The connections below n that somebody has at time t. -/
def busyTo (l : List L) (t : Int) (n : Nat) : List Int := ((List.range n).filter fun (c : Nat) => decide (ownerAt l (c : Int) t ≠ -1)).map fun (c : Nat) => (c : Int)
def busy (l : List L) (t : Int) : List Int := busyTo l t 6
theorem busyTo_succ (l : List L) (t : Int) (n : Nat) : busyTo l t (n + 1) = busyTo l t n ++ if ownerAt l n t = -1 then [] else [(n : Int)] := by
  unfold busyTo
  rw [List.range_succ, List.filter_append, List.map_append]
  by_cases h : ownerAt l n t = -1 <;> simp [h]
theorem busyTo_len (l : List L) (t : Int) (n : Nat) : (busyTo l t n).length ≤ n := by
  unfold busyTo
  rw [List.length_map]
  exact Nat.le_trans (List.length_filter_le _ _) (by simp)
theorem busy_len (l : List L) (t : Int) : (busy l t).length ≤ 6 := busyTo_len l t 6
theorem busy_no {l : List L} (h : validB l = false) (t : Int) : busy l t = [] := by
  have : ∀ n, busyTo l t n = [] := fun n => by
    induction n with
    | zero => rfl
    | succ n ih => rw [busyTo_succ, ih, if_pos (by simp [ownerAt, h])]; rfl
  exact this 6
/-- How many of these leases have the connection then, as so many signs of it. -/
def same (l : List L) (q t : Int) : List Int := (l.filter fun x => hasAt x q t).map fun _ => q
theorem same_nil (q t : Int) : same [] q t = [] := rfl
theorem same_take {l : List L} {k : Nat} (hk : k < l.length) (q t : Int) : same (l.take (k + 1)) q t = same (l.take k) q t ++ if hasAt l[k] q t = true then [q] else [] := by
  unfold same
  rw [List.take_succ_eq_append_getElem hk, List.filter_append, List.map_append]
  by_cases h : hasAt l[k] q t = true <;> simp [h]
theorem same_len (l : List L) (q t : Int) : (same l q t).length ≤ l.length := by
  unfold same; rw [List.length_map]; exact List.length_filter_le _ _
theorem same_fine {l : List L} (h : Fine l) (q t : Int) : same l q t = if first l q t = -1 then [] else [q] := by
  induction l with
  | nil => rfl
  | cons x l ih =>
    have hl : Fine l := h.sub (by simp)
    by_cases hx : hasAt x q t = true
    · have hno : ∀ y ∈ l, hasAt y q t = false := fun y m => by
        rw [Bool.eq_false_iff]
        intro hy
        have hp := (List.pairwise_cons.1 h.2).1 y m
        obtain ⟨a1, a2, a3⟩ := hasAt_iff.1 hx
        obtain ⟨b1, b2, b3⟩ := hasAt_iff.1 hy
        exact hp ⟨by omega, by omega, by omega⟩
      have hs : same l q t = [] := by unfold same; rw [List.filter_eq_nil_iff.2 (fun y m => by simp [hno y m])]; rfl
      have ho := L.ok_iff.1 (h.1 x (by simp))
      have h1 : same (x :: l) q t = q :: same l q t := by unfold same; simp [hx]
      have h2 : first (x :: l) q t = x.o := by simp [first, hx]
      rw [h1, hs, h2, if_neg (by omega)]
    · have h1 : same (x :: l) q t = same l q t := by unfold same; simp [hx]
      have h2 : first (x :: l) q t = first l q t := by simp [first, hx]
      rw [h1, h2, ih hl]
theorem busy_step {l : List L} (h : validB l = true) (t : Int) (n : Nat) : busyTo l t n ++ same l n t = busyTo l t (n + 1) := by
  rw [busyTo_succ, same_fine (validB_iff.1 h).2]
  have : ownerAt l n t = first l n t := by simp [ownerAt, h]
  rw [this]

set_option maxHeartbeats 2000000 in
theorem iBusyAt_any (A : Option Addr) (c : Nat) (l : List L) (t : Int) (w : World) (h : Sees w w.heap.size A (lvals l)) (hc : l.length ≤ c) (hn : l.length ≤ 4194304) :
    Calls Try.prog 22 #[.slice A l.length c, .int .i64 t] w fun e w' => ∃ v, e = .returned v ∧ Own w' w.heap.size v (busy l t) ∧ Below w.heap.size w w' := by
  obtain ⟨i0, hi0, hz0, hz1, hz2⟩ := info_parts intInfo
  have HN := hid hn; clear hn
  have HC := hid hc; clear hc
  go_enter Try.func22, Try.ntmps22
  go_wp2
  go_loopw [5, 6] (fun v i wr => ∃ k : Nat, k ≤ 6 ∧ i = .int .i64 k ∧ Own wr w.heap.size v (busyTo l t k) ∧ Below w.heap.size w wr) (fun _ i _ => 6 - (intOf i).toNat)
  case atStart => exact ⟨0, Nat.zero_le _, rfl, Own.none_ _ _, Below.refl _ _⟩
  case round =>
    obtain ⟨k, hk, rfl, ho, hb⟩ := hrel
    by_cases hlt : k < 6
    · have hi : (k : Int) < 6 := by omega
      have HS := hid (busyTo_succ l t k)
      have hlen := busyTo_len l t k
      obtain ⟨B, hB⟩ : ∃ B, B = busyTo l t k := ⟨_, rfl⟩
      rw [← hB] at hlen ho HS
      clear hB
      rcases hx : (ownerAt l k t != -1) with _ | _
      · have HX : Hid (busyTo l t (k + 1) = B) := hid (by rw [HS.out, if_pos (by simpa using hx), List.append_nil])
        have HO := hid hx
        go_wp2_with fail
        refine (iOwnerAt_any A c l k t _ ((h.below hb).more hb.size) HC.out HN.out).mono ?_
        rintro e w1 ⟨rfl, hb1⟩
        have hb2 := hb.trans (hb1.mono hb.size)
        have ho2 := ho.below hb1
        go_wp2
        go_roundw
        case rel => exact ⟨k + 1, by omega, by go_num, by rw [HX.out]; exact ho2, hb2⟩
        case measure => simp [intOf]; omega
      · have HX : Hid (busyTo l t (k + 1) = B ++ [(k : Int)]) := hid (by rw [HS.out, if_neg (by simpa using hx)])
        go_wp2_with fail
        refine (iOwnerAt_any A c l k t _ ((h.below hb).more hb.size) HC.out HN.out).mono ?_
        rintro e w1 ⟨rfl, hb1⟩
        have hb2 := hb.trans (hb1.mono hb.size)
        have ho2 := ho.below hb1
        have hz := hb2.size
        clear hb1 ho hb
        go_wp2_with (at_builtin; refine wpList_append_own _ rfl _ _ 34 rfl w.heap.size 3 i0 (.int .i64 0) 1 8 Try.underlying34 hi0 hz0 hz1 hz2 rfl (by decide) _ _ _ rfl (ho2.out.alloc _) ⟨w1.heap.size, 0, none⟩ 1 1 [.int .i64 k] rfl rfl (cell_one_new _ _ _) ?c2 ?c3 ?c4 ?c5 ?_)
        case c2 => simp [Value.oneCell']
        case c3 => unfold maxLen; omega
        case c4 => omega
        case c5 => simp; omega
        case _ =>
          intro v1 w3 h1 hg1 _
          obtain ⟨ho1, hb1⟩ := ho2.snoc hb2 (Nat.le_refl _) h1 hg1
          clear h1 hg1
          go_wp2
          go_roundw
          case rel => exact ⟨k + 1, by omega, by go_num, by rw [HX.out]; exact ho1, hb1⟩
          case measure => simp [intOf]; omega
    · have hi : ¬ (k : Int) < 6 := by omega
      have he : k = 6 := by omega
      subst he
      go_wp2
      go_ret
      exact ⟨_, rfl, ho, hb⟩

set_option maxHeartbeats 4000000 in
theorem sbusyAt_any (A : Option Addr) (c : Nat) (l : List L) (t : Int) (w : World) (h : Sees w w.heap.size A (lvals l)) (hv : validB l = true) :
    Calls Try.prog 51 #[.slice A l.length c, .int .i64 t] w fun e w' => ∃ v, e = .returned v ∧ Own w' w.heap.size v (busy l t) ∧ Below w.heap.size w w' := by
  obtain ⟨i0, hi0, hz0, hz1, hz2⟩ := info_parts intInfo
  have HV := hid hv
  have hn := (validB_iff.1 hv).1
  clear hv
  have ho0 := Own.made w w.heap.size (Nat.le_refl _)
  have hb0 := (Below.refl w.heap.size w).alloc (Nat.le_refl _) (.cells #[] 3)
  go_enter Try.func51, Try.ntmps51
  go_wp2
  go_loopw [5, 6] (fun v i wr => ∃ k : Nat, k ≤ 6 ∧ i = .int .i64 k ∧ Own wr w.heap.size v (busyTo l t k) ∧ Below w.heap.size w wr) (fun _ i _ => 6 - (intOf i).toNat)
  case atStart => exact ⟨0, Nat.zero_le _, rfl, ho0, hb0⟩
  case round =>
    clear ho0 hb0
    obtain ⟨k, hk, rfl, ho, hb⟩ := hrel
    by_cases hlt : k < 6
    · have hi : (k : Int) < 6 := by omega
      have HS := hid (busy_step HV.out t k)
      have hlen := busyTo_len l t k
      obtain ⟨B, hB⟩ : ∃ B, B = busyTo l t k := ⟨_, rfl⟩
      rw [← hB] at hlen ho HS
      clear hB
      go_wp2
      go_loopw [5, 7] (fun v i wr => ∃ j : Nat, j ≤ l.length ∧ i = .int .i64 j ∧ Own wr w.heap.size v (B ++ same (l.take j) k t) ∧ Below w.heap.size w wr) (fun _ i _ => l.length - (intOf i).toNat)
      case atStart => exact ⟨0, Nat.zero_le _, rfl, by rw [List.take_zero, same_nil, List.append_nil]; exact ho, hb⟩
      case round =>
        obtain ⟨j, hj, rfl, hoj, hbj⟩ := hrel
        by_cases hjl : j < l.length
        · have hji : (j : Int) < (l.length : Int) := by omega
          obtain ⟨b, o, rfl, hbl, e0, e1, e2, e3⟩ := (h.below hbj).lease hjl
          have hz := hbj.size
          have HJS := hid (same_take hjl k t)
          have hsl : (B ++ same (l.take j) k t).length ≤ 18 := by
            have := same_len (l.take j) k t
            have h3 : (l.take j).length ≤ 12 := by rw [List.length_take]; omega
            rw [List.length_append]; omega
          obtain ⟨C, hC⟩ : ∃ C, C = same (l.take j) k t := ⟨_, rfl⟩
          rw [← hC] at hsl hoj HJS
          clear hC
          obtain ⟨D, hD⟩ : ∃ D, D = B ++ C := ⟨_, rfl⟩
          have HJD : Hid (B ++ same (l.take (j + 1)) k t = D ++ if hasAt l[j] k t = true then [(k : Int)] else []) := hid (by rw [HJS.out, hD, List.append_assoc])
          rw [← hD] at hsl hoj
          clear hD HJS
          have hok := L.ok_iff.1 (ok_of hjl HV.out)
          obtain ⟨x, hx⟩ : ∃ x, x = l[j] := ⟨_, rfl⟩
          rw [← hx] at e0 e1 e2 e3 HJD hok
          clear hx
          obtain ⟨_, _, _, _, g5, g6, g7⟩ := hok
          have hwr : IntKind.i64.wrap (x.u - 1) = x.u - 1 := by rw [IntKind.wrap_i64]; omega
          have HW := hid hwr
          clear hwr
          rcases d1 : (x.c == (k : Int)) with _ | _
          · have HX := hid (HJD.out.trans (by rw [if_neg (by rw [hasAt_iff]; rintro ⟨r, _⟩; exact absurd r (by simpa using d1)), List.append_nil]))
            go_wp2
            go_quiet (fail)
            go_wp2
            go_roundw
            case rel => exact ⟨j + 1, by omega, by go_num, by rw [HX.out]; exact hoj, below_drewN hbj _⟩
            case measure => simp [intOf]; omega
          · rcases d2 : inB t x.f (x.u - 1) with _ | _
            · have HX := hid (HJD.out.trans (by rw [if_neg (by rw [hasAt_iff]; rintro ⟨_, r1, r2⟩; rw [Bool.eq_false_iff] at d2; exact d2 (inB_iff.2 ⟨r1, by omega⟩)), List.append_nil]))
              have HD := hid d2
              clear d2
              go_wp2
              have hwr := HW.out
              go_quiet ((go_at_call 34; exact Calls.quiet_of_same ((inRange_any _ _ _ _).mono fun _ _ ⟨he, hw⟩ => ⟨by rw [he, HD.out], hw.symm⟩)))
              go_wp2
              go_roundw
              case rel => exact ⟨j + 1, by omega, by go_num, by rw [HX.out]; exact hoj, below_drewN hbj _⟩
              case measure => simp [intOf]; omega
            · have hd := inB_iff.1 d2
              have HX := hid (HJD.out.trans (by rw [if_pos (hasAt_iff.2 ⟨by simpa using d1, by omega, by omega⟩)]))
              have HD := hid d2
              clear d2 hd
              go_wp2
              have hwr := HW.out
              go_quiet ((go_at_call 34; exact Calls.quiet_of_same ((inRange_any _ _ _ _).mono fun _ _ ⟨he, hw⟩ => ⟨by rw [he, HD.out], hw.symm⟩)))
              clear hwr e0 e1 e2 e3
              have hoq : Own (wr.drewN nq) w.heap.size _ D := hoj
              have hbq := below_drewN hbj nq
              have hzq := hbq.size
              go_wp2_with (at_builtin; refine wpList_append_own _ rfl _ _ 34 rfl w.heap.size 3 i0 (.int .i64 0) 1 8 Try.underlying34 hi0 hz0 hz1 hz2 rfl (by decide) _ _ _ rfl (hoq.out.alloc _) ⟨wr.heap.size, 0, none⟩ 1 1 [.int .i64 k] rfl rfl (cell_one_new _ _ _) ?c2 ?c3 ?c4 ?c5 ?_)
              case c2 => simp [Value.oneCell']
              case c3 => unfold maxLen; omega
              case c4 => omega
              case c5 => simp; omega
              case _ =>
                intro v1 w3 h1 hg1 _
                obtain ⟨ho1, hb1⟩ := hoq.snoc hbq (Nat.le_refl _) h1 hg1
                clear h1 hg1
                go_wp2
                go_roundw
                case rel => exact ⟨j + 1, by omega, by go_num, by rw [HX.out]; exact ho1, hb1⟩
                case measure => simp [intOf]; omega
        · have hji : ¬ (j : Int) < (l.length : Int) := by omega
          rw [take_whole hjl, HS.out] at hoj
          go_wp2
          go_roundw
          case rel => exact ⟨k + 1, by omega, by go_num, hoj, hbj⟩
          case measure => simp [intOf]; omega
    · have hi : ¬ (k : Int) < 6 := by omega
      have he : k = 6 := by omega
      subst he
      go_wp2
      go_ret
      exact ⟨_, rfl, ho, hb⟩

set_option maxHeartbeats 2000000 in
theorem sBusyAt_any (A : Option Addr) (c : Nat) (l : List L) (t : Int) (w : World) (h : Sees w w.heap.size A (lvals l)) (hn : l.length ≤ 4194304) :
    Calls Try.prog 28 #[.slice A l.length c, .int .i64 t] w fun e w' => ∃ v, e = .returned v ∧ Own w' w.heap.size v (busy l t) ∧ Below w.heap.size w w' := by
  have HN := hid hn; clear hn
  rcases hv : validB l with _ | _
  · have E := hid (busy_no hv t)
    have HV := hid hv
    clear hv
    go_enter Try.func28, Try.ntmps28
    go_wp2_with fail
    refine (svalidLeases_any A c l _ h HN.out).mono ?_
    rintro e w1 ⟨he, hb1⟩
    rw [HV.out] at he
    subst he
    go_wp2
    go_ret
    exact ⟨_, rfl, by rw [E.out]; exact Own.none_ _ _, hb1⟩
  · have HV := hid hv
    clear hv
    go_enter Try.func28, Try.ntmps28
    go_wp2_with fail
    refine (svalidLeases_any A c l _ h HN.out).mono ?_
    rintro e w1 ⟨he, hb1⟩
    rw [HV.out] at he
    subst he
    go_wp2_with fail
    refine (sbusyAt_any A c l t _ ((h.below hb1).more hb1.size) HV.out).mono ?_
    rintro e w2 ⟨v, rfl, ho2, hb2⟩
    go_wp2
    go_ret
    exact ⟨_, rfl, ho2.mono hb1.size, hb1.trans (hb2.mono hb1.size)⟩

end Go.Proofs.Ytnkdhkhgfgcloaa

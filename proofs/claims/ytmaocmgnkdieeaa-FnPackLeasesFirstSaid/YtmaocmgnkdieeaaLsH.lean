/-
  What AddLease and BusyAt answer, the program's and the model's. Condition: the list lies in memory.
-/
import Derived.Test.YtmaocmgnkdieeaaLsE
import Derived.Test.YtmaocmgnkdieeaaSsLease
import Derived.Test.YtmaocmgnkdieeaaApp
import Derived.Test.YtmaocmgnkdieeaaOwnI
import Derived.Deep.RegionHeldLaw
namespace Go.Proofs.Ytmaocmgnkdieeaa
open Go.RowKit Lse

abbrev OwnL (w : World) (base : Nat) (v : Value) (l : List L) : Prop := OwnS 30 4 lcells w base v l
def addB (l : List L) (x : L) : Bool := validB l && validB (l ++ [x])
def addL (l : List L) (x : L) : List L := if addB l x = true then l ++ [x] else []
theorem add_no {l : List L} {x : L} (h : addB l x = false) : addL l x = [] := by unfold addL; rw [h]; rfl
theorem add_yes {l : List L} {x : L} (h : addB l x = true) : addL l x = l ++ [x] := by unfold addL; rw [h]; rfl
theorem addL_len (l : List L) (x : L) : (addL l x).length ≤ l.length + 1 := by unfold addL; split <;> simp
theorem valid_len {l : List L} (h : validB l = true) : l.length ≤ 12 := (validB_iff.1 h).1
theorem strip_take_succ {l : List L} {k : Nat} (hk : k < l.length) : l.take (k + 1) = l.take k ++ [l[k]] := List.take_succ_eq_append_getElem hk

theorem ret_pair {v : Value} {a b : Bool} (h : a = b) : Ending.returned (.tuple #[v, .bool a]) = .returned (.tuple #[v, .bool b]) := by rw [h]

theorem iValidLeases_len {A : Option Addr} {n c : Nat} {l : List L} {w : World} (hl : l.length = n) (h : Sees w w.heap.size A (lvals l)) (hc : l.length ≤ c) (hn : l.length ≤ 4194304) :
    Calls Try.prog 11 #[.slice A n c] w fun e w' => e = .returned (.bool (validB l)) ∧ Below w.heap.size w w' := by
  subst hl; exact iValidLeases_any A c l w h hc hn
theorem svalidLeases_len {A : Option Addr} {n c : Nat} {l : List L} {w : World} (hl : l.length = n) (h : Sees w w.heap.size A (lvals l)) (hn : l.length ≤ 4194304) :
    Calls Try.prog 17 #[.slice A n c] w fun e w' => e = .returned (.bool (validB l)) ∧ Below w.heap.size w w' := by
  subst hl; exact svalidLeases_any A c l w h hn
set_option maxHeartbeats 2000000 in
theorem copyLeases_any (A : Option Addr) (c : Nat) (l : List L) (w : World) (h : Sees w w.heap.size A (lvals l)) (hn : l.length ≤ 4194304) :
    Calls Try.prog 14 #[.slice A l.length c] w fun e w' => ∃ v, e = .returned v ∧ OwnL w' w.heap.size v l ∧ Below w.heap.size w w' := by
  obtain ⟨i0, hi0, hz0, hz1, hz2⟩ := info_parts leaseInfo
  have HN := hid hn
  clear hn
  go_enter Try.func14, Try.ntmps14
  go_wp2
  go_loopw [3, 8] (fun v i wr => ∃ k : Nat, k ≤ l.length ∧ i = .int .i64 k ∧ OwnL wr w.heap.size v (l.take k) ∧ Below w.heap.size w wr) (fun _ i _ => l.length - (intOf i).toNat)
  case atStart => exact ⟨0, Nat.zero_le _, rfl, OwnS.none_ _ _, Below.refl _ _⟩
  case round =>
    obtain ⟨k, hk, rfl, ho, hb⟩ := hrel
    have hn := HN.out
    by_cases hlt : k < l.length
    · have hi : (k : Int) < (l.length : Int) := by omega
      obtain ⟨b, o, rfl, hbl, e0, e1, e2, e3⟩ := (h.below hb).lease hlt
      have hz := hb.size
      have hbw : b < wr.heap.size := by omega
      have HS := hid (strip_take_succ hlt)
      have hkl : (l.take k).length ≤ 4194304 := by rw [List.length_take]; omega
      have HKK := hid (show (l.take k).length = k by rw [List.length_take]; omega)
      obtain ⟨y, hy⟩ : ∃ y, y = l[k] := ⟨_, rfl⟩
      rw [← hy] at e0 e1 e2 e3 HS
      clear hy
      go_wp2_with (at_builtin; refine wpList_append_own _ rfl _ _ 23 rfl w.heap.size 30 i0 (.agg #[.int .i64 0, .int .i64 0, .int .i64 0, .int .i64 0]) 4 32 Try.underlying23 hi0 hz0 hz1 hz2 rfl (by decide) _ _ _ rfl ((ho.alloc _).alloc _).out ⟨wr.heap.size + 1, 0, none⟩ 1 1 [.int .i64 y.c, .int .i64 y.o, .int .i64 y.f, .int .i64 y.u] rfl rfl (by simpa using cells_new (wr.alloc (.cells #[.int .i64 y.c, .int .i64 y.o, .int .i64 y.f, .int .i64 y.u] 30)) [.int .i64 y.c, .int .i64 y.o, .int .i64 y.f, .int .i64 y.u] 30) ?c2 ?c3 ?c4 ?c5 ?_)
      case c2 => simp [Value.oneCell']
      case c3 => unfold maxLen; omega
      case c4 => omega
      case c5 => first | omega | (simp; omega)
      case _ =>
        intro v1 w2 h1 hg1 _
        have ho' := ho.alloc (.cells #[.int .i64 y.c, .int .i64 y.o, .int .i64 y.f, .int .i64 y.u] 30)
        have hba := hb.alloc hb.size (.cells #[.int .i64 y.c, .int .i64 y.o, .int .i64 y.f, .int .i64 y.u] 30)
        obtain ⟨ho1, hb1⟩ := ho'.snoc (x := y) hba (Nat.le_refl _) (by first | exact h1 | (rw [HKK.out]; exact h1)) hg1
        rw [← HS.out] at ho1
        clear h1 hg1 ho' hba
        go_wp2
        go_roundw
        case rel => exact ⟨k + 1, by omega, by go_num, ho1, hb1⟩
        case measure => simp [intOf]; omega
    · have hi : ¬ (k : Int) < (l.length : Int) := by omega
      rw [take_whole hlt] at ho
      go_wp2
      go_ret
      exact ⟨_, rfl, ho, hb⟩

set_option maxHeartbeats 4000000 in
theorem sAddLease_any (A : Option Addr) (c : Nat) (l : List L) (x : L) (w : World) (h : Sees w w.heap.size A (lvals l)) (hn : l.length ≤ 2097152) :
    Calls Try.prog 31 #[.slice A l.length c, .agg #[.int .i64 x.c, .int .i64 x.o, .int .i64 x.f, .int .i64 x.u]] w fun e w' => ∃ v, e = .returned (.tuple #[v, .bool (addB l x)]) ∧ OwnL w' w.heap.size v (addL l x) ∧ Below w.heap.size w w' := by
  obtain ⟨i0, hi0, hz0, hz1, hz2⟩ := info_parts leaseInfo
  have HN := hid hn
  clear hn
  have a0 := At.new w 30 #[.int .i64 x.c, .int .i64 x.o, .int .i64 x.f, .int .i64 x.u]
  have hb0 := (Below.refl w.heap.size w).alloc (Nat.le_refl _) (.cells #[.int .i64 x.c, .int .i64 x.o, .int .i64 x.f, .int .i64 x.u] 30)
  obtain ⟨x0, x1, x2, x3⟩ := (show _ ∧ _ ∧ _ ∧ _ from ⟨a0.cell 0, a0.cell 1, a0.cell 2, a0.cell 3⟩)
  rcases A with _ | ad
  · have e := h.none_nil
    have e : l = [] := by cases l with
      | nil => rfl
      | cons y l => simp [lvals, lcells] at e
    subst e
    have HN := hid (show ([] : List L).length ≤ 2097152 by simp)
    obtain ⟨l, hl⟩ : ∃ l : List L, l = [] := ⟨_, rfl⟩
    go_enter Try.func31, Try.ntmps31
    go_wp2_with fail
    go_region_law (first
      | (refine step_append_own _ (by rfl) _ _ 23 (by rfl) (w.heap.size + 1) 30 i0 (.agg #[.int .i64 0, .int .i64 0, .int .i64 0, .int .i64 0]) 4 32 Try.underlying23 hi0 hz0 hz1 hz2 rfl (by decide) (.slice (some ⟨w.heap.size + 1, 0, none⟩) 0 0) 0 [] (by rfl) (own_alloc (made_at 30 4 (by simp) (by simp)) _) ⟨w.heap.size + 2, 0, none⟩ 1 1 [.int .i64 x.c, .int .i64 x.o, .int .i64 x.f, .int .i64 x.u] (by rfl) (by rfl) ((At.newAt 30 _ (by simp)).drew.news) (by simp [Value.oneCell']) (by decide) (by decide) (by simp; try omega) ?_; intro v2 w2 h2 hg2; have hbn : Below w.heap.size w w2 := Below.grown (by go_grown) hg2 (by simp; try omega) (fun k hk => by injection hk with hk; exact Nat.le_of_lt (Nat.lt_of_lt_of_eq (Nat.lt_succ_self _) hk)))
      | (refine step_append_own _ (by rfl) _ _ 23 (by rfl) (w.heap.size + 1) 30 i0 (.agg #[.int .i64 0, .int .i64 0, .int .i64 0, .int .i64 0]) 4 32 Try.underlying23 hi0 hz0 hz1 hz2 rfl (by decide) (.slice (some ⟨w.heap.size + 2, 0, none⟩) 0 0) 0 [] (by rfl) (made_at 30 4 (by simp) (by simp)) ⟨w.heap.size + 1, 0, none⟩ 1 1 [.int .i64 x.c, .int .i64 x.o, .int .i64 x.f, .int .i64 x.u] (by rfl) (by rfl) (((At.newAt 30 _ (by simp)).alloc _).drew.news) (by simp [Value.oneCell']) (by decide) (by decide) (by simp; try omega) ?_; intro v2 w2 h2 hg2; have hbn : Below w.heap.size w w2 := Below.grown (by go_grown) hg2 (by simp; try omega) (fun k hk => by injection hk with hk; have hk : w.heap.size + 2 = k := hk; omega))
      | fail)
    all_goals
      have hl1 : Hid (l = []) := hid hl
      clear hl
      have e1 : 0 + 1 = (([] : List L) ++ [x]).length := by simp
      have e2 : [] ++ [.int .i64 x.c, .int .i64 x.o, .int .i64 x.f, .int .i64 x.u] = strip lcells (([] : List L) ++ [x]) := by rw [strip_snoc]; rfl
      have ho2 : OwnL w2 (w.heap.size + 1) v2 (([] : List L) ++ [x]) := by
        rw [e1, e2] at h2
        exact h2
      clear e1 e2 h2 hg2 x0 x1 x2 x3
      have hlen2 := hid (show (([] : List L) ++ [x]).length ≤ 4194304 by simp)
      obtain ⟨A2, c2, rfl, hc2, _, hs2⟩ := ho2.form
      have HC2 := hid hc2
      clear hc2
      have HV := hid (show validB ([] : List L) = true from validB_iff.2 ⟨by simp, Fine.nil⟩)
      rcases hv2 : validB (([] : List L) ++ [x]) with _ | _
      · have E : Hid (addB [] x = false) := hid (by simp only [addB, hv2, Bool.and_false])
        have E2 : Hid (addL [] x = []) := hid (add_no E.out)
        have HV2 := hid hv2
        clear hv2
        go_wp2_with fail
        refine (svalidLeases_len (l := []) rfl Sees.nil (by simp)).mono ?_
        rintro e w3 ⟨he, hb3⟩
        rw [HV.out] at he
        subst he
        have hs3 := (hs2.below hb3).more hb3.size
        go_wp2_with fail
        refine (svalidLeases_len (by simp) hs3 hlen2.out).mono ?_
        rintro e w4 ⟨he, hb4⟩
        rw [HV2.out] at he
        subst he
        have hbf := (hbn.trans (hb3.mono hbn.size)).trans (hb4.mono (hbn.trans (hb3.mono hbn.size)).size)
        go_wp2
        go_ret2
        refine ⟨_, ret_pair E.out.symm, by rw [E2.out]; exact OwnS.none_ _ _, hbf⟩
      · have E : Hid (addB [] x = true) := hid (by simp only [addB, hv2, HV.out, Bool.and_true])
        have E2 : Hid (addL [] x = [] ++ [x]) := hid (add_yes E.out)
        have HV2 := hid hv2
        clear hv2
        go_wp2_with fail
        refine (svalidLeases_len (l := []) rfl Sees.nil (by simp)).mono ?_
        rintro e w3 ⟨he, hb3⟩
        rw [HV.out] at he
        subst he
        have hs3 := (hs2.below hb3).more hb3.size
        go_wp2_with fail
        refine (svalidLeases_len (by simp) hs3 hlen2.out).mono ?_
        rintro e w4 ⟨he, hb4⟩
        rw [HV2.out] at he
        subst he
        have hbf := (hbn.trans (hb3.mono hbn.size)).trans (hb4.mono (hbn.trans (hb3.mono hbn.size)).size)
        have hof := ((ho2.below hb3).below hb4).mono (show w.heap.size ≤ w.heap.size + 1 by omega)
        go_wp2
        go_ret2
        refine ⟨_, ret_pair E.out.symm, by rw [E2.out]; exact hof, hbf⟩
  · have hs0 := h.alloc (Nat.le_refl _) (.cells #[.int .i64 x.c, .int .i64 x.o, .int .i64 x.f, .int .i64 x.u] 30)
    have HN2 := hid (show l.length ≤ maxLen by have := HN.out; unfold maxLen; omega)
    have HN3 := hid (show (0 + l.length) * 32 ≤ 140737488355328 by have := HN.out; omega)
    go_enter Try.func31, Try.ntmps31
    go_wp2_with fail
    go_region_law (first
      | (refine step_append_own _ (by rfl) _ _ 23 (by rfl) (w.heap.size + 1) 30 i0 (.agg #[.int .i64 0, .int .i64 0, .int .i64 0, .int .i64 0]) 4 32 Try.underlying23 hi0 hz0 hz1 hz2 rfl (by decide) _ 0 [] (by rfl) (by first | exact made_at 30 4 (by simp) (by simp) | exact own_alloc (made_at 30 4 (by simp) (by simp)) _) ad l.length c (lvals l) (by rfl) (lvals_len l) (by first | exact ((hs0.alloc (by simp) _).add) | exact (((hs0.alloc (by simp) _).alloc (by simp; omega) _).add)) (lcells_one l) (by simpa using HN2.out) HN3.out (by simp; try omega) ?_; intro v1 w1 h1 hg1; have hb1 := hid ((Below.refl (w.heap.size + 1) _).grown hg1 (by simp; try omega) (fun k hk => by injection hk with hk; first | exact Nat.le_of_eq hk | exact Nat.le_of_lt (Nat.lt_of_lt_of_eq (Nat.lt_succ_self _) hk))); have a1 := At.below (show At _ w.heap.size 30 #[.int .i64 x.c, .int .i64 x.o, .int .i64 x.f, .int .i64 x.u] by first | exact a0.drew.alloc _ | exact (a0.drew.alloc _).alloc _) hb1.out (Nat.lt_succ_self _); obtain ⟨y0, y1, y2, y3⟩ := (show _ ∧ _ ∧ _ ∧ _ from ⟨a1.cell 0, a1.cell 1, a1.cell 2, a1.cell 3⟩); have hbm : Below w.heap.size w w1 := (by refine Below.trans ?_ (hb1.out.mono (Nat.le_succ _)); go_grown); try (have t1 := hid (At.past (g := w.heap.size + 2) (t := 30) (cs := #[.int .i64 x.c, .int .i64 x.o, .int .i64 x.f, .int .i64 x.u]) (At.newAt 30 _ (by simp)).drew hg1 (by simp))))
      | (refine step_append_own _ (by rfl) _ _ 23 (by rfl) (w.heap.size + 1) 30 i0 (.agg #[.int .i64 0, .int .i64 0, .int .i64 0, .int .i64 0]) 4 32 Try.underlying23 hi0 hz0 hz1 hz2 rfl (by decide) v1 (0 + l.length) ([] ++ lvals l) (by rfl) (own_alloc h1 _) ⟨w1.heap.size, 0, none⟩ 1 1 [.int .i64 x.c, .int .i64 x.o, .int .i64 x.f, .int .i64 x.u] (by rfl) (by rfl) (cells_new w1 _ _) (by simp [Value.oneCell']) (by have := HN.out; unfold maxLen; omega) (by have := HN.out; omega) (by have := hb1.out.size; simp at this ⊢; omega) ?_; intro v2 w2 h2 hg2; have hbn : Below w.heap.size w w2 := (hbm.alloc hbm.size _).grown hg2 (by have := hbm.size; simp; omega) (fun k hk => Nat.le_of_lt (h1.lt k hk).1))
      | (refine step_append_own _ (by rfl) _ _ 23 (by rfl) (w.heap.size + 1) 30 i0 (.agg #[.int .i64 0, .int .i64 0, .int .i64 0, .int .i64 0]) 4 32 Try.underlying23 hi0 hz0 hz1 hz2 rfl (by decide) v1 (0 + l.length) ([] ++ lvals l) (by rfl) (h1) ⟨w.heap.size + 2, 0, none⟩ 1 1 [.int .i64 x.c, .int .i64 x.o, .int .i64 x.f, .int .i64 x.u] (by rfl) (by rfl) (t1.out.news) (by simp [Value.oneCell']) (by have := HN.out; unfold maxLen; omega) (by have := HN.out; omega) (by have := hb1.out.size; simp at this ⊢; omega) ?_; intro v2 w2 h2 hg2; have hbn : Below w.heap.size w w2 := hbm.grown hg2 hbm.size (fun k hk => Nat.le_of_lt (h1.lt k hk).1))
      | (refine step_append_own _ (by rfl) _ _ 23 (by rfl) (w.heap.size + 1) 30 i0 (.agg #[.int .i64 0, .int .i64 0, .int .i64 0, .int .i64 0]) 4 32 Try.underlying23 hi0 hz0 hz1 hz2 rfl (by decide) v1 (0 + l.length) ([] ++ lvals l) (by rfl) (h1) ⟨w.heap.size + 1, 0, none⟩ 1 1 [.int .i64 x.c, .int .i64 x.o, .int .i64 x.f, .int .i64 x.u] (by rfl) (by rfl) ((At.past (g := w.heap.size + 1) (t := 30) (cs := #[.int .i64 x.c, .int .i64 x.o, .int .i64 x.f, .int .i64 x.u]) ((At.newAt 30 _ (by simp)).alloc _).drew hg1 (by simp)).news) (by simp [Value.oneCell']) (by have := HN.out; unfold maxLen; omega) (by have := HN.out; omega) (by have := hb1.out.size; simp at this ⊢; omega) ?_; intro v2 w2 h2 hg2; have hbn : Below w.heap.size w w2 := hbm.grown hg2 hbm.size (fun k hk => Nat.le_of_lt (h1.lt k hk).1)))
    all_goals
      have e1 : 0 + l.length + 1 = (l ++ [x]).length := by simp
      have e2 : [] ++ lvals l ++ [.int .i64 x.c, .int .i64 x.o, .int .i64 x.f, .int .i64 x.u] = strip lcells (l ++ [x]) := by rw [strip_snoc]; rfl
      have ho2 : OwnL w2 (w.heap.size + 1) v2 (l ++ [x]) := by
        rw [e1, e2] at h2
        exact h2
      clear e1 e2 h2 hg2 h1 hg1 hb1 y0 y1 y2 y3 a1 x0 x1 x2 x3
      have hlen2 := hid (show (l ++ [x]).length ≤ 4194304 by have := HN.out; simp; omega)
      have hlen1 := hid (show l.length ≤ 4194304 by have := HN.out; omega)
      obtain ⟨A2, c2, rfl, hc2, _, hs2⟩ := ho2.form
      have HC2 := hid hc2
      clear hc2
      rcases hv : validB l with _ | _
      · have E : Hid (addB l x = false) := hid (by simp [addB, hv])
        have E2 : Hid (addL l x = []) := hid (add_no E.out)
        have HV := hid hv
        clear hv
        go_wp2_with fail
        refine (svalidLeases_any _ c l _ (h.on hbn (Nat.le_refl _) |>.more hbn.size) hlen1.out).mono ?_
        rintro e w3 ⟨he, hb3⟩
        rw [HV.out] at he
        subst he
        have hbf := hbn.trans (hb3.mono hbn.size)
        go_wp2
        go_ret2
        refine ⟨_, ret_pair E.out.symm, by rw [E2.out]; exact OwnS.none_ _ _, hbf⟩
      · rcases hv2 : validB (l ++ [x]) with _ | _
        · have E : Hid (addB l x = false) := hid (by simp [addB, hv2])
          have E2 : Hid (addL l x = []) := hid (add_no E.out)
          have HV := hid hv
          have HV2 := hid hv2
          clear hv hv2
          go_wp2_with fail
          refine (svalidLeases_any _ c l _ (h.on hbn (Nat.le_refl _) |>.more hbn.size) hlen1.out).mono ?_
          rintro e w3 ⟨he, hb3⟩
          rw [HV.out] at he
          subst he
          have hs3 := (hs2.below hb3).more hb3.size
          go_wp2_with fail
          refine (svalidLeases_len (by simp) hs3 hlen2.out).mono ?_
          rintro e w4 ⟨he, hb4⟩
          rw [HV2.out] at he
          subst he
          have hbf := (hbn.trans (hb3.mono hbn.size)).trans (hb4.mono (hbn.trans (hb3.mono hbn.size)).size)
          go_wp2
          go_ret2
          refine ⟨_, ret_pair E.out.symm, by rw [E2.out]; exact OwnS.none_ _ _, hbf⟩
        · have E : Hid (addB l x = true) := hid (by simp [addB, hv2, hv])
          have E2 : Hid (addL l x = l ++ [x]) := hid (add_yes E.out)
          have HV := hid hv
          have HV2 := hid hv2
          clear hv hv2
          go_wp2_with fail
          refine (svalidLeases_any _ c l _ (h.on hbn (Nat.le_refl _) |>.more hbn.size) hlen1.out).mono ?_
          rintro e w3 ⟨he, hb3⟩
          rw [HV.out] at he
          subst he
          have hs3 := (hs2.below hb3).more hb3.size
          go_wp2_with fail
          refine (svalidLeases_len (by simp) hs3 hlen2.out).mono ?_
          rintro e w4 ⟨he, hb4⟩
          rw [HV2.out] at he
          subst he
          have hbf := (hbn.trans (hb3.mono hbn.size)).trans (hb4.mono (hbn.trans (hb3.mono hbn.size)).size)
          have hof := ((ho2.below hb3).below hb4).mono (show w.heap.size ≤ w.heap.size + 1 by omega)
          rw [show (l ++ [x]).length = l.length + 1 by simp] at hof
          go_wp2
          go_ret2
          refine ⟨_, ret_pair E.out.symm, by rw [E2.out]; exact hof, hbf⟩
end Go.Proofs.Ytmaocmgnkdieeaa

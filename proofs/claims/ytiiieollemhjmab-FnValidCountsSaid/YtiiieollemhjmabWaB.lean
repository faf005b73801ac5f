/-
  What ValidCounts, CountWaits and AddCounts answer, the program's and the model's. Condition: the lists lie in memory and are at most 2^22 long.
-/
import Derived.Test.YtiiieollemhjmabWaA
import Derived.Test.YtiiieollemhjmabWithin
import Derived.Test.YtiiieollemhjmabOwnI
import Derived.Test.YtiiieollemhjmabExA
import Derived.Test.YtiiieollemhjmabApp
namespace Go.Proofs.Ytiiieollemhjmab
open Go.RowKit Wt

theorem cntB_all {l : List Int} (h : l.length = 8) : cntB l = allB l 0 100 := by
  rw [Bool.eq_iff_iff, cntB_iff, allB_iff]
  exact ⟨fun e => e.2, fun e => ⟨h, e⟩⟩
theorem cntB_none {l : List Int} (h : ¬ l.length = 8) : cntB l = false := Bool.eq_false_iff.2 fun e => h (cntB_iff.1 e).1
theorem waitsB_all {l : List Int} (h : (l.length : Int) ≤ 16) : waitsB l = allB l 0 1000 := by
  rw [Bool.eq_iff_iff, waitsB_iff, allB_iff]
  exact ⟨fun e => e.2, fun e => ⟨h, e⟩⟩
theorem waitsB_none {l : List Int} (h : ¬ (l.length : Int) ≤ 16) : waitsB l = false := Bool.eq_false_iff.2 fun e => h (waitsB_iff.1 e).1
theorem waits_at {l : List Int} (h : waitsB l = true) {k : Nat} (hk : k < l.length) : 0 ≤ l[k] ∧ l[k] ≤ 1000 := (waitsB_iff.1 h).2 _ (List.getElem_mem hk)
theorem cnts_take {l : List Int} {k : Nat} (hk : k < l.length) : cnts (l.take (k + 1)) = cnts (l.take k ++ [l[k]]) := by rw [List.take_succ_eq_append_getElem hk]
set_option maxHeartbeats 1000000 in
theorem iValidCounts_any (A : Option Addr) (c : Nat) (l : List Int) (w : World) {B : Nat} (h : Sees w B A (ints l)) (hn : l.length ≤ 4194304) :
    Calls Try.prog 16 #[.slice A l.length c] w fun e w' => e = .returned (.bool (cntB l)) ∧ w = w' := by
  have HN := hid hn
  by_cases hl : l.length = 8
  · have E := hid (cntB_all hl)
    have hl2 : ((l.length : Int) == 8) = true := by simp [hl]
    have HL := hid hl
    clear hl hn
    go_enter Try.func16, Try.ntmps16
    go_wp2_with fail
    with_reducible refine (allWithin_any A c l 0 100 _ h HN.out).mono ?_
    rintro e w' ⟨rfl, rfl⟩
    go_wp2
    go_ret
    exact ⟨ret_bool E.out.symm, rfl⟩
  · have E := hid (cntB_none hl)
    have hl2 : ((l.length : Int) == 8) = false := beq_eq_false_iff_ne.2 (by omega)
    clear hl hn
    go_enter Try.func16, Try.ntmps16
    go_wp2
    go_ret
    exact ⟨ret_bool E.out.symm, rfl⟩

set_option maxHeartbeats 1000000 in
theorem svalidCounts_any (A : Option Addr) (c : Nat) (l : List Int) (w : World) {B : Nat} (h : Sees w B A (ints l)) (hn : l.length ≤ 4194304) :
    Calls Try.prog 37 #[.slice A l.length c] w fun e w' => e = .returned (.bool (cntB l)) ∧ w = w' := by
  have HN := hid hn
  by_cases hl : l.length = 8
  · have E := hid (cntB_all hl)
    have hl2 : ((l.length : Int) == 8) = true := by simp [hl]
    have HL := hid hl
    clear hl hn
    go_enter Try.func37, Try.ntmps37
    go_wp2_with fail
    with_reducible refine (allIn_any A c l 0 100 _ h (Nat.le_trans HN.out (by decide))).mono ?_
    rintro e w' ⟨rfl, rfl⟩
    go_wp2
    go_ret
    exact ⟨ret_bool E.out.symm, rfl⟩
  · have E := hid (cntB_none hl)
    have hl2 : ((l.length : Int) == 8) = false := beq_eq_false_iff_ne.2 (by omega)
    clear hl hn
    go_enter Try.func37, Try.ntmps37
    go_wp2
    go_ret
    exact ⟨ret_bool E.out.symm, rfl⟩

set_option maxHeartbeats 1000000 in
theorem sValidCounts_any (A : Option Addr) (c : Nat) (l : List Int) (w : World) {B : Nat} (h : Sees w B A (ints l)) (hn : l.length ≤ 4194304) :
    Calls Try.prog 17 #[.slice A l.length c] w fun e w' => e = .returned (.bool (cntB l)) ∧ w = w' := by
  have HN := hid hn
  clear hn
  go_enter Try.func17, Try.ntmps17
  go_wp2_with fail
  with_reducible refine (svalidCounts_any A c l _ h HN.out).mono ?_
  rintro e w' ⟨rfl, rfl⟩
  go_wp2
  go_ret
  exact ⟨rfl, rfl⟩

/-- What CountWaits answers: counts in a list of the call's own. -/
def CwAns (l : List Int) (w : World) (e : Ending) (w' : World) : Prop := ∃ v, e = .returned v ∧ Own w' w.heap.size v (cntW l) ∧ Below w.heap.size w w'
set_option maxHeartbeats 4000000 in
theorem iCountWaits_any (A : Option Addr) (c : Nat) (l : List Int) (w : World) (h : Sees w w.heap.size A (ints l)) (hn : l.length ≤ 4194304) :
    Calls Try.prog 19 #[.slice A l.length c] w (CwAns l w) := by
  obtain ⟨i0, hi0, hz0, hz1, hz2⟩ := info_parts intInfo
  have HN := hid hn
  by_cases hl : (l.length : Int) ≤ 16
  · rcases hw : waitsB l with _ | _
    · have HW := hid ((waitsB_all hl).symm.trans hw)
      have E := hid (cntW_no hw)
      clear hw hn
      go_enter Try.func19, Try.ntmps19
      go_wp2_with fail
      with_reducible refine (allWithin_any A c l 0 1000 _ h HN.out).mono ?_
      rintro e w' ⟨he, rfl⟩
      rw [HW.out] at he
      subst he
      go_wp2
      go_ret
      exact ⟨_, rfl, by rw [E.out]; exact Own.none_ _ _, Below.refl _ _⟩
    · have HW := hid ((waitsB_all hl).symm.trans hw)
      have HV := hid hw
      have E := hid (cntW_yes hw)
      clear hw hn
      go_enter Try.func19, Try.ntmps19
      go_wp2_with fail
      with_reducible refine (allWithin_any A c l 0 1000 _ h HN.out).mono ?_
      rintro e w' ⟨he, rfl⟩
      rw [HW.out] at he
      subst he
      go_wp2_with (refine wpList_make_full _ rfl _ _ 26 rfl w.heap.size 3 i0 (.int .i64 0) 1 Try.underlying26 hi0 hz0 hz1 .i64 .i64 8 8 8 rfl rfl rfl rfl (by rw [hz2]; omega) (by unfold maxLen; omega) (Nat.le_refl _) ?_)
      case _ =>
        intro w1 h1 hg1
        have ho1 : Own w1 w.heap.size (.slice (some ⟨w.heap.size, 0, none⟩) 8 8) (cnts []) := by
          have e : List.replicate 8 (0 : Int) = cnts [] := rfl
          unfold Own
          rw [cnts_len, ← e, ← made_ints]; exact h1
        have hb1 : Below w.heap.size w w1 := (Below.refl _ _).grown hg1 (Nat.le_refl _) (fun k hk => by cases hk)
        clear h1 hg1
        go_wp2
        go_loopw [17] (fun i wr => ∃ k : Nat, k ≤ l.length ∧ i = .int .i64 k ∧ Own wr w.heap.size (.slice (some ⟨w.heap.size, 0, none⟩) 8 8) (cnts (l.take k)) ∧ Below w.heap.size w wr) (fun i _ => l.length - (intOf i).toNat)
        case atStart => exact ⟨0, Nat.zero_le _, rfl, ho1, hb1⟩
        case round =>
          clear ho1 hb1
          obtain ⟨k, hk, rfl, ho, hb⟩ := hrel
          have hn := HN.out
          by_cases hlt : k < l.length
          · obtain ⟨b, o, rfl, _, hc⟩ := (h.below hb).int hlt
            have hi : (k : Int) < (l.length : Int) := by omega
            have HB := hid (binV_yes (waits_at HV.out hlt))
            have hbr := bin_range l[k]
            have HT := hid (cnts_take hlt)
            obtain ⟨x, hx⟩ : ∃ x, x = l[k] := ⟨_, rfl⟩
            rw [← hx] at hc HB hbr HT
            clear hx
            obtain ⟨m, hm⟩ : ∃ m : Nat, bin x = m := ⟨(bin x).toNat, by omega⟩
            rw [hm] at HB hbr
            have hm8 : m < 8 := by omega
            have hmi : (m : Int) < 8 := by omega
            have HS := hid (cnts_snoc (l.take k) x hm (by rw [cnts_len]; exact hm8))
            have hm8' : m < (cnts (l.take k)).length := hm8
            have HR := hid (show (cnts (l.take k))[m] ≤ 1000000 ∧ 0 ≤ (cnts (l.take k))[m] from by
              have := cnts_in (List.getElem_mem hm8')
              have e : (l.take k).length = k := by rw [List.length_take]; omega
              rw [e] at this
              omega)
            have ho' : Own wr w.heap.size (.slice (some ⟨w.heap.size, 0, none⟩) (cnts (l.take k)).length 8) (cnts (l.take k)) := ho
            have hcell := ho'.at_ hm8'
            have hfr := ho'.thaw
            have hput := ho'.put (i := m) ((cnts (l.take k))[m] + 1)
            rw [← HS.out, ← HT.out] at hput
            obtain ⟨y, hy⟩ : ∃ y, y = (cnts (l.take k))[m] := ⟨_, rfl⟩
            rw [← hy] at hcell hput HR
            obtain ⟨hy1, hy2⟩ := HR.out
            have hw : IntKind.i64.wrap (y + 1) = y + 1 := by rw [IntKind.wrap_i64]; omega
            have HP := hid (show Own (wr.setCell ⟨w.heap.size, m, none⟩ (.int .i64 (y + 1))) w.heap.size (.slice (some ⟨w.heap.size, 0, none⟩) 8 8) (cnts (l.take (k + 1))) from hput)
            clear hy ho ho' hput HS HT HR hm hm8'
            go_wp2_with fail
            with_reducible refine (iBinOf_any x _).mono ?_
            rintro e w' ⟨he, rfl⟩
            rw [HB.out] at he
            subst he
            go_wp2
            go_roundw
            case rel => exact ⟨k + 1, by omega, by go_num, HP.out, hb.setCell (Nat.le_refl _) _⟩
            case measure => simp [intOf]; omega
          · have hi : ¬ (k : Int) < (l.length : Int) := by omega
            rw [take_whole hlt] at ho
            go_wp2
            go_ret
            exact ⟨_, rfl, by rw [E.out]; exact ho, hb⟩
  · have E := hid (cntW_no (waitsB_none hl))
    clear hn
    go_enter Try.func19, Try.ntmps19
    go_wp2
    go_ret
    exact ⟨_, rfl, by rw [E.out]; exact Own.none_ _ _, Below.refl _ _⟩

set_option maxHeartbeats 4000000 in
theorem sCountWaits_any (A : Option Addr) (c : Nat) (l : List Int) (w : World) (h : Sees w w.heap.size A (ints l)) (hn : l.length ≤ 4194304) :
    Calls Try.prog 21 #[.slice A l.length c] w (CwAns l w) := by
  obtain ⟨i0, hi0, hz0, hz1, hz2⟩ := info_parts intInfo
  have HN := hid hn
  by_cases hl : (l.length : Int) ≤ 16
  · rcases hw : waitsB l with _ | _
    · have HW := hid ((waitsB_all hl).symm.trans hw)
      have E := hid (cntW_no hw)
      clear hw hn
      go_enter Try.func21, Try.ntmps21
      go_wp2_with fail
      with_reducible refine (allIn_any A c l 0 1000 _ h (Nat.le_trans HN.out (by decide))).mono ?_
      rintro e w' ⟨he, rfl⟩
      rw [HW.out] at he
      subst he
      go_wp2
      go_ret
      exact ⟨_, rfl, by rw [E.out]; exact Own.none_ _ _, Below.refl _ _⟩
    · have HW := hid ((waitsB_all hl).symm.trans hw)
      have HV := hid hw
      have E := hid (cntW_yes hw)
      clear hw hn
      go_enter Try.func21, Try.ntmps21
      go_wp2_with fail
      with_reducible refine (allIn_any A c l 0 1000 _ h (Nat.le_trans HN.out (by decide))).mono ?_
      rintro e w' ⟨he, rfl⟩
      rw [HW.out] at he
      subst he
      go_wp2_with (refine wpList_make_full _ rfl _ _ 26 rfl w.heap.size 3 i0 (.int .i64 0) 1 Try.underlying26 hi0 hz0 hz1 .i64 .i64 8 8 8 rfl rfl rfl rfl (by rw [hz2]; omega) (by unfold maxLen; omega) (Nat.le_refl _) ?_)
      case _ =>
        intro w1 h1 hg1
        have ho1 : Own w1 w.heap.size (.slice (some ⟨w.heap.size, 0, none⟩) 8 8) (cnts []) := by
          have e : List.replicate 8 (0 : Int) = cnts [] := rfl
          unfold Own
          rw [cnts_len, ← e, ← made_ints]; exact h1
        have hb1 : Below w.heap.size w w1 := (Below.refl _ _).grown hg1 (Nat.le_refl _) (fun k hk => by cases hk)
        clear h1 hg1
        go_wp2
        go_loopw [4] (fun i wr => ∃ k : Nat, k ≤ l.length ∧ i = .int .i64 k ∧ Own wr w.heap.size (.slice (some ⟨w.heap.size, 0, none⟩) 8 8) (cnts (l.take k)) ∧ Below w.heap.size w wr) (fun i _ => l.length - (intOf i).toNat)
        case atStart => exact ⟨0, Nat.zero_le _, rfl, ho1, hb1⟩
        case round =>
          clear ho1 hb1
          obtain ⟨k, hk, rfl, ho, hb⟩ := hrel
          have hn := HN.out
          by_cases hlt : k < l.length
          · obtain ⟨b, o, rfl, _, hc⟩ := (h.below hb).int hlt
            have hi : (k : Int) < (l.length : Int) := by omega
            have hbr := bin_range l[k]
            have HT := hid (cnts_take hlt)
            obtain ⟨x, hx⟩ : ∃ x, x = l[k] := ⟨_, rfl⟩
            rw [← hx] at hc hbr HT
            clear hx
            obtain ⟨m, hm⟩ : ∃ m : Nat, bin x = m := ⟨(bin x).toNat, by omega⟩
            have HB : Hid (bin x = m) := hid hm
            rw [hm] at hbr
            have hm8 : m < 8 := by omega
            have hmi : (m : Int) < 8 := by omega
            have HS := hid (cnts_snoc (l.take k) x hm (by rw [cnts_len]; exact hm8))
            have hm8' : m < (cnts (l.take k)).length := hm8
            have HR := hid (show (cnts (l.take k))[m] ≤ 1000000 ∧ 0 ≤ (cnts (l.take k))[m] from by
              have := cnts_in (List.getElem_mem hm8')
              have e : (l.take k).length = k := by rw [List.length_take]; omega
              rw [e] at this
              omega)
            have ho' : Own wr w.heap.size (.slice (some ⟨w.heap.size, 0, none⟩) (cnts (l.take k)).length 8) (cnts (l.take k)) := ho
            have hcell := ho'.at_ hm8'
            have hfr := ho'.thaw
            have hput := ho'.put (i := m) ((cnts (l.take k))[m] + 1)
            rw [← HS.out, ← HT.out] at hput
            obtain ⟨y, hy⟩ : ∃ y, y = (cnts (l.take k))[m] := ⟨_, rfl⟩
            rw [← hy] at hcell hput HR
            obtain ⟨hy1, hy2⟩ := HR.out
            have hw : IntKind.i64.wrap (y + 1) = y + 1 := by rw [IntKind.wrap_i64]; omega
            have HP := hid (show Own (wr.setCell ⟨w.heap.size, m, none⟩ (.int .i64 (y + 1))) w.heap.size (.slice (some ⟨w.heap.size, 0, none⟩) 8 8) (cnts (l.take (k + 1))) from hput)
            clear hy ho ho' hput HS HT HR hm hm8'
            go_wp2_with fail
            with_reducible refine (sbinOf_any x _).mono ?_
            rintro e w' ⟨he, rfl⟩
            rw [HB.out] at he
            subst he
            go_wp2
            go_roundw
            case rel => exact ⟨k + 1, by omega, by go_num, HP.out, hb.setCell (Nat.le_refl _) _⟩
            case measure => simp [intOf]; omega
          · have hi : ¬ (k : Int) < (l.length : Int) := by omega
            rw [take_whole hlt] at ho
            go_wp2
            go_ret
            exact ⟨_, rfl, by rw [E.out]; exact ho, hb⟩
  · have E := hid (cntW_no (waitsB_none hl))
    clear hn
    go_enter Try.func21, Try.ntmps21
    go_wp2
    go_ret
    exact ⟨_, rfl, by rw [E.out]; exact Own.none_ _ _, Below.refl _ _⟩

end Go.Proofs.Ytiiieollemhjmab

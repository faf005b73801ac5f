/-
  What the program's ApplySettings answers, and the functions that it calls. Condition: the lists lie in memory.
-/
import Derived.Test.YtindbplgbfjjcabStA
import Derived.Test.YtindbplgbfjjcabSetMathB
import Derived.Test.YtindbplgbfjjcabApp
import Derived.Test.YtindbplgbfjjcabOwnX
namespace Go.Proofs.Ytindbplgbfjjcab
open Go.RowKit Stt

abbrev OwnG := OwnS (α := Stg) 31 2 stcl
theorem stgInfo : (Try.prog.info? 31).map (fun i => (i.zero, i.size, i.bytes)) = some (some (.agg #[.int .i64 0, .int .i64 0]), 2, 16) := by kernel_rfl
def low (l : List Stg) (c : Stg) : List Stg := l.filter fun x => decide (x.n < c.n)
def high (l : List Stg) (c : Stg) : List Stg := l.filter fun x => decide (x.n > c.n)
def midl (c : Stg) : List Stg := if c.v = -1 then [] else [c]
theorem put_parts (l : List Stg) (c : Stg) : put l c = (low l c ++ midl c) ++ high l c := by unfold put low high midl; rw [List.append_assoc]
theorem low_len (l : List Stg) (c : Stg) : (low l c).length ≤ l.length := List.length_filter_le _ _
theorem high_len (l : List Stg) (c : Stg) : (high l c).length ≤ l.length := List.length_filter_le _ _
theorem midl_len (c : Stg) : (midl c).length ≤ 1 := by unfold midl; split <;> simp
theorem low_yes {l : List Stg} {c : Stg} {k : Nat} (hk : k < l.length) (h : l[k].n < c.n) : low (l.take (k + 1)) c = low (l.take k) c ++ [l[k]] := by
  unfold low; rw [filter_take_succ hk, if_pos (by simpa using h)]
theorem low_no {l : List Stg} {c : Stg} {k : Nat} (hk : k < l.length) (h : ¬ l[k].n < c.n) : low (l.take (k + 1)) c = low (l.take k) c := by
  unfold low; rw [filter_take_succ hk, if_neg (by simpa using h), List.append_nil]
theorem high_yes {l : List Stg} {c : Stg} {k : Nat} (hk : k < l.length) (h : l[k].n > c.n) : high (l.take (k + 1)) c = high (l.take k) c ++ [l[k]] := by
  unfold high; rw [filter_take_succ hk, if_pos (by simpa using h)]
theorem high_no {l : List Stg} {c : Stg} {k : Nat} (hk : k < l.length) (h : ¬ l[k].n > c.n) : high (l.take (k + 1)) c = high (l.take k) c := by
  unfold high; rw [filter_take_succ hk, if_neg (by simpa using h), List.append_nil]
set_option maxHeartbeats 4000000 in
theorem validChanges_any (A : Option Addr) (c : Nat) (l : List Stg) (w : World) (h : Sees w w.heap.size A (strip stcl l)) (hn : l.length ≤ 4194304) :
    Calls Try.prog 26 #[.slice A l.length c] w fun e w' => e = .returned (.bool (chgsB l)) ∧ Below w.heap.size w w' := by
  have HN := hid hn; clear hn
  by_cases hlen : (l.length : Int) > 16
  · have HV := hid (show chgsB l = false from Bool.eq_false_iff.2 fun e => by have := (chgsB_iff.1 e).1; omega)
    go_enter Try.func26, Try.ntmps26
    go_wp2
    go_ret
    exact ⟨ret_bool HV.out.symm, Below.refl _ _⟩
  have HL := hid (show l.length ≤ 16 by omega)
  go_enter Try.func26, Try.ntmps26
  go_wp2
  go_loopw [10] (fun i wr => ∃ k : Nat, k ≤ l.length ∧ i = .int .i64 k ∧ Hid (∀ x ∈ l.take k, x.cok) ∧ Below w.heap.size w wr) (fun i _ => l.length - (intOf i).toNat)
  case atStart => exact ⟨0, Nat.zero_le _, rfl, hid (by simp), Below.refl _ _⟩
  case round =>
    obtain ⟨k, hk, rfl, HF, hb⟩ := hrel
    have hn := HN.out
    by_cases hlt : k < l.length
    · have hi : (k : Int) < (l.length : Int) := by omega
      obtain ⟨b, o, rfl, hbl, e0, e1⟩ := (h.below hb).stg hlt
      have hz := hb.size
      have hbw : b < wr.heap.size := by omega
      have HNO := hid (fun hh => chgs_no (cs := l) hlt hh)
      have HS := hid (fun (hh : l[k].cok) => (show ∀ x ∈ l.take (k + 1), x.cok from fun x hx => by
        rw [List.take_succ_eq_append_getElem hlt, List.mem_append, List.mem_singleton] at hx
        rcases hx with hx | rfl
        · exact HF.out x hx
        · exact hh))
      obtain ⟨x, hx⟩ : ∃ x, x = l[k] := ⟨_, rfl⟩
      rw [← hx] at e0 e1 HS HNO
      clear hx
      have px := At.new wr 31 #[.int .i64 x.n, .int .i64 x.v]
      have hba := hb.alloc hz (.cells #[.int .i64 x.n, .int .i64 x.v] 31)
      obtain ⟨p0, p1⟩ := (show _ ∧ _ from ⟨px.cell 0, px.cell 1⟩)
      rcases hok : nmB x.n with _ | _
      · have HX := hid (HNO.out (fun hh => nmB_no.1 hok hh.1))
        have HO := hid hok
        clear hok
        go_wp2_with fail
        with_reducible refine (vName_any x.n _).mono ?_
        rintro e w' ⟨he, rfl⟩
        rw [HO.out] at he
        subst he
        go_wp2
        go_ret
        exact ⟨ret_bool HX.out.symm, hba⟩
      have HO := hid hok
      have HO2 := hid (nmB_iff.1 hok)
      clear hok
      by_cases hv0 : x.v < -1
      · have HX := hid (HNO.out (fun hh => by have := hh.2.1; omega))
        go_wp2_with fail
        with_reducible refine (vName_any x.n _).mono ?_
        rintro e w' ⟨he, rfl⟩
        rw [HO.out] at he
        subst he
        go_wp2
        go_ret
        exact ⟨ret_bool HX.out.symm, hba⟩
      by_cases hv1 : x.v > 20
      · have HX := hid (HNO.out (fun hh => by have := hh.2.2; omega))
        go_wp2_with fail
        with_reducible refine (vName_any x.n _).mono ?_
        rintro e w' ⟨he, rfl⟩
        rw [HO.out] at he
        subst he
        go_wp2
        go_ret
        exact ⟨ret_bool HX.out.symm, hba⟩
      have HX := hid (HS.out ⟨HO2.out, by omega, by omega⟩)
      go_wp2_with fail
      with_reducible refine (vName_any x.n _).mono ?_
      rintro e w' ⟨he, rfl⟩
      rw [HO.out] at he
      subst he
      go_wp2
      go_roundw
      case rel => exact ⟨k + 1, by omega, by go_num, HX, hba⟩
      case measure => simp [intOf]; omega
    · have hi : ¬ (k : Int) < (l.length : Int) := by omega
      have HX := hid (show chgsB l = true from chgsB_iff.2 ⟨HL.out, by have := HF.out; rw [take_whole hlt] at this; exact this⟩)
      go_wp2
      go_ret
      exact ⟨ret_bool HX.out.symm, hb⟩

set_option maxHeartbeats 2000000 in
theorem copySettings_any (A : Option Addr) (c : Nat) (l : List Stg) (w : World) (h : Sees w w.heap.size A (strip stcl l)) (hn : l.length ≤ 4194304) :
    Calls Try.prog 27 #[.slice A l.length c] w fun e w' => ∃ v, e = .returned v ∧ OwnG w' w.heap.size v l ∧ Below w.heap.size w w' := by
  obtain ⟨i0, hi0, hz0, hz1, hz2⟩ := info_parts stgInfo
  have HN := hid hn
  clear hn
  go_enter Try.func27, Try.ntmps27
  go_wp2
  go_loopw [3, 8] (fun v i wr => ∃ k : Nat, k ≤ l.length ∧ i = .int .i64 k ∧ OwnG wr w.heap.size v (l.take k) ∧ Below w.heap.size w wr) (fun _ i _ => l.length - (intOf i).toNat)
  case atStart => exact ⟨0, Nat.zero_le _, rfl, OwnS.none_ _ _, Below.refl _ _⟩
  case round =>
    obtain ⟨k, hk, rfl, ho, hb⟩ := hrel
    have hn := HN.out
    by_cases hlt : k < l.length
    · have hi : (k : Int) < (l.length : Int) := by omega
      obtain ⟨b, o, rfl, hbl, e0, e1⟩ := (h.below hb).stg hlt
      have hz := hb.size
      have hbw : b < wr.heap.size := by omega
      have HS : Hid (l.take (k + 1) = l.take k ++ [l[k]]) := hid (List.take_succ_eq_append_getElem hlt)
      have hkl : (l.take k).length ≤ 4194304 := by rw [List.length_take]; omega
      obtain ⟨L, hL⟩ : ∃ L, L = l.take k := ⟨_, rfl⟩
      obtain ⟨y, hy⟩ : ∃ y, y = l[k] := ⟨_, rfl⟩
      rw [← hy] at e0 e1
      rw [← hL, ← hy] at HS
      rw [← hL] at hkl ho
      clear hy hL
      go_wp2_with (at_builtin; refine wpList_append_own _ rfl _ _ 23 rfl (w.heap.size) 31 i0 (.agg #[.int .i64 0, .int .i64 0]) 2 16 Try.underlying23 hi0 hz0 hz1 hz2 rfl (by decide) _ _ _ rfl ((ho.alloc _).alloc _).out ⟨wr.heap.size + 1, 0, none⟩ 1 1 [.int .i64 y.n, .int .i64 y.v] rfl rfl (by simpa using cells_new (wr.alloc (.cells #[.int .i64 y.n, .int .i64 y.v] 31)) [.int .i64 y.n, .int .i64 y.v] 31) ?d12 ?d13 ?d14 ?d15 ?_)
      case d12 => simp [Value.oneCell']
      case d13 => unfold maxLen; omega
      case d14 => omega
      try (case d15 => first | omega | (simp; omega) | (simp; done))
      case _ =>
        intro v1 w2 h1 hg1 _
        have ho' := ho.alloc (.cells #[.int .i64 y.n, .int .i64 y.v] 31)
        have hba := hb.alloc hb.size (.cells #[.int .i64 y.n, .int .i64 y.v] 31)
        obtain ⟨ho1, hb1⟩ := ho'.snoc (x := y) hba (Nat.le_refl _) h1 hg1
        rw [← HS.out] at ho1
        clear h1 hg1 ho' hba
        go_wp2
        go_roundw
        case rel => exact ⟨k + 1, by omega, by go_num, ho1, hb1⟩
        case measure => simp [intOf]; omega
    · have hi : ¬ (k : Int) < (l.length : Int) := by omega
      rw [take_whole hlt] at ho
      go_wp2
      go_ret
      exact ⟨_, rfl, ho, hb⟩

set_option maxHeartbeats 8000000 in
theorem changeSetting_any (A : Option Addr) (c : Nat) (l : List Stg) (d : Stg) (w : World) (h : Sees w w.heap.size A (strip stcl l)) (hn : l.length ≤ 100000) :
    Calls Try.prog 28 #[.slice A l.length c, .agg #[.int .i64 d.n, .int .i64 d.v]] w fun e w' => ∃ v, e = .returned v ∧ OwnG w' w.heap.size v (put l d) ∧ Below w.heap.size w w' := by
  obtain ⟨i0, hi0, hz0, hz1, hz2⟩ := info_parts stgInfo
  have HN := hid hn
  clear hn
  have px0 := At.new w 31 #[.int .i64 d.n, .int .i64 d.v]
  have hB0 := (Below.refl w.heap.size w).alloc (Nat.le_refl _) (.cells #[.int .i64 d.n, .int .i64 d.v] 31)
  have HP := hid (put_parts l d)
  obtain ⟨R, hR⟩ : ∃ R, R = put l d := ⟨_, rfl⟩
  rw [← hR] at HP ⊢
  clear hR
  go_enter Try.func28, Try.ntmps28
  go_wp2
  go_loopw [5, 12] (fun v i wr => ∃ k : Nat, k ≤ l.length ∧ i = .int .i64 k ∧ OwnG wr (w.heap.size + 1) v (low (l.take k) d) ∧ At wr w.heap.size 31 #[.int .i64 d.n, .int .i64 d.v] ∧ Below w.heap.size w wr) (fun _ i _ => l.length - (intOf i).toNat)
  case atStart => exact ⟨0, Nat.zero_le _, rfl, OwnS.none_ _ _, px0, hB0⟩
  case round =>
    clear px0 hB0
    obtain ⟨k, hk, rfl, ho, px, hb⟩ := hrel
    have hn := HN.out
    by_cases hlt : k < l.length
    · have hi : (k : Int) < (l.length : Int) := by omega
      obtain ⟨b, o, rfl, hbl, e0, e1⟩ := (h.below hb).stg hlt
      have hz := hb.size
      have hbw : b < wr.heap.size := by omega
      have HY := hid (fun hh => low_yes (l := l) (c := d) hlt hh)
      have HNO := hid (fun hh => low_no (l := l) (c := d) hlt hh)
      have hkl : (low (l.take k) d).length ≤ 100000 := Nat.le_trans (low_len _ _) (by rw [List.length_take]; omega)
      obtain ⟨L, hL⟩ : ∃ L, L = low (l.take k) d := ⟨_, rfl⟩
      obtain ⟨y, hy⟩ : ∃ y, y = l[k] := ⟨_, rfl⟩
      rw [← hy] at e0 e1
      rw [← hL, ← hy] at HY
      rw [← hL, ← hy] at HNO
      rw [← hL] at hkl ho
      clear hy hL
      have py := At.new wr 31 #[.int .i64 y.n, .int .i64 y.v]
      have px1 := px.alloc (.cells #[.int .i64 y.n, .int .i64 y.v] 31)
      have hlow := ho.lt
      have hgl := px.lt
      obtain ⟨q0, q1⟩ := (show _ ∧ _ from ⟨py.cell 0, py.cell 1⟩)
      obtain ⟨p0, p1⟩ := (show _ ∧ _ from ⟨px1.cell 0, px1.cell 1⟩)
      by_cases hyd : y.n < d.n
      · have HX := hid (HY.out hyd)
        go_wp2_with (at_builtin; refine wpList_append_own _ rfl _ _ 23 rfl (w.heap.size + 1) 31 i0 (.agg #[.int .i64 0, .int .i64 0]) 2 16 Try.underlying23 hi0 hz0 hz1 hz2 rfl (by decide) _ _ _ rfl ((ho.alloc _).alloc _).out ⟨wr.heap.size + 1, 0, none⟩ 1 1 [.int .i64 y.n, .int .i64 y.v] rfl rfl (by simpa using cells_new (wr.alloc (.cells #[.int .i64 y.n, .int .i64 y.v] 31)) [.int .i64 y.n, .int .i64 y.v] 31) ?e22 ?e23 ?e24 ?e25 ?_)
        case e22 => simp [Value.oneCell']
        case e23 => unfold maxLen; omega
        case e24 => omega
        try (case e25 => first | omega | (simp; omega) | (simp; done))
        case _ =>
          intro v1 w2 h1 hg1 _
          have ho' := ho.alloc (.cells #[.int .i64 y.n, .int .i64 y.v] 31)
          have hba := hb.alloc hb.size (.cells #[.int .i64 y.n, .int .i64 y.v] 31)
          have hbw2 : Below (w.heap.size + 1) (wr.alloc (.cells #[.int .i64 y.n, .int .i64 y.v] 31)) w2 := ((Below.refl _ _).alloc (by simp; omega) (.cells #[.int .i64 y.n, .int .i64 y.v] 31)).grown hg1 (by simp; omega) (fun q hq => (hlow q hq).1)
          have px2 := px1.below hbw2 (by omega)
          have ho1 : OwnG w2 (w.heap.size + 1) v1 (L ++ [y]) := by unfold OwnG OwnS; rw [strip_snoc, List.length_append]; exact h1
          have hb1 := hba.trans (hbw2.mono (by omega))
          rw [← HX.out] at ho1
          clear h1 hg1 ho' hba hbw2 p0 p1 q0 q1 py px1
          go_wp2
          go_roundw
          case rel => exact ⟨k + 1, by omega, by go_num, ho1, px2, hb1⟩
          case measure => simp [intOf]; omega
      · have HX := hid (HNO.out hyd)
        have ho1 := ho.alloc (.cells #[.int .i64 y.n, .int .i64 y.v] 31)
        have hb1 := hb.alloc hb.size (.cells #[.int .i64 y.n, .int .i64 y.v] 31)
        rw [← HX.out] at ho1
        go_wp2
        go_roundw
        case rel => exact ⟨k + 1, by omega, by go_num, ho1, px1, hb1⟩
        case measure => simp [intOf]; omega
    · have hi : ¬ (k : Int) < (l.length : Int) := by omega
      rw [take_whole hlt] at ho
      have hkl := Nat.le_trans (low_len l d) HN.out
      have hz := hb.size
      have hlow := ho.lt
      have hgl := px.lt
      have HM := hid (show (low l d ++ midl d).length ≤ 100001 by have := midl_len d; rw [List.length_append]; omega)
      have HMY := hid (fun (hh : d.v ≠ -1) => (show midl d = [d] from if_neg hh))
      have HMN := hid (fun (hh : d.v = -1) => (show midl d = [] from if_pos hh))
      obtain ⟨L, hL⟩ : ∃ L, L = low l d := ⟨_, rfl⟩
      rw [← hL] at ho hkl HP HM
      clear hL
      obtain ⟨p0, p1⟩ := (show _ ∧ _ from ⟨px.cell 0, px.cell 1⟩)
      rcases hdv : (d.v != -1) with _ | _
      · have HX := hid (HMN.out (by simpa using hdv))
        rw [HX.out, List.append_nil] at HM HP
        obtain ⟨wq, hwq⟩ : ∃ wq, wq = wr := ⟨_, rfl⟩
        subst hwq
        go_wp2
        go_loopw [5, 35] (fun v i wr => ∃ k : Nat, k ≤ l.length ∧ i = .int .i64 k ∧ OwnG wr (w.heap.size + 1) v (L ++ high (l.take k) d) ∧ At wr w.heap.size 31 #[.int .i64 d.n, .int .i64 d.v] ∧ Below w.heap.size w wr) (fun _ i _ => l.length - (intOf i).toNat)
        case atStart => exact ⟨0, Nat.zero_le _, rfl, by simpa [high] using ho, px, hb⟩
        case round =>
          clear ho px hb p0 p1
          obtain ⟨k, hk, rfl, ho, px, hb⟩ := hrel
          have hn := HN.out
          have hM := HM.out
          by_cases hlt : k < l.length
          · have hi : (k : Int) < (l.length : Int) := by omega
            obtain ⟨b, o, rfl, hbl, e0, e1⟩ := (h.below hb).stg hlt
            have hz := hb.size
            have hbw : b < wr.heap.size := by omega
            have HY := hid (fun hh => high_yes (l := l) (c := d) hlt hh)
            have HNO := hid (fun hh => high_no (l := l) (c := d) hlt hh)
            have hkl : (L ++ high (l.take k) d).length ≤ 200002 := by
              have := high_len (l.take k) d
              rw [List.length_take] at this
              rw [List.length_append]; omega
            have HA := hid (fun (x : Stg) (hh : high (l.take (k + 1)) d = high (l.take k) d ++ [x]) => (show L ++ high (l.take (k + 1)) d = L ++ high (l.take k) d ++ [x] by rw [hh, List.append_assoc]))
            obtain ⟨y, hy⟩ : ∃ y, y = l[k] := ⟨_, rfl⟩
            rw [← hy] at e0 e1
            have HYY := hid (fun hh => HA.out _ (HY.out hh))
            have HNN := hid (fun hh => (show L ++ high (l.take (k + 1)) d = L ++ high (l.take k) d by rw [HNO.out hh]))
            rw [← hy] at HYY
            rw [← hy] at HNN
            clear HA HY HNO hy
            obtain ⟨Q, hQ⟩ : ∃ Q, Q = L ++ high (l.take k) d := ⟨_, rfl⟩
            rw [← hQ] at HYY
            rw [← hQ] at HNN
            rw [← hQ] at ho hkl
            clear hQ
            have py := At.new wr 31 #[.int .i64 y.n, .int .i64 y.v]
            have px1 := px.alloc (.cells #[.int .i64 y.n, .int .i64 y.v] 31)
            have hlow := ho.lt
            have hgl := px.lt
            obtain ⟨q0, q1⟩ := (show _ ∧ _ from ⟨py.cell 0, py.cell 1⟩)
            obtain ⟨p0, p1⟩ := (show _ ∧ _ from ⟨px1.cell 0, px1.cell 1⟩)
            by_cases hyd : y.n > d.n
            · have HX := hid (HYY.out hyd)
              have hdy : d.n < y.n := hyd
              go_wp2_with (at_builtin; refine wpList_append_own _ rfl _ _ 23 rfl (w.heap.size + 1) 31 i0 (.agg #[.int .i64 0, .int .i64 0]) 2 16 Try.underlying23 hi0 hz0 hz1 hz2 rfl (by decide) _ _ _ rfl ((ho.alloc _).alloc _).out ⟨wr.heap.size + 1, 0, none⟩ 1 1 [.int .i64 y.n, .int .i64 y.v] rfl rfl (by simpa using cells_new (wr.alloc (.cells #[.int .i64 y.n, .int .i64 y.v] 31)) [.int .i64 y.n, .int .i64 y.v] 31) ?g42 ?g43 ?g44 ?g45 ?_)
              case g42 => simp [Value.oneCell']
              case g43 => unfold maxLen; omega
              case g44 => omega
              try (case g45 => first | omega | (simp; omega) | (simp; done))
              case _ =>
                intro v1 w2 h1 hg1 _
                have hba := hb.alloc hb.size (.cells #[.int .i64 y.n, .int .i64 y.v] 31)
                have hbw2 : Below (w.heap.size + 1) (wr.alloc (.cells #[.int .i64 y.n, .int .i64 y.v] 31)) w2 := ((Below.refl _ _).alloc (by simp; omega) (.cells #[.int .i64 y.n, .int .i64 y.v] 31)).grown hg1 (by simp; omega) (fun q hq => (hlow q hq).1)
                have px2 := px1.below hbw2 (by omega)
                have ho1 : OwnG w2 (w.heap.size + 1) v1 (Q ++ [y]) := by unfold OwnG OwnS; rw [strip_snoc, List.length_append]; exact h1
                have hb1 := hba.trans (hbw2.mono (by omega))
                rw [← HX.out] at ho1
                clear h1 hg1 hba hbw2 p0 p1 q0 q1 py px1
                go_wp2
                go_roundw
                case rel => exact ⟨k + 1, by omega, by go_num, ho1, px2, hb1⟩
                case measure => simp [intOf]; omega
            · have HX := hid (HNN.out hyd)
              have hdy : ¬ d.n < y.n := hyd
              have ho1 := ho.alloc (.cells #[.int .i64 y.n, .int .i64 y.v] 31)
              have hb1 := hb.alloc hb.size (.cells #[.int .i64 y.n, .int .i64 y.v] 31)
              rw [← HX.out] at ho1
              go_wp2
              go_roundw
              case rel => exact ⟨k + 1, by omega, by go_num, ho1, px1, hb1⟩
              case measure => simp [intOf]; omega
          · have hi : ¬ (k : Int) < (l.length : Int) := by omega
            rw [take_whole hlt, ← HP.out] at ho
            go_wp2
            go_ret
            exact ⟨_, rfl, ho.mono (by omega), hb⟩
      · have HX := hid (HMY.out (by simpa using hdv))
        rw [HX.out] at HM HP
        go_wp2_with (at_builtin; refine wpList_append_own _ rfl _ _ 23 rfl (w.heap.size + 1) 31 i0 (.agg #[.int .i64 0, .int .i64 0]) 2 16 Try.underlying23 hi0 hz0 hz1 hz2 rfl (by decide) _ _ _ rfl (ho.alloc _).out ⟨wr.heap.size, 0, none⟩ 1 1 [.int .i64 d.n, .int .i64 d.v] rfl rfl (by simpa using cells_new (wr) [.int .i64 d.n, .int .i64 d.v] 31) ?f32 ?f33 ?f34 ?f35 ?_)
        case f32 => simp [Value.oneCell']
        case f33 => unfold maxLen; omega
        case f34 => omega
        try (case f35 => first | omega | (simp; omega) | (simp; done))
        case _ =>
          intro v1 w2 h1 hg1 _
          have hbw2 : Below (w.heap.size + 1) wr w2 := ((Below.refl _ _).alloc (by omega) (.cells #[.int .i64 d.n, .int .i64 d.v] 31)).grown hg1 (by simp; omega) (fun q hq => (hlow q hq).1)
          have px2 := px.below hbw2 (by omega)
          have ho1 : OwnG w2 (w.heap.size + 1) v1 (L ++ [d]) := by unfold OwnG OwnS; rw [strip_snoc, List.length_append]; exact h1
          have hb1 := hb.trans (hbw2.mono (by omega))
          obtain ⟨M, hM⟩ : ∃ M, M = L ++ [d] := ⟨_, rfl⟩
          rw [← hM] at ho1 HM HP
          clear h1 hg1 hbw2 p0 p1 px ho hb hlow hgl hM
          obtain ⟨p0, p1⟩ := (show _ ∧ _ from ⟨px2.cell 0, px2.cell 1⟩)
          go_wp2
          go_loopw [5, 35] (fun v i wr => ∃ k : Nat, k ≤ l.length ∧ i = .int .i64 k ∧ OwnG wr (w.heap.size + 1) v (M ++ high (l.take k) d) ∧ At wr w.heap.size 31 #[.int .i64 d.n, .int .i64 d.v] ∧ Below w.heap.size w wr) (fun _ i _ => l.length - (intOf i).toNat)
          case atStart => exact ⟨0, Nat.zero_le _, rfl, by simpa [high] using ho1, px2, hb1⟩
          case round =>
            clear ho1 px2 hb1 p0 p1
            obtain ⟨k, hk, rfl, ho, px, hb⟩ := hrel
            have hn := HN.out
            have hM := HM.out
            by_cases hlt : k < l.length
            · have hi : (k : Int) < (l.length : Int) := by omega
              obtain ⟨b, o, rfl, hbl, e0, e1⟩ := (h.below hb).stg hlt
              have hz := hb.size
              have hbw : b < wr.heap.size := by omega
              have HY := hid (fun hh => high_yes (l := l) (c := d) hlt hh)
              have HNO := hid (fun hh => high_no (l := l) (c := d) hlt hh)
              have hkl : (M ++ high (l.take k) d).length ≤ 200002 := by
                have := high_len (l.take k) d
                rw [List.length_take] at this
                rw [List.length_append]; omega
              have HA := hid (fun (x : Stg) (hh : high (l.take (k + 1)) d = high (l.take k) d ++ [x]) => (show M ++ high (l.take (k + 1)) d = M ++ high (l.take k) d ++ [x] by rw [hh, List.append_assoc]))
              obtain ⟨y, hy⟩ : ∃ y, y = l[k] := ⟨_, rfl⟩
              rw [← hy] at e0 e1
              have HYY := hid (fun hh => HA.out _ (HY.out hh))
              have HNN := hid (fun hh => (show M ++ high (l.take (k + 1)) d = M ++ high (l.take k) d by rw [HNO.out hh]))
              rw [← hy] at HYY
              rw [← hy] at HNN
              clear HA HY HNO hy
              obtain ⟨Q, hQ⟩ : ∃ Q, Q = M ++ high (l.take k) d := ⟨_, rfl⟩
              rw [← hQ] at HYY
              rw [← hQ] at HNN
              rw [← hQ] at ho hkl
              clear hQ
              have py := At.new wr 31 #[.int .i64 y.n, .int .i64 y.v]
              have px1 := px.alloc (.cells #[.int .i64 y.n, .int .i64 y.v] 31)
              have hlow := ho.lt
              have hgl := px.lt
              obtain ⟨q0, q1⟩ := (show _ ∧ _ from ⟨py.cell 0, py.cell 1⟩)
              obtain ⟨p0, p1⟩ := (show _ ∧ _ from ⟨px1.cell 0, px1.cell 1⟩)
              by_cases hyd : y.n > d.n
              · have HX := hid (HYY.out hyd)
                have hdy : d.n < y.n := hyd
                go_wp2_with (at_builtin; refine wpList_append_own _ rfl _ _ 23 rfl (w.heap.size + 1) 31 i0 (.agg #[.int .i64 0, .int .i64 0]) 2 16 Try.underlying23 hi0 hz0 hz1 hz2 rfl (by decide) _ _ _ rfl ((ho.alloc _).alloc _).out ⟨wr.heap.size + 1, 0, none⟩ 1 1 [.int .i64 y.n, .int .i64 y.v] rfl rfl (by simpa using cells_new (wr.alloc (.cells #[.int .i64 y.n, .int .i64 y.v] 31)) [.int .i64 y.n, .int .i64 y.v] 31) ?h52 ?h53 ?h54 ?h55 ?_)
                case h52 => simp [Value.oneCell']
                case h53 => unfold maxLen; omega
                case h54 => omega
                try (case h55 => first | omega | (simp; omega) | (simp; done))
                case _ =>
                  intro v1 w2 h1 hg1 _
                  have hba := hb.alloc hb.size (.cells #[.int .i64 y.n, .int .i64 y.v] 31)
                  have hbw2 : Below (w.heap.size + 1) (wr.alloc (.cells #[.int .i64 y.n, .int .i64 y.v] 31)) w2 := ((Below.refl _ _).alloc (by simp; omega) (.cells #[.int .i64 y.n, .int .i64 y.v] 31)).grown hg1 (by simp; omega) (fun q hq => (hlow q hq).1)
                  have px2 := px1.below hbw2 (by omega)
                  have ho1 : OwnG w2 (w.heap.size + 1) v1 (Q ++ [y]) := by unfold OwnG OwnS; rw [strip_snoc, List.length_append]; exact h1
                  have hb1 := hba.trans (hbw2.mono (by omega))
                  rw [← HX.out] at ho1
                  clear h1 hg1 hba hbw2 p0 p1 q0 q1 py px1
                  go_wp2
                  go_roundw
                  case rel => exact ⟨k + 1, by omega, by go_num, ho1, px2, hb1⟩
                  case measure => simp [intOf]; omega
              · have HX := hid (HNN.out hyd)
                have hdy : ¬ d.n < y.n := hyd
                have ho1 := ho.alloc (.cells #[.int .i64 y.n, .int .i64 y.v] 31)
                have hb1 := hb.alloc hb.size (.cells #[.int .i64 y.n, .int .i64 y.v] 31)
                rw [← HX.out] at ho1
                go_wp2
                go_roundw
                case rel => exact ⟨k + 1, by omega, by go_num, ho1, px1, hb1⟩
                case measure => simp [intOf]; omega
            · have hi : ¬ (k : Int) < (l.length : Int) := by omega
              rw [take_whole hlt, ← HP.out] at ho
              go_wp2
              go_ret
              exact ⟨_, rfl, ho.mono (by omega), hb⟩

set_option maxHeartbeats 2000000 in
theorem settingAt_any (A : Option Addr) (c : Nat) (l : List Stg) (k : Nat) (w : World) {B : Nat} (h : Sees w B A (strip stcl l)) (hB : B ≤ w.heap.size) (_hn : l.length ≤ 4194304) (_hk : k ≤ 4194304) :
    Calls Try.prog 33 #[.slice A l.length c, .int .i64 k] w fun e w' => e = .returned (.agg #[.int .i64 (atS l k).n, .int .i64 (atS l k).v]) ∧ Below w.heap.size w w' := by
  have pr := At.new w 31 #[.int .i64 0, .int .i64 0]
  have hB0 := (Below.refl w.heap.size w).alloc (Nat.le_refl _) (.cells #[.int .i64 0, .int .i64 0] 31)
  have hs := h.alloc hB (.cells #[.int .i64 0, .int .i64 0] 31)
  obtain ⟨q0, q1⟩ := (show _ ∧ _ from ⟨pr.cell 0, pr.cell 1⟩)
  have ql := pr.lt
  have qf := pr.frozen
  by_cases hlt : k < l.length
  · have hi : (k : Int) < (l.length : Int) := by omega
    have hi0 : (0 : Int) ≤ (k : Int) := by omega
    have hnk : ¬ (k : Int) ≥ (l.length : Int) := by omega
    obtain ⟨b, o, rfl, hbl, e0, e1⟩ := hs.stg hlt
    have E := hid (show l[k] = atS l k from (dif_pos hlt).symm)
    obtain ⟨y, hy⟩ : ∃ y, y = l[k] := ⟨_, rfl⟩
    rw [← hy] at e0 e1 E
    clear hy
    have pt := At.new w 31 #[.int .i64 y.n, .int .i64 y.v]
    have hBz := (Below.refl w.heap.size w).alloc (Nat.le_refl _) (.cells #[.int .i64 y.n, .int .i64 y.v] 31)
    go_enter Try.func33, Try.ntmps33
    go_wp2
    refine bodyPost_ret (v := .agg #[.int .i64 y.n, .int .i64 y.v]) (by simp [results, Try.results33, go_sem, pt.cell]) rfl ?_
    exact ⟨by rw [E.out], hBz⟩
  · have hnk : (k : Int) ≥ (l.length : Int) := by omega
    have E := hid (show (⟨10, -1⟩ : Stg) = atS l k by unfold atS; rw [dif_neg hlt])
    have pt := At.new w 31 #[.int .i64 10, .int .i64 (-1)]
    have hBz := (Below.refl w.heap.size w).alloc (Nat.le_refl _) (.cells #[.int .i64 10, .int .i64 (-1)] 31)
    go_enter Try.func33, Try.ntmps33
    go_wp2
    refine bodyPost_ret (v := .agg #[.int .i64 10, .int .i64 (-1)]) (by simp [results, Try.results33, go_sem, pt.cell]) rfl ?_
    exact ⟨by rw [← E.out], hBz⟩

end Go.Proofs.Ytindbplgbfjjcab

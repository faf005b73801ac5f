/-
  What the model's MostLeased answers. Condition: the list lies in memory.
-/
import Derived.Test.YtnkdhkhgfgcloaaSzD
import Derived.Test.YtnkdhkhgfgcloaaLsF
namespace Go.Proofs.Ytnkdhkhgfgcloaa
open Go.RowKit Lse

theorem over_take {l : List L} {k : Nat} (hk : k < l.length) (t : Int) : (over (l.take (k + 1)) t : Int) = (over (l.take k) t : Int) + (if inB t l[k].f (l[k].u - 1) = true then 1 else 0) := by
  rw [List.take_succ_eq_append_getElem hk, over_app]
  have e : over [l[k]] t = if inB t l[k].f (l[k].u - 1) = true then 1 else 0 := by
    unfold over inB
    rw [List.countP_singleton]
    by_cases hh : l[k].f ≤ t ∧ t < l[k].u
    · rw [if_pos (by rw [decide_eq_true_eq]; exact hh), if_pos (by rw [decide_eq_true_eq]; omega)]
    · rw [if_neg (by rw [decide_eq_true_eq]; exact hh), if_neg (by rw [decide_eq_true_eq]; omega)]
  rw [e]
  split <;> simp
/-- The greatest number over the beginnings of the first leases. -/
def Mst (l : List L) (k : Nat) (m : Int) : Prop := 0 ≤ m ∧ m ≤ l.length ∧ (∀ i (hi : i < l.length), i < k → (over l l[i].f : Int) ≤ m) ∧ (m = 0 ∨ ∃ i, ∃ hi : i < l.length, i < k ∧ (over l l[i].f : Int) = m)
theorem Mst.nil (l : List L) : Mst l 0 0 := ⟨by omega, by omega, by omega, .inl rfl⟩
theorem mst_step {l : List L} {k : Nat} {m : Int} (h : Mst l k m) (hk : k < l.length) {n m' : Int} (hn : n = (over l l[k].f : Int)) (hm : m' = max m n) : Mst l (k + 1) m' := by
  obtain ⟨h1, h2, h3, h4⟩ := h
  have ho := over_le l l[k].f
  refine ⟨by omega, by omega, fun i hi hik => ?_, ?_⟩
  · rcases Nat.eq_or_lt_of_le (show i ≤ k by omega) with e | e
    · subst e; omega
    · have := h3 i hi e; omega
  · by_cases c : m ≤ n
    · exact .inr ⟨k, hk, by omega, by rw [← hn, hm]; exact (Int.max_eq_right c).symm⟩
    · rcases h4 with e | ⟨i, hi, hik, e⟩
      · left; omega
      · right; exact ⟨i, hi, by omega, by omega⟩
theorem mst_end {l : List L} {m : Int} (h : Mst l l.length m) : m = (mostV l : Int) := by
  obtain ⟨h1, h2, h3, h4⟩ := h
  have := most_is (l := l) (M := m.toNat) (fun x hx => by
    obtain ⟨i, hi, rfl⟩ := List.getElem_of_mem hx
    have := h3 i hi hi
    omega) (by
    rcases h4 with e | ⟨i, hi, _, e⟩
    · left; omega
    · right; exact ⟨_, List.getElem_mem hi, by omega⟩)
  omega
set_option maxHeartbeats 400000 in
theorem zToInt_any (b : Bool) (w : World) :
    Calls Try.prog 33 #[.bool b] w fun e w' => e = .returned (.int .i64 (if b = true then 1 else 0)) ∧ w = w' := by
  cases b
  · go_enter Try.func33, Try.ntmps33
    go_wp2
    go_ret
    exact ⟨rfl, rfl⟩
  · go_enter Try.func33, Try.ntmps33
    go_wp2
    go_ret
    exact ⟨rfl, rfl⟩

set_option maxHeartbeats 4000000 in
theorem sMostLeased_any (A : Option Addr) (c : Nat) (l : List L) (w : World) (h : Sees w w.heap.size A (lvals l)) (hn : l.length ≤ 4194304) :
    Calls Try.prog 13 #[.slice A l.length c] w fun e w' => e = .returned (.int .i64 (mostOf l)) ∧ Below w.heap.size w w' := by
  have HN := hid hn; clear hn
  rcases hv : validB l with _ | _
  · have E := hid (most_no hv)
    have HV := hid hv
    clear hv
    go_enter Try.func13, Try.ntmps13
    go_wp2_with fail
    refine (svalidLeases_any A c l _ h HN.out).mono ?_
    rintro e w1 ⟨he, hb1⟩
    rw [HV.out] at he
    subst he
    go_wp2
    go_ret
    exact ⟨ret_int E.out.symm, hb1⟩
  · have E := hid (most_yes hv)
    have HL := hid (valid_len hv)
    have HV := hid hv
    clear hv
    go_enter Try.func13, Try.ntmps13
    go_wp2_with fail
    refine (svalidLeases_any A c l _ h HN.out).mono ?_
    rintro e w1 ⟨he, hb1⟩
    rw [HV.out] at he
    subst he
    go_wp2
    go_loopw [3, 4] (fun v i wr => ∃ (k : Nat) (m : Int), Hid (k ≤ l.length) ∧ i = .int .i64 k ∧ v = .int .i64 m ∧ Hid (Mst l k m) ∧ Below w.heap.size w wr) (fun _ i _ => l.length - (intOf i).toNat)
    case atStart => exact ⟨0, 0, hid (Nat.zero_le _), rfl, rfl, hid (Mst.nil l), hb1⟩
    case round =>
      obtain ⟨k, m, HK, rfl, rfl, HM, hb⟩ := hrel
      have hn12 := HL.out
      by_cases hlt : k < l.length
      · have hi : (k : Int) < (l.length : Int) := by omega
        have HLT := hid hlt
        go_wp2
        go_loopw [5, 6] (fun v i wr => ∃ (j : Nat) (n : Int), Hid (j ≤ l.length) ∧ i = .int .i64 j ∧ v = .int .i64 n ∧ Hid (n = (over (l.take j) (l[k]'HLT.out).f : Int)) ∧ Below w.heap.size w wr) (fun _ i _ => l.length - (intOf i).toNat)
        case atStart => exact ⟨0, 0, hid (Nat.zero_le _), rfl, rfl, hid (by simp [over]), hb⟩
        case round =>
          clear hb
          obtain ⟨j, n, HJ, rfl, rfl, HO, hb⟩ := hrel
          have hn12 := HL.out
          by_cases hjl : j < l.length
          · have hji : (j : Int) < (l.length : Int) := by omega
            have hj0 : (0 : Int) ≤ (j : Int) := by omega
            have hk0 : (0 : Int) ≤ (k : Int) := by omega
            obtain ⟨b, o, rfl, hbl, e0, e1, e2, e3⟩ := (h.below hb).lease hlt
            obtain ⟨b', o', he, _, f0, f1, f2, f3⟩ := (h.below hb).lease hjl
            injection he with he
            injection he with he1 he2
            subst he1 he2
            clear e0 e1 e3 f0 f1
            have HT := hid (over_take hjl (l[k]'HLT.out).f)
            have hno := over_le (l.take j) (l[k]'HLT.out).f
            have hno2 : (0 : Int) ≤ n ∧ n ≤ 12 := by
              have := HO.out
              rw [List.length_take] at hno
              omega
            obtain ⟨n0, n1⟩ := hno2
            have hok := ok_of hjl HV.out
            obtain ⟨y, hy⟩ : ∃ y, y = l[j] := ⟨_, rfl⟩
            rw [← hy] at HT f2 f3 hok
            clear hy hno
            obtain ⟨_, _, _, _, g5, g6, g7⟩ := L.ok_iff.1 hok
            clear hok
            obtain ⟨t, ht⟩ : ∃ t, t = (l[k]'HLT.out).f := ⟨_, rfl⟩
            rw [← ht] at HT HO e2
            have HTT := hid ht
            clear ht
            have hw1 : IntKind.i64.wrap (y.u - 1) = y.u - 1 := by rw [IntKind.wrap_i64]; omega
            obtain ⟨B, hB⟩ : ∃ B, B = inB t y.f (y.u - 1) := ⟨_, rfl⟩
            rw [← hB] at HT
            have HB := hid hB.symm
            clear hB
            obtain ⟨D, hD⟩ : ∃ D : Int, D = (if B = true then 1 else 0) := ⟨_, rfl⟩
            have hDb : 0 ≤ D ∧ D ≤ 1 := by rw [hD]; split <;> omega
            obtain ⟨d0, d1⟩ := hDb
            rw [← hD] at HT
            have HD := hid hD.symm
            clear hD
            have hw2 : IntKind.i64.wrap (n + D) = n + D := by rw [IntKind.wrap_i64]; omega
            have hz := hb.size
            have hbw : b < wr.heap.size := by omega
            go_wp2
            go_quiet (first | (go_at_call 34; exact Calls.quiet_of_same ((inRange_any _ _ _ _).mono fun _ _ ⟨he, hw⟩ => ⟨by rw [he, HB.out], hw.symm⟩)) | (go_at_call 33; exact Calls.quiet_of_same ((zToInt_any _ _).mono fun _ _ ⟨he, hw⟩ => ⟨by rw [he, HD.out], hw.symm⟩)))
            go_wp2
            go_roundw
            case rel => exact ⟨j + 1, n + D, hid (by omega), by go_num, rfl, hid (by rw [← HTT.out, HT.out, HO.out]), below_drewN hb _⟩
            case measure => simp [intOf]; omega
          · have hji : ¬ (j : Int) < (l.length : Int) := by omega
            have hjj : j = l.length := by have := HJ.out; omega
            have hO : n = (over l (l[k]'HLT.out).f : Int) := by have := HO.out; rw [hjj, List.take_length] at this; exact this
            have HST : Hid (∀ m', m' = max m n → Mst l (k + 1) m') := hid fun m' hm => mst_step HM.out hlt hO hm
            clear hjj hO
            have hc1 : m < n ∨ m = n ∨ n < m := by omega
            rcases hc1 with hc1 | hc1 | hc1
            · skip
              have HS := hid (HST.out n (by omega))
              go_wp2
              go_roundw
              case rel => exact ⟨k + 1, n, hid (by omega), by go_num, rfl, HS, hb⟩
              case measure => simp [intOf]; omega
            · skip
              subst hc1
              have HS := hid (HST.out m (by omega))
              go_wp2
              go_roundw
              case rel => exact ⟨k + 1, m, hid (by omega), by go_num, rfl, HS, hb⟩
              case measure => simp [intOf]; omega
            · skip
              have HS := hid (HST.out m (by omega))
              go_wp2
              go_roundw
              case rel => exact ⟨k + 1, m, hid (by omega), by go_num, rfl, HS, hb⟩
              case measure => simp [intOf]; omega
      · have hi : ¬ (k : Int) < (l.length : Int) := by omega
        have hkk : k = l.length := by have := HK.out; omega
        have HE := hid (mst_end (by rw [← hkk]; exact HM.out))
        clear hkk
        go_wp2
        go_ret
        exact ⟨ret_int (by rw [E.out, HE.out]), hb⟩

end Go.Proofs.Ytnkdhkhgfgcloaa

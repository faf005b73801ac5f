/-
  What the program's IsGood, GoodPath and GoodShare answer. Condition: the list lies in memory.
-/
import Derived.Test.YthghmpcfiakjgacChkA
import Derived.Test.YthghmpcfiakjgacOwnI
namespace Go.Proofs.Ythghmpcfiakjgac
open Go.RowKit Chk

theorem good_no {l : List Bool} {f g : Int} (h : chkB l f g = false) : goodB l f g = false := by unfold goodB; rw [h]; rfl
theorem good_yes {l : List Bool} {f g : Int} (h : chkB l f g = true) : goodB l f g = gst l f g l.length := by unfold goodB; rw [h]; rfl
theorem gst_step {l : List Bool} {f g : Int} {k : Nat} (h : k < l.length) : gst l f g (k + 1) = if l[k] = true then (if g ≤ run (l.take (k + 1)) then true else gst l f g k) else (if f ≤ run (l.take (k + 1)) then false else gst l f g k) := by
  have e : l.getD k false = l[k] := by simp [List.getD_eq_getElem?_getD, h]
  conv => lhs; unfold gst
  rw [e]
theorem last_take {l : List Bool} {k : Nat} (h : l.length ≤ 12) : lastRun (l.take k) = run (l.take k) := by
  unfold lastRun
  rw [if_pos (by rw [List.length_take]; omega)]

set_option maxHeartbeats 4000000 in
theorem iIsGood_any (A : Option Addr) (n c : Nat) (l : List Bool) (f g : Int) (w : World) {B : Nat} (hl : l.length = n) (h : Sees w B A (boos l)) (hcap : l.length ≤ c) (hn : l.length ≤ 4194304) :
    Calls Try.prog 12 #[.slice A n c, .int .i64 f, .int .i64 g] w fun e w' => e = .returned (.bool (goodB l f g)) ∧ w = w' := by
  subst hl
  rcases hv : chkB l f g with _ | _
  · have HV := hid hv
    have E0 := hid (good_no hv)
    clear hv
    go_enter Try.func12, Try.ntmps12
    go_wp2_with fail
    refine (ivalidChecks_any A l.length c l f g _ rfl).mono ?_
    rintro e w' ⟨he, rfl⟩
    rw [HV.out] at he
    subst he
    go_wp2
    go_ret
    exact ⟨ret_bool (by rw [E0.out]), rfl⟩
  · have HV := hid hv
    have E0 := hid (good_yes hv)
    have h12 := (chkB_iff.1 hv).1
    clear hv
    go_enter Try.func12, Try.ntmps12
    go_wp2_with fail
    refine (ivalidChecks_any A l.length c l f g _ rfl).mono ?_
    rintro e w' ⟨he, rfl⟩
    rw [HV.out] at he
    subst he
    go_wp2
    go_loop [7, 18] (fun v i => ∃ k : Nat, k ≤ l.length ∧ v = .bool (gst l f g k) ∧ i = .int .i64 k) (fun _ i => l.length - (intOf i).toNat)
    case atStart => exact ⟨0, Nat.zero_le _, rfl, rfl⟩
    case round =>
      obtain ⟨k, hk, rfl, rfl⟩ := hrel
      by_cases hlt : k < l.length
      · have hi : (k : Int) < (l.length : Int) := by omega
        have hk1 : (k : Int) + 1 ≤ (l.length : Int) := by omega
        have hk2 : (l.length : Int) ≤ (c : Int) := by omega
        have hk3 : (k : Int) + 1 ≤ 12 := by omega
        have hk0 : (0 : Int) ≤ (k : Int) + 1 := by omega
        obtain ⟨b, o, rfl, _, hc⟩ := h.boo hlt
        have hst := h.btake (k + 1)
        have HKL := hid (show (l.take (k + 1)).length = k + 1 by rw [List.length_take]; omega)
        have HS := gst_step (f := f) (g := g) hlt
        have HR := last_take (k := k + 1) h12
        obtain ⟨x, hx⟩ : ∃ x, x = l[k] := ⟨_, rfl⟩
        rw [← hx] at hc HS
        obtain ⟨G, hG⟩ : ∃ G, G = gst l f g k := ⟨_, rfl⟩
        rw [← hG] at HS ⊢
        obtain ⟨R, hR⟩ : ∃ R : Int, R = run (l.take (k + 1)) := ⟨_, rfl⟩
        rw [← hR] at HS HR
        have HRR := hid HR
        clear hx hG hR HR
        cases x
        · by_cases hq : f ≤ R
          · have HG := hid (show gst l f g (k + 1) = false by rw [HS]; simp [hq])
            clear HS
            go_wp2_with fail
            refine (iLastRun_any (some ⟨b, o, none⟩) _ c _ _ HKL.out hst (by rw [HKL.out]; omega)).mono ?_
            rintro e w' ⟨he, rfl⟩
            rw [HRR.out] at he
            subst he
            go_wp2
            go_round
            case rel => exact ⟨k + 1, by omega, by rw [HG.out], by go_num⟩
            case measure => simp [intOf]; omega
          · have HG := hid (show gst l f g (k + 1) = G by rw [HS]; simp [hq])
            clear HS
            go_wp2_with fail
            refine (iLastRun_any (some ⟨b, o, none⟩) _ c _ _ HKL.out hst (by rw [HKL.out]; omega)).mono ?_
            rintro e w' ⟨he, rfl⟩
            rw [HRR.out] at he
            subst he
            go_wp2
            go_round
            case rel => exact ⟨k + 1, by omega, by rw [HG.out], by go_num⟩
            case measure => simp [intOf]; omega
        · by_cases hq : g ≤ R
          · have HG := hid (show gst l f g (k + 1) = true by rw [HS]; simp [hq])
            clear HS
            go_wp2_with fail
            refine (iLastRun_any (some ⟨b, o, none⟩) _ c _ _ HKL.out hst (by rw [HKL.out]; omega)).mono ?_
            rintro e w' ⟨he, rfl⟩
            rw [HRR.out] at he
            subst he
            go_wp2
            go_round
            case rel => exact ⟨k + 1, by omega, by rw [HG.out], by go_num⟩
            case measure => simp [intOf]; omega
          · have HG := hid (show gst l f g (k + 1) = G by rw [HS]; simp [hq])
            clear HS
            go_wp2_with fail
            refine (iLastRun_any (some ⟨b, o, none⟩) _ c _ _ HKL.out hst (by rw [HKL.out]; omega)).mono ?_
            rintro e w' ⟨he, rfl⟩
            rw [HRR.out] at he
            subst he
            go_wp2
            go_round
            case rel => exact ⟨k + 1, by omega, by rw [HG.out], by go_num⟩
            case measure => simp [intOf]; omega
      · have hi : ¬ (k : Int) < (l.length : Int) := by omega
        have hke : k = l.length := by omega
        have HG := hid (show gst l f g k = goodB l f g by rw [hke, E0.out])
        clear hke
        go_wp2
        go_ret
        exact ⟨ret_bool HG.out, rfl⟩

set_option maxHeartbeats 4000000 in
theorem iGoodPath_any (A : Option Addr) (n c : Nat) (l : List Bool) (f g : Int) (w : World) (hl : l.length = n) (h : Sees w w.heap.size A (boos l)) (hcap : l.length ≤ c) (hn : l.length ≤ 4194304) :
    Calls Try.prog 9 #[.slice A n c, .int .i64 f, .int .i64 g] w fun e w' => ∃ v, e = .returned v ∧ Own w' w.heap.size v (path l f g) ∧ Below w.heap.size w w' := by
  subst hl
  obtain ⟨i0, hi0, hz0, hz1, hz2⟩ := info_parts intInfo
  rcases hv : chkB l f g with _ | _
  · have HV := hid hv
    have E0 := hid (show path l f g = [] by unfold path; rw [hv]; rfl)
    clear hv
    go_enter Try.func9, Try.ntmps9
    go_wp2_with fail
    refine (ivalidChecks_any A l.length c l f g _ rfl).mono ?_
    rintro e w' ⟨he, rfl⟩
    rw [HV.out] at he
    subst he
    go_wp2
    go_ret
    exact ⟨_, rfl, by rw [E0.out]; exact Own.none_ _ _, Below.refl _ _⟩
  · have HV := hid hv
    have E0 := hid (path_steps hv)
    have h12 := (chkB_iff.1 hv).1
    have GT := hid (fun (k : Nat) (hk : k ≤ l.length) => goodB_take hv hk)
    clear hv
    go_enter Try.func9, Try.ntmps9
    go_wp2_with fail
    refine (ivalidChecks_any A l.length c l f g _ rfl).mono ?_
    rintro e w' ⟨he, rfl⟩
    rw [HV.out] at he
    subst he
    go_wp2
    go_loopw [7, 16] (fun v i wr => ∃ k : Nat, k ≤ l.length ∧ i = .int .i64 k ∧ Own wr w.heap.size v (steps l f g k) ∧ Below w.heap.size w wr) (fun _ i _ => l.length - (intOf i).toNat)
    case atStart => exact ⟨0, Nat.zero_le _, rfl, Own.none_ _ _, Below.refl _ _⟩
    case round =>
      obtain ⟨k, hk, rfl, ho, hb⟩ := hrel
      by_cases hlt : k < l.length
      · have hi : (k : Int) < (l.length : Int) := by omega
        have hk1 : (k : Int) + 1 ≤ (l.length : Int) := by omega
        have hk2 : (l.length : Int) ≤ (c : Int) := by omega
        have hk3 : (k : Int) + 1 ≤ 12 := by omega
        have hk0 : (0 : Int) ≤ (k : Int) + 1 := by omega
        obtain ⟨b, o, rfl, hbl, _⟩ := (h.below hb).boo hlt
        have hst := (h.below hb).btake (k + 1)
        have HKL := hid (show (l.take (k + 1)).length = k + 1 by rw [List.length_take]; omega)
        have HG := hid (GT.out (k + 1) (by omega))
        have HT := hid (steps_succ l f g k)
        have HL := hid (steps_len l f g k)
        obtain ⟨G, hG⟩ : ∃ G, G = gst l f g (k + 1) := ⟨_, rfl⟩
        rw [← hG] at HG HT
        obtain ⟨R, hR⟩ : ∃ R, R = steps l f g k := ⟨_, rfl⟩
        rw [← hR] at HT HL ho
        clear hG hR
        have hz := hb.size
        go_wp2_with fail
        refine (iIsGood_any (some ⟨b, o, none⟩) _ c _ f g _ HKL.out hst (by rw [HKL.out]; omega) (by rw [HKL.out]; omega)).mono ?_
        rintro e w' ⟨he, rfl⟩
        rw [HG.out] at he
        subst he
        go_wp2_with fail
        refine (bitOf_any G _).mono ?_
        rintro e w' ⟨rfl, rfl⟩
        have hbit : ((G.toNat : Nat) : Int) = bit G := by cases G <;> rfl
        have hbv := (show G.toNat < 2 by cases G <;> simp)
        have hL := HL.out
        skip
        go_wp2_with (at_builtin; refine wpList_append_own _ rfl _ _ 26 rfl w.heap.size 3 i0 (.int .i64 0) 1 8 Try.underlying26 hi0 hz0 hz1 hz2 rfl (by decide) _ _ _ rfl (ho.out.alloc _) ⟨wr.heap.size, 0, none⟩ 1 1 [.int .i64 (bit G)] rfl rfl (by first | exact cell_one_new _ _ _ | (rw [← hbit]; exact cell_one_new _ _ _)) ?c2 ?c3 ?c4 ?c5 ?_)
        case c2 => simp [Value.oneCell']
        case c3 => unfold maxLen; omega
        case c4 => omega
        case c5 => simp; omega
        case _ =>
          intro v1 w5 h5 hg5 _
          obtain ⟨ho5, hb5⟩ := ho.snoc (x := bit G) hb (Nat.le_refl _) (by rw [HL.out]; exact h5) hg5
          clear h5 hg5
          go_wp2
          go_roundw
          case rel => exact ⟨k + 1, by omega, by go_num, by rw [HT.out]; exact ho5, hb5⟩
          case measure => simp [intOf]; omega
      · have hi : ¬ (k : Int) < (l.length : Int) := by omega
        have hke : k = l.length := by omega
        rw [hke, ← E0.out] at ho
        clear hke
        go_wp2
        go_ret
        exact ⟨_, rfl, ho, hb⟩

set_option maxHeartbeats 1000000 in
theorem iGoodShare_any (A : Option Addr) (n c : Nat) (l : List Bool) (w : World) {B : Nat} (hl : l.length = n) (h : Sees w B A (boos l)) (hn : l.length ≤ 4194304) :
    Calls Try.prog 14 #[.slice A n c] w fun e w' => e = .returned (.int .i64 (share l)) ∧ w = w' := by
  subst hl
  by_cases h12 : l.length ≤ 12
  · have hi12 : ¬ (l.length : Int) > 12 := by omega
    by_cases h0 : l.length = 0
    · have hi0 : ((l.length : Int) == 0) = true := by simp [h0]
      have E0 := hid (show share l = 100 by unfold share; rw [if_pos h12, if_pos h0])
      clear h0
      go_enter Try.func14, Try.ntmps14
      go_wp2
      go_ret
      exact ⟨ret_int (by rw [E0.out]), rfl⟩
    · have hi0 : ((l.length : Int) == 0) = false := by rw [beq_eq_false_iff_ne]; omega
      have E0 := hid (show share l = ((100 * cnt l / l.length : Nat) : Int) by unfold share; rw [if_pos h12, if_neg h0])
      have hcl := cnt_le l
      have HW : Hid (word l = wordR l.reverse) := hid rfl
      have HC := hid (show l.reverse.count true = cnt l by unfold cnt; rw [List.count_reverse])
      have hi1 : ¬ (l.length : Int) = 0 := by omega
      go_enter Try.func14, Try.ntmps14
      go_wp2_with fail
      refine (wordOf_any A c l _ h h12).mono ?_
      rintro e w' ⟨rfl, rfl⟩
      rw [HW.out]
      go_wp2_with fail
      refine (countBits_any l.reverse _ (by simpa using h12)).mono ?_
      rintro e w' ⟨rfl, rfl⟩
      rw [HC.out]
      obtain ⟨C, hC⟩ : ∃ C, C = cnt l := ⟨_, rfl⟩
      rw [← hC] at hcl E0 ⊢
      clear hC
      have hw1 : IntKind.i64.wrap (100 * (C : Int)) = 100 * (C : Int) := by rw [IntKind.wrap_i64]; omega
      have ht : (100 * (C : Int)).tdiv (l.length : Int) = ((100 * C / l.length : Nat) : Int) := by rw [Int.tdiv_eq_ediv_of_nonneg (by omega)]; simp
      have hqn := Nat.div_le_self (100 * C) l.length
      have hqc : 100 * (C : Int) / (l.length : Int) = ((100 * C / l.length : Nat) : Int) := by simp
      obtain ⟨Q, hQ⟩ : ∃ Q, Q = 100 * C / l.length := ⟨_, rfl⟩
      rw [← hQ] at ht hqn hqc E0
      have hw2 : IntKind.i64.wrap (Q : Int) = Q := by rw [IntKind.wrap_i64]; omega
      clear hQ
      go_wp2
      go_ret
      exact ⟨ret_int (by first | (rw [E0.out]; done) | (rw [E0.out, hqc]; done) | (rw [E0.out]; simp; done)), rfl⟩
  · have hi12 : (l.length : Int) > 12 := by omega
    have E0 := hid (show share l = -1 by unfold share; rw [if_neg h12])
    go_enter Try.func14, Try.ntmps14
    go_wp2
    go_ret
    exact ⟨ret_int (by rw [E0.out]), rfl⟩

end Go.Proofs.Ythghmpcfiakjgac

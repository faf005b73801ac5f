/-
  What the model's BestCache answers. Condition: the lists lie in memory.
-/
import Derived.Test.YtfophplmdljhbaaCaI
import Derived.BigQuiet
namespace Go.Proofs.Ytfophplmdljhbaa
open Go.RowKit Cac Lea

def mostV (vs : List Int) (n : Nat) (k : Nat) : Int := if lst vs k = -1 then -1 else (n : Int) - vs.getD (lst vs k).toNat 0
theorem mostV_zero (vs : List Int) (n : Nat) : mostV vs n 0 = -1 := rfl
theorem mostV_take {vs : List Int} {n k : Nat} {x : Int} (e : vs.getD k 0 = (n : Int) - x) (h : mostV vs n k < x) : lst vs (k + 1) = k ∧ mostV vs n (k + 1) = x := by
  have e1 : lst vs (k + 1) = k := by
    refine lst_take ?_
    unfold mostV at h
    split at h
    · rename_i h1; exact .inl h1
    · right; omega
  refine ⟨e1, ?_⟩
  unfold mostV
  rw [e1, if_neg (by omega), Int.toNat_natCast, e]; omega
theorem mostV_keep {vs : List Int} {n k : Nat} {x : Int} (e : vs.getD k 0 = (n : Int) - x) (h0 : 0 ≤ x) (h : ¬ mostV vs n k < x) : lst vs (k + 1) = lst vs k ∧ mostV vs n (k + 1) = mostV vs n k := by
  have e1 : lst vs (k + 1) = lst vs k := by
    refine lst_keep fun hh => h ?_
    unfold mostV
    split
    · omega
    · rename_i h1; have := hh.resolve_left h1; omega
  refine ⟨e1, ?_⟩
  unfold mostV
  rw [e1]
theorem sisIn_qn {A : Option Addr} {c n : Nat} {xs : List Int} {x : Int} {w : World} {b : Bool} {B : Nat} (hm : mem xs x = b) (hl : xs.length = n) (m : Nat) (h : Sees w B A (ints xs)) (hn : xs.length ≤ 4194304) :
    Calls Try.prog 17 #[.slice A n c, .int .i64 x] (w.drewN m) fun e w' => e = .returned (.bool b) ∧ ∃ k, w' = w.drewN k := by
  subst hl hm
  exact Calls.quiet_of_same ((sisIn_any A c xs x _ (h.drewN m) (Nat.le_trans hn (by decide))).mono fun _ _ ⟨he, hw⟩ => ⟨he, hw.symm⟩)
theorem lisIn_qn {A : Option Addr} {c n : Nat} {xs : List Int} {x : Int} {w : World} {b : Bool} {B : Nat} (hm : mem xs x = b) (hl : xs.length = n) (m : Nat) (h : Sees w B A (ints xs)) (hn : xs.length ≤ 4194304) :
    Calls Try.prog 14 #[.slice A n c, .int .i64 x] (w.drewN m) fun e w' => e = .returned (.bool b) ∧ ∃ k, w' = w.drewN k := by
  subst hl hm
  exact Calls.quiet_of_same ((lisIn_any A c xs x _ (h.drewN m) (Nat.le_trans hn (by decide))).mono fun _ _ ⟨he, hw⟩ => ⟨he, hw.symm⟩)
set_option maxHeartbeats 8000000 in
theorem sBestCache_any (A1 A2 : Option Addr) (c1 c2 : Nat) (rs : List Rc) (l : List Int) (w : World) (h : SeesC w w.heap.size A1 rs) (h' : Sees w w.heap.size A2 (ints l)) (hc2 : l.length ≤ c2) (hn : rs.length ≤ 4194304) (hl : ∀ r ∈ rs, r.m.n.length ≤ 4194304) (hm : l.length ≤ 4194304) :
    Calls Try.prog 7 #[.slice A1 rs.length c1, .slice A2 l.length c2] w fun e w' => e = .returned (.int .i64 (besV rs l)) ∧ Below w.heap.size w w' := by
  have HN := hid hn
  have HL := hid hl
  have HM := hid hm
  have HC2 := hid hc2
  clear hn hl hm hc2
  by_cases h6 : rs.length ≤ 6
  case neg =>
    have h6' : (rs.length : Int) > 6 := by omega
    have E := hid (besV_no (rs := rs) (l := l) (by simp [cc_long h6]))
    clear h6
    go_enter Try.func7, Try.ntmps7
    go_wp2
    go_ret
    exact ⟨by rw [E.out]; rfl, Below.refl _ _⟩
  have h6' : ¬ (rs.length : Int) > 6 := by omega
  by_cases h16 : (l.length : Int) > 16
  · have E := hid (besV_no (rs := rs) (l := l) (fun hh => by have := (namesB_iff.1 hh.2.1).1; omega))
    clear h6
    go_enter Try.func7, Try.ntmps7
    go_wp2
    go_ret
    exact ⟨by rw [E.out]; rfl, Below.refl _ _⟩
  rcases hw : allB l 0 9 with _ | _
  · have E := hid (besV_no (rs := rs) (l := l) (fun hh => inN_no.1 hw (namesB_iff.1 hh.2.1).2))
    have HW := hid hw
    clear hw h6
    go_enter Try.func7, Try.ntmps7
    go_wp2_with fail
    with_reducible refine (allIn_any A2 c2 l 0 9 _ h' (Nat.le_trans HM.out (by decide))).mono ?_
    rintro e w' ⟨he, rfl⟩
    rw [HW.out] at he
    subst he
    go_wp2
    go_ret
    exact ⟨by rw [E.out]; rfl, Below.refl _ _⟩
  have HNB := hid (show namesB l = true from namesB_iff.2 ⟨by omega, inN_allB.1 hw⟩)
  have HW := hid hw
  have H6 := hid h6
  clear hw h6
  go_enter Try.func7, Try.ntmps7
  go_wp2_with fail
  with_reducible refine (allIn_any A2 c2 l 0 9 _ h' (Nat.le_trans HM.out (by decide))).mono ?_
  rintro e w' ⟨he, rfl⟩
  rw [HW.out] at he
  subst he
  go_wp2
  go_loopw [7] (fun i wr => ∃ k : Nat, k ≤ l.length ∧ i = .int .i64 k ∧ Hid ((l.take k).Nodup) ∧ Below w.heap.size w wr) (fun i _ => l.length - (intOf i).toNat)
  case atStart => exact ⟨0, Nat.zero_le _, rfl, hid (by simp), Below.refl _ _⟩
  case round =>
    obtain ⟨k, hk, rfl, HA, hb⟩ := hrel
    have hn := HM.out
    have hc2 := HC2.out
    by_cases hlt : k < l.length
    · have hi : (k : Int) < (l.length : Int) := by omega
      have hk0 : (0 : Int) ≤ (k : Int) := by omega
      have hkl : (k : Int) ≤ (l.length : Int) := by omega
      have hkc : (k : Int) ≤ (c2 : Int) := by omega
      have hlc : (l.length : Int) ≤ (c2 : Int) := by omega
      have hsw := h'.below hb
      obtain ⟨b, o, rfl, hbl, e0⟩ := hsw.int hlt
      have hst := hsw.itake k
      have HTL : Hid ((l.take k).length = k) := hid (by rw [List.length_take]; omega)
      have HTN := hid (show (l.take k).length ≤ 4194304 by rw [List.length_take]; omega)
      have HS := hid (fun (hh : l[k] ∉ l.take k) => nodup_step hlt HA.out hh)
      have HX := hid (fun (hh : l[k] ∈ l.take k) => nodup_not hlt hh)
      obtain ⟨x, hx⟩ : ∃ x, x = l[k] := ⟨_, rfl⟩
      rw [← hx] at e0 HS HX
      clear hx
      rcases hmm : mem (l.take k) x with _ | _
      · have HMM := hid hmm
        have HS2 := hid (HS.out (mem_no.1 hmm))
        clear hmm
        go_wp2_with fail
        go_quiet (first
          | (go_at_call 17; (with_reducible refine sisIn_qn HMM.out HTL.out _ hst HTN.out)))
        have hbd := below_drewN hb nq
        go_wp2
        go_roundw
        case rel => exact ⟨k + 1, by omega, by go_num, HS2, hbd⟩
        case measure => simp [intOf]; omega
      · have HMM := hid hmm
        have E := hid (besV_no (rs := rs) (l := l) (fun hh => by have := HX.out (mem_iff.1 hmm); simp [hh.2.2] at this))
        clear hmm
        go_wp2_with fail
        go_quiet (first
          | (go_at_call 17; (with_reducible refine sisIn_qn HMM.out HTL.out _ hst HTN.out)))
        have hbd := below_drewN hb nq
        go_wp2
        go_ret
        exact ⟨by rw [E.out]; rfl, hbd⟩
    · have hi : ¬ (k : Int) < (l.length : Int) := by omega
      have HND := hid (show l.Nodup by have := HA.out; rwa [List.take_of_length_le (by omega)] at this)
      have HB0 := hid hb
      clear HA hb
      go_wp2
      clear hk hi hlt
      go_loopw [5, 6, 8] (fun v u i wq => ∃ k : Nat, k ≤ rs.length ∧ v = .int .i64 (lst (misses (chs rs) l) k) ∧ u = .int .i64 (mostV (misses (chs rs) l) l.length k) ∧ i = .int .i64 k ∧ Hid (Ck rs k) ∧ Below w.heap.size w wq) (fun _ _ i _ => rs.length - (intOf i).toNat)
      case atStart => exact ⟨0, Nat.zero_le _, rfl, rfl, rfl, hid (ck_zero rs), HB0.out⟩
      case round =>
        clear HB0
        obtain ⟨k, hk, rfl, rfl, rfl, HF, hb⟩ := hrel
        have h6 := H6.out
        by_cases hlt : k < rs.length
        · have hi : (k : Int) < (rs.length : Int) := by omega
          have hi0 : (0 : Int) ≤ (k : Int) := by omega
          obtain ⟨b, o, rfl, hbl, e0, e1, hs, hcp⟩ := (h.below hb).row hlt
          have hz := hb.size
          have hm := HL.out _ (List.getElem_mem hlt)
          have HS := hid (fun hh => ck_succ HF.out hlt hh)
          have HNO := hid (fun hh => cc_not (rs := rs) hlt hh)
          have HAT := hid ((missr_at (l := l) hlt).trans (miss_cnt l rs[k].m))
          obtain ⟨x, hx⟩ : ∃ x, x = rs[k] := ⟨_, rfl⟩
          rw [← hx] at e0 e1 hs hm HS HNO HAT
          have HXX := hid hx
          clear hx hcp
          rcases hv : cacheB x.m with _ | _
          · have HV := hid hv
            have HX := hid (besV_no (rs := rs) (l := l) (by simp [HNO.out hv]))
            clear hv
            go_wp2_with fail
            with_reducible refine (svalidCache_any x.m x.A x.c _ (SeesN.of (hs.more hz)) hm).mono ?_
            rintro e w1 ⟨he, hb1⟩
            rw [HV.out] at he
            subst he
            go_wp2
            go_ret
            exact ⟨by rw [HX.out]; rfl, hb.trans (hb1.mono hz)⟩
          have HV := hid hv
          have HX := hid (HS.out hv)
          have HTK := hid (fun hh => mostV_take (k := k) HAT.out hh)
          have HKP := hid (fun hh => mostV_keep (k := k) HAT.out (by omega) hh)
          clear hv
          obtain ⟨V, hV⟩ : ∃ V, V = lst (misses (chs rs) l) k := ⟨_, rfl⟩
          obtain ⟨U, hU⟩ : ∃ U, U = mostV (misses (chs rs) l) l.length k := ⟨_, rfl⟩
          rw [← hV, ← hU] at HKP
          rw [← hU] at HTK
          simp only [← hV, ← hU]
          clear hV hU
          go_wp2_with fail
          with_reducible refine (svalidCache_any x.m x.A x.c _ (SeesN.of (hs.more hz)) hm).mono ?_
          rintro e w1 ⟨he, hb1⟩
          rw [HV.out] at he
          subst he
          have hB1 := hb.trans (hb1.mono hz)
          have hbw := hbl
          clear hb1 hb e0 e1 hs hbl hz
          obtain ⟨N, hN⟩ : ∃ N, N = cnt l x.m := ⟨_, rfl⟩
          have HNE := hid hN
          rw [← hN] at HTK HKP
          clear hN
          have HBB := hid hB1
          go_wp2
          go_loopw [9, 10] (fun n j wr => ∃ q : Nat, q ≤ l.length ∧ n = .int .i64 (cnt (l.take q) x.m : Nat) ∧ j = .int .i64 q ∧ Below w.heap.size w wr) (fun _ j _ => l.length - (intOf j).toNat)
          case atStart => exact ⟨0, Nat.zero_le _, rfl, rfl, HBB.out⟩
          case round =>
            clear HBB hB1
            obtain ⟨q, hq, rfl, rfl, hb⟩ := hrel
            by_cases hql : q < l.length
            · have hqi : (q : Int) < (l.length : Int) := by omega
              have hq0 : (0 : Int) ≤ (q : Int) := by omega
              obtain ⟨b2, o2, e2, _, _, f1, hs, _⟩ := (h.below hb).row hlt
              injection e2 with e2
              injection e2 with e2 e3
              subst e2 e3
              obtain ⟨b3, o3, rfl, hbl3, g0⟩ := (h'.below hb).int hql
              have HCS := hid (cnt_succ (c := x.m) hql)
              have hcl := cnt_le (l.take q) x.m
              rw [List.length_take] at hcl
              rw [← HXX.out] at f1 hs
              have hmn := HM.out
              have hxm := HL.out x (by rw [HXX.out]; exact List.getElem_mem hlt)
              obtain ⟨y, hy⟩ : ∃ y, y = l[q] := ⟨_, rfl⟩
              rw [← hy] at g0 HCS
              obtain ⟨C, hC⟩ : ∃ C, C = cnt (l.take q) x.m := ⟨_, rfl⟩
              rw [← hC] at HCS hcl
              simp only [← hC]
              clear hy hC
              have hw1 : IntKind.i64.wrap ((C : Int) + 1) = (C : Int) + 1 := by rw [IntKind.wrap_i64]; omega
              have hw0 : IntKind.i64.wrap (C : Int) = (C : Int) := by rw [IntKind.wrap_i64]; omega
              rcases hmm : mem x.m.n y with _ | _
              · have HMM := hid hmm
                have HQ : Hid (cnt (l.take (q + 1)) x.m = C) := hid (by rw [HCS.out, hmm]; rfl)
                clear hmm
                go_wp2_with fail
                go_quiet (first
                  | (go_at_call 17; (with_reducible refine sisIn_qn HMM.out rfl _ hs hxm))
                  | (go_at_call 19; (with_reducible refine caToInt_q _ _ _)))
                have hbd := below_drewN hb nq
                go_wp2
                go_roundw
                case rel => exact ⟨q + 1, by omega, by rw [HQ.out], by go_num, hbd⟩
                case measure => simp [intOf]; omega
              · have HMM := hid hmm
                have HQ : Hid (cnt (l.take (q + 1)) x.m = C + 1) := hid (by rw [HCS.out, hmm]; rfl)
                clear hmm
                go_wp2_with fail
                go_quiet (first
                  | (go_at_call 17; (with_reducible refine sisIn_qn HMM.out rfl _ hs hxm))
                  | (go_at_call 19; (with_reducible refine caToInt_q _ _ _)))
                have hbd := below_drewN hb nq
                go_wp2
                go_roundw
                case rel => exact ⟨q + 1, by omega, by rw [HQ.out]; go_num, by go_num, hbd⟩
                case measure => simp [intOf]; omega
            · have hqi : ¬ (q : Int) < (l.length : Int) := by omega
              have HQ : Hid (cnt (l.take q) x.m = N) := hid (by rw [List.take_of_length_le (by omega)]; exact HNE.out.symm)
              rw [HQ.out]
              by_cases hNU : U < (N : Int)
              · have HY := hid (HTK.out hNU)
                have hNU' : (N : Int) > U := hNU
                go_wp2
                go_roundw
                case rel => exact ⟨k + 1, by omega, by rw [HY.out.1], by rw [HY.out.2], by go_num, HX, hb⟩
                case measure => simp [intOf]; omega
              · have HY := hid (HKP.out (by omega))
                have hNU' : ¬ (N : Int) > U := hNU
                go_wp2
                go_roundw
                case rel => exact ⟨k + 1, by omega, by rw [HY.out.1], by rw [HY.out.2], by go_num, HX, hb⟩
                case measure => simp [intOf]; omega
        · have hi : ¬ (k : Int) < (rs.length : Int) := by omega
          have hkl : k = rs.length := by omega
          have HX := hid (besV_yes (ck_all HF.out hlt H6.out) HNB.out HND.out)
          subst hkl
          go_wp2
          go_ret
          exact ⟨by rw [HX.out]; rfl, hb⟩

end Go.Proofs.Ytfophplmdljhbaa

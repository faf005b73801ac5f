/-
  What the model's validHosts, RouteRead and RouteWrite answer. Condition: the list lies in memory.
-/
import Derived.Test.YtmaocmgnkdieeabHoB
namespace Go.Proofs.Ytmaocmgnkdieeab
open Go.RowKit Hos

set_option maxHeartbeats 8000000 in
theorem svalidHosts_any (A : Option Addr) (c : Nat) (l : List Hst) (w : World) (h : Sees w w.heap.size A (strip hcl l)) (hn : l.length ≤ 4194304) :
    Calls Try.prog 37 #[.slice A l.length c] w fun e w' => e = .returned (.bool (hostsB l)) ∧ Below w.heap.size w w' := by
  have HN := hid hn
  clear hn
  go_enter Try.func37, Try.ntmps37
  go_wp2
  go_loop [3] (fun i => ∃ k : Nat, k ≤ l.length ∧ i = .int .i64 k ∧ Hid (∀ x ∈ l.take k, x.ok = true) ∧ Hid (0 < k → lag0 l = 0)) (fun i => l.length - (intOf i).toNat)
  case atStart => exact ⟨0, Nat.zero_le _, rfl, hid (by simp), hid (by omega)⟩
  case round =>
    obtain ⟨k, hk, rfl, HA, HL⟩ := hrel
    have hn := HN.out
    by_cases hlt : k < l.length
    · have hi : (k : Int) < (l.length : Int) := by omega
      have hi0 : (0 : Int) ≤ (k : Int) := by omega
      obtain ⟨b, o, rfl, hbl, e0, e1, e2⟩ := h.host hlt
      have HS := hid (fun (hx : l[k].ok = true) => oks_succ hlt HA.out hx)
      have HNO := hid (fun (hx : l[k].ok = false) => (show hostsB l = false from hosts_no fun hh => by rw [hh.2.2.1 _ (List.getElem_mem hlt)] at hx; cases hx))
      have HLG := hid (fun (hk0 : k = 0) => (show lag0 l = l[k].g by subst hk0; exact lag0_at hlt))
      obtain ⟨x, hx⟩ : ∃ x, x = l[k] := ⟨_, rfl⟩
      rw [← hx] at e0 e1 e2 HS HNO HLG
      clear hx
      rcases d1 : inB x.l 0 100 with _ | _
      · have HX := hid (HNO.out (Hst.ok_no (fun hh => by rw [inB_iff.2 ⟨hh.1, hh.2.1⟩] at d1; cases d1)))
        have HD := hid d1
        clear d1
        go_wp2_with fail
        with_reducible refine (inRange_any _ _ _ _).mono ?_
        rintro e w' ⟨he, rfl⟩
        rw [HD.out] at he
        subst he
        go_wp2
        go_ret
        exact ⟨ret_bool HX.out.symm, Below.refl _ _⟩
      rcases d2 : inB x.g 0 1000 with _ | _
      · have HX := hid (HNO.out (Hst.ok_no (fun hh => by rw [inB_iff.2 hh.2.2] at d2; cases d2)))
        have HD := hid d1
        have HD2 := hid d2
        clear d1 d2
        go_wp2_with fail
        with_reducible refine (inRange_any _ _ _ _).mono ?_
        rintro e w' ⟨he, rfl⟩
        rw [HD.out] at he
        subst he
        go_wp2_with fail
        with_reducible refine (inRange_any _ _ _ _).mono ?_
        rintro e w' ⟨he, rfl⟩
        rw [HD2.out] at he
        subst he
        go_wp2
        go_ret
        exact ⟨ret_bool HX.out.symm, Below.refl _ _⟩
      have hok := hid (HS.out (Hst.ok_iff.2 ⟨(inB_iff.1 d1).1, (inB_iff.1 d1).2, (inB_iff.1 d2).1, (inB_iff.1 d2).2⟩))
      have HD := hid d1
      have HD2 := hid d2
      clear d1 d2
      by_cases hk0 : k = 0
      · have hkz : ((k : Int) == 0) = true := by simp [hk0]
        rcases hg : (x.g != 0) with _ | _
        · have HX := hid (fun (_ : 0 < k + 1) => (show lag0 l = 0 by rw [HLG.out hk0]; simpa using hg))
          have HK0 := hid hk0
          clear hk0
          go_wp2_with fail
          with_reducible refine (inRange_any _ _ _ _).mono ?_
          rintro e w' ⟨he, rfl⟩
          rw [HD.out] at he
          subst he
          go_wp2_with fail
          with_reducible refine (inRange_any _ _ _ _).mono ?_
          rintro e w' ⟨he, rfl⟩
          rw [HD2.out] at he
          subst he
          go_wp2
          go_round
          case rel => exact ⟨k + 1, by omega, by go_num, hok, HX⟩
          case measure => simp [intOf]; omega
        · have HX := hid (show hostsB l = false from hosts_no fun hh => by rw [HLG.out hk0] at hh; have := hh.2.2.2; simp [this] at hg)
          have HK0 := hid hk0
          clear hk0
          go_wp2_with fail
          with_reducible refine (inRange_any _ _ _ _).mono ?_
          rintro e w' ⟨he, rfl⟩
          rw [HD.out] at he
          subst he
          go_wp2_with fail
          with_reducible refine (inRange_any _ _ _ _).mono ?_
          rintro e w' ⟨he, rfl⟩
          rw [HD2.out] at he
          subst he
          go_wp2
          go_ret
          exact ⟨ret_bool HX.out.symm, Below.refl _ _⟩
      · have hkz : ((k : Int) == 0) = false := beq_eq_false_iff_ne.2 (by omega)
        have HX := hid (fun (_ : 0 < k + 1) => HL.out (by omega))
        have HK0 := hid hk0
        clear hk0
        go_wp2_with fail
        with_reducible refine (inRange_any _ _ _ _).mono ?_
        rintro e w' ⟨he, rfl⟩
        rw [HD.out] at he
        subst he
        go_wp2_with fail
        with_reducible refine (inRange_any _ _ _ _).mono ?_
        rintro e w' ⟨he, rfl⟩
        rw [HD2.out] at he
        subst he
        go_wp2
        go_round
        case rel => exact ⟨k + 1, by omega, by go_num, hok, HX⟩
        case measure => simp [intOf]; omega
    · have hi : ¬ (k : Int) < (l.length : Int) := by omega
      have ha := HA.out
      rw [take_whole hlt] at ha
      have HV := hid (show hostsB l = inB (l.length : Int) 1 5 by
        rw [Bool.eq_iff_iff, hostsB_iff, inB_iff]
        exact ⟨fun hh => by omega, fun hh => ⟨by omega, by omega, ha, HL.out (by omega)⟩⟩)
      obtain ⟨V, hV⟩ : ∃ V, V = inB (l.length : Int) 1 5 := ⟨_, rfl⟩
      have HVV := hid hV
      clear ha hV
      go_wp2_with fail
      with_reducible refine (inRange_any _ _ _ _).mono ?_
      rintro e w' ⟨he, rfl⟩
      rw [← HVV.out] at he
      subst he
      go_wp2
      go_ret
      exact ⟨ret_bool (by rw [HV.out, HVV.out]), Below.refl _ _⟩
theorem svalidHosts_len {A : Option Addr} {n c : Nat} {l : List Hst} {w : World} (hl : l.length = n) (h : Sees w w.heap.size A (strip hcl l)) (hn : l.length ≤ 4194304) :
    Calls Try.prog 37 #[.slice A n c] w fun e w' => e = .returned (.bool (hostsB l)) ∧ Below w.heap.size w w' := by
  subst hl; exact svalidHosts_any A c l w h hn

set_option maxHeartbeats 8000000 in
theorem routeRead_any (A : Option Addr) (c : Nat) (l : List Hst) (g : Int) (w : World) (h : Sees w w.heap.size A (strip hcl l)) (hn : l.length ≤ 4194304) :
    Calls Try.prog 38 #[.slice A l.length c, .int .i64 g] w fun e w' => e = .returned (.int .i64 (bestH l g)) ∧ Below w.heap.size w w' := by
  have HN := hid hn
  clear hn
  go_enter Try.func38, Try.ntmps38
  go_wp2
  go_loopw [5, 6] (fun b i wr => ∃ (k : Nat) (n : Int), k ≤ l.length ∧ i = .int .i64 k ∧ b = .int .i64 n ∧ Hid (BestIn l g (Fst k) n) ∧ Below w.heap.size w wr) (fun _ i _ => l.length - (intOf i).toNat)
  case atStart => exact ⟨0, -1, Nat.zero_le _, rfl, rfl, hid (best_nil l g fun i => by unfold Fst; omega), Below.refl _ _⟩
  case round =>
    obtain ⟨k, n, hk, rfl, rfl, HB, hb⟩ := hrel
    have hn := HN.out
    by_cases hlt : k < l.length
    · have hi : (k : Int) < (l.length : Int) := by omega
      have hi0 : (0 : Int) ≤ (k : Int) := by omega
      have HSK := hid (fun hj => best_skip HB.out (fst_succ k) hj)
      have HTK := hid (fun hj hb => best_take HB.out (fst_succ k) hj hb)
      have hnl := best_lt HB.out
      obtain ⟨b, o, rfl, hbl, e0, e1, e2⟩ := (h.below hb).host hlt
      have hz := hb.size
      have HEL := hid (el_at (g := g) hlt)
      have HLD := hid (ld_at hlt)
      obtain ⟨x, hx⟩ : ∃ x, x = l[k] := ⟨_, rfl⟩
      rw [← hx] at e0 e1 e2 HEL HLD
      clear hx
      have hba := hb.alloc hb.size (.cells #[.int .i64 x.l, .int .i64 x.g, .bool x.d] 40)
      have hbw : b < wr.heap.size := by omega
      obtain ⟨xl, xg, xd⟩ := x
      simp only at e0 e1 e2 HEL HLD hba
      cases xd
      · by_cases hgt : xg ≤ g
        · have HE := hid (HEL.out.2 ⟨rfl, by simp; omega⟩)
          by_cases hn1 : n < 0
          · have HX := hid (HTK.out HE.out (fun q hq => by omega))
            clear HSK HTK
            go_wp2
            go_quiet (fail)
            go_wp2
            go_roundw
            case rel => exact ⟨k + 1, k, by omega, by go_num, rfl, HX, below_drewN hba _⟩
            case measure => simp [intOf]; omega
          · obtain ⟨q, rfl⟩ : ∃ q : Nat, n = q := ⟨n.toNat, by omega⟩
            have hql : q < l.length := by omega
            have hqi : (q : Int) < (l.length : Int) := by omega
            have hq0 : (0 : Int) ≤ (q : Int) := by omega
            have hqn : decide ((q : Int) < 0) = false := decide_eq_false hn1
            have hqk : q < k := (best_in HB.out).1
            obtain ⟨b', o', he, _, f0, f1, f2⟩ := (h.below hb).host hql
            obtain ⟨rfl, rfl⟩ : b = b' ∧ o = o' := by injection he with he; injection he with u v; exact ⟨u, v⟩
            rw [← ld_at hql] at f0
            have HRU := hid (bef_rule (l := l) hqk)
            have HNB := hid (fun (hh : ¬ bef l k q) => not_bef hh)
            obtain ⟨y, hy⟩ : ∃ y, y = ld l q := ⟨_, rfl⟩
            rw [← hy] at f0
            have HY := hid hy
            have HQN := hid hqn
            clear hy f1 f2 he hn1
            by_cases hxy : xl < y
            · have HX := hid (HTK.out HE.out (fun q' hq' => by
                have : q' = q := by omega
                subst this
                exact HRU.out.2 (.inl (by rw [HLD.out, ← HY.out]; exact hxy))))
              clear HSK HTK hqk
              go_wp2
              go_quiet (fail)
              go_wp2
              go_roundw
              case rel => exact ⟨k + 1, k, by omega, by go_num, rfl, HX, below_drewN hba _⟩
              case measure => simp [intOf]; omega
            · have hxyf : decide (xl < y) = false := decide_eq_false hxy
              rcases hxe : (xl == y) with _ | _
              · have HX := hid (HSK.out (.inr ⟨q, rfl, HNB.out (fun hh => by
                  have := HRU.out.1 hh
                  rw [HLD.out, ← HY.out] at this
                  simp at hxe
                  omega)⟩))
                clear HSK HTK hqk
                go_wp2
                go_quiet (fail)
                go_wp2
                go_roundw
                case rel => exact ⟨k + 1, q, by omega, by go_num, rfl, HX, below_drewN hba _⟩
                case measure => simp [intOf]; omega
              · rcases hqz : ((q : Int) == 0) with _ | _
                · have HX := hid (HSK.out (.inr ⟨q, rfl, HNB.out (fun hh => by
                    have := HRU.out.1 hh
                    rw [HLD.out, ← HY.out] at this
                    simp at hqz
                    omega)⟩))
                  clear HSK HTK hqk
                  go_wp2
                  go_quiet (fail)
                  go_wp2
                  go_roundw
                  case rel => exact ⟨k + 1, q, by omega, by go_num, rfl, HX, below_drewN hba _⟩
                  case measure => simp [intOf]; omega
                · have HX := hid (HTK.out HE.out (fun q' hq' => by
                    have : q' = q := by omega
                    subst this
                    exact HRU.out.2 (.inr ⟨by rw [HLD.out, ← HY.out]; simpa using hxe, by simpa using hqz⟩)))
                  clear HSK HTK hqk
                  go_wp2
                  go_quiet (fail)
                  go_wp2
                  go_roundw
                  case rel => exact ⟨k + 1, k, by omega, by go_num, rfl, HX, below_drewN hba _⟩
                  case measure => simp [intOf]; omega
        · have HX := hid (HSK.out (.inl (fun he => by have := (HEL.out.1 he).2; simp at this; omega)))
          have hgf : decide (xg ≤ g) = false := decide_eq_false hgt
          clear HSK HTK
          go_wp2
          go_quiet (fail)
          go_wp2
          go_roundw
          case rel => exact ⟨k + 1, n, by omega, by go_num, rfl, HX, below_drewN hba _⟩
          case measure => simp [intOf]; omega
      · have HX := hid (HSK.out (.inl (fun he => by have := (HEL.out.1 he).1; simp at this)))
        clear HSK HTK
        go_wp2
        go_quiet (fail)
        go_wp2
        go_roundw
        case rel => exact ⟨k + 1, n, by omega, by go_num, rfl, HX, below_drewN hba _⟩
        case measure => simp [intOf]; omega
    · have hi : ¬ (k : Int) < (l.length : Int) := by omega
      have hkk : k = l.length := by omega
      subst hkk
      have E := hid (bestH_eq HB.out)
      go_wp2
      go_ret
      exact ⟨ret_int E.out.symm, hb⟩
theorem routeRead_len {A : Option Addr} {n c : Nat} {l : List Hst} {g : Int} {w : World} (hl : l.length = n) (h : Sees w w.heap.size A (strip hcl l)) (hn : l.length ≤ 4194304) :
    Calls Try.prog 38 #[.slice A n c, .int .i64 g] w fun e w' => e = .returned (.int .i64 (bestH l g)) ∧ Below w.heap.size w w' := by
  subst hl; exact routeRead_any A c l g w h hn

theorem lag_inB (g : Int) : inB g 0 1000 = lagB g := by rw [Bool.eq_iff_iff, inB_iff, lagB_iff]
end Go.Proofs.Ytmaocmgnkdieeab

/-
  What the program's and the model's RouteRead answer, and the model's validHosts. Condition: the list lies in memory.
-/
import Derived.Test.YtmaocmgnkdieeabHoB
namespace Go.Proofs.Ytmaocmgnkdieeab
open Go.RowKit Hos

theorem rnd_bef {l : List Hst} {q k : Nat} (hs : Rnd l.length k q) (hk : k < l.length) (hle : ¬ ld l ((k + 1) % l.length) < ld l q) : bef l q ((k + 1) % l.length) := by
  unfold Rnd at hs
  unfold bef
  rcases Nat.lt_or_ge (k + 1) l.length with h | h
  · rw [Nat.mod_eq_of_lt h] at hle ⊢; omega
  · have e : k + 1 = l.length := by omega
    rw [e, Nat.mod_self] at hle ⊢; omega
set_option maxHeartbeats 8000000 in
theorem iRouteRead_any (A : Option Addr) (c : Nat) (l : List Hst) (g : Int) (w : World) (h : Sees w w.heap.size A (strip hcl l)) (hn : l.length ≤ 4194304) :
    Calls Try.prog 35 #[.slice A l.length c, .int .i64 g] w fun e w' => e = .returned (.int .i64 (routeH l g)) ∧ Below w.heap.size w w' := by
  have HN := hid hn
  clear hn
  rcases hv : hostsB l with _ | _
  · have E := hid (routeH_no (g := g) (.inl hv))
    have HV := hid hv
    clear hv
    go_enter Try.func35, Try.ntmps35
    go_wp2_with fail
    with_reducible refine (iValidHosts_any A c l _ h HN.out).mono ?_
    rintro e w1 ⟨he, hb1⟩
    rw [HV.out] at he
    subst he
    go_wp2
    go_ret
    exact ⟨ret_int E.out.symm, hb1⟩
  have HV := hid hv
  rcases hg : lagB g with _ | _
  · have E := hid (routeH_no (l := l) (.inr hg))
    have HG := hid hg
    clear hv hg
    go_enter Try.func35, Try.ntmps35
    go_wp2_with fail
    with_reducible refine (iValidHosts_any A c l _ h HN.out).mono ?_
    rintro e w1 ⟨he, hb1⟩
    rw [HV.out] at he
    subst he
    go_wp2_with fail
    with_reducible refine (hTime_any _ _).mono ?_
    rintro e w' ⟨he, rfl⟩
    rw [HG.out] at he
    subst he
    go_wp2
    go_ret
    exact ⟨ret_int E.out.symm, hb1⟩
  have HG := hid hg
  have HR := hid (routeH_yes hv hg)
  have HL := hid (hosts_len hv)
  clear hv hg
  go_enter Try.func35, Try.ntmps35
  go_wp2_with fail
  with_reducible refine (iValidHosts_any A c l _ h HN.out).mono ?_
  rintro e w1 ⟨he, hb1⟩
  rw [HV.out] at he
  subst he
  go_wp2_with fail
  with_reducible refine (hTime_any _ _).mono ?_
  rintro e w' ⟨he, rfl⟩
  rw [HG.out] at he
  subst he
  go_wp2
  go_loopw [5, 19] (fun b i wr => ∃ (k : Nat) (n : Int), k ≤ l.length ∧ i = .int .i64 k ∧ b = .int .i64 n ∧ Hid (BestIn l g (Rnd l.length k) n) ∧ Below w.heap.size w wr) (fun _ i _ => l.length - (intOf i).toNat)
  case atStart => exact ⟨0, -1, Nat.zero_le _, rfl, rfl, hid (best_nil l g fun i hi => by unfold Rnd at hi; have := HL.out; omega), hb1⟩
  case round =>
    clear hb1
    obtain ⟨k, n, hk, rfl, rfl, HB, hb⟩ := hrel
    have hl5 := HL.out.2
    by_cases hlt : k < l.length
    · have hi : (k : Int) < (l.length : Int) := by omega
      have hjl : (k + 1) % l.length < l.length := Nat.mod_lt _ (by omega)
      have HSK := hid (fun hj => best_skip HB.out (rnd_succ hlt) hj)
      have HTK := hid (fun hj hb => best_take HB.out (rnd_succ hlt) hj hb)
      have hnl := best_lt HB.out
      have hmod : Int.tmod ((k : Int) + 1) (l.length : Int) = (((k + 1) % l.length : Nat) : Int) := by
        rw [Int.tmod_eq_emod_of_nonneg (by omega)]
        norm_cast
      have hbf := hid (fun (q : Nat) (hs : Rnd l.length k q) (hle : ¬ ld l ((k + 1) % l.length) < ld l q) => rnd_bef hs hlt hle)
      obtain ⟨j, hj⟩ : ∃ j, j = (k + 1) % l.length := ⟨_, rfl⟩
      rw [← hj] at hjl HSK HTK hmod hbf
      clear hj
      have hji : (j : Int) < (l.length : Int) := by omega
      have hj0 : (0 : Int) ≤ (j : Int) := by omega
      have hne : ¬ (l.length : Int) = 0 := by omega
      have hj5 : j ≤ 5 := by omega
      obtain ⟨b, o, rfl, hbl, e0, e1, e2⟩ := (h.below hb).host hjl
      have hz := hb.size
      have HEL := hid (el_at (g := g) hjl)
      have HLD := hid (ld_at hjl)
      obtain ⟨x, hx⟩ : ∃ x, x = l[j] := ⟨_, rfl⟩
      rw [← hx] at e0 e1 e2 HEL HLD
      clear hx
      have hba := hb.alloc hb.size (.cells #[.int .i64 x.l, .int .i64 x.g, .bool x.d] 40)
      have hbw : b < wr.heap.size := by omega
      obtain ⟨xl, xg, xd⟩ := x
      simp only at e0 e1 e2 HEL HLD hba
      cases xd
      · by_cases hgt : xg > g
        · have HX := hid (HSK.out (.inl (fun he => by have := (HEL.out.1 he).2; simp at this; omega)))
          clear HSK HTK
          go_wp2
          go_roundw
          case rel => exact ⟨k + 1, n, by omega, by go_num, rfl, HX, hba⟩
          case measure => simp [intOf]; omega
        · have HE := hid (HEL.out.2 ⟨rfl, by simp; omega⟩)
          by_cases hn1 : n = -1
          · subst hn1
            have HX := hid (HTK.out HE.out (fun q hq => by omega))
            clear HSK HTK
            go_wp2
            go_quiet (fail)
            go_wp2
            go_roundw
            case rel => exact ⟨k + 1, j, by omega, by go_num, rfl, HX, below_drewN hba _⟩
            case measure => simp [intOf]; omega
          · obtain ⟨q, rfl⟩ : ∃ q : Nat, n = q := ⟨n.toNat, by omega⟩
            have hql : q < l.length := by omega
            have hqi : (q : Int) < (l.length : Int) := by omega
            have hq0 : (0 : Int) ≤ (q : Int) := by omega
            have hqn : ((q : Int) == -1) = false := beq_eq_false_iff_ne.2 hn1
            obtain ⟨b', o', he, _, f0, f1, f2⟩ := (h.below hb).host hql
            obtain ⟨rfl, rfl⟩ : b = b' ∧ o = o' := by injection he with he; injection he with u v; exact ⟨u, v⟩
            rw [← ld_at hql] at f0
            have HBF := hid (hbf.out q (best_in HB.out).1)
            obtain ⟨y, hy⟩ : ∃ y, y = ld l q := ⟨_, rfl⟩
            rw [← hy] at f0
            have HY := hid hy
            clear hy f1 f2 he hn1
            by_cases hxy : xl < y
            · have HX := hid (HTK.out HE.out (fun q' hq' => by
                have : q' = q := by omega
                subst this
                exact .inl (by rw [HLD.out, ← HY.out]; exact hxy)))
              clear HSK HTK
              go_wp2
              go_quiet (fail)
              go_wp2
              go_roundw
              case rel => exact ⟨k + 1, j, by omega, by go_num, rfl, HX, below_drewN hba _⟩
              case measure => simp [intOf]; omega
            · have HX := hid (HSK.out (.inr ⟨q, rfl, HBF.out (by rw [HLD.out, ← HY.out]; exact hxy)⟩))
              clear HSK HTK
              go_wp2
              go_quiet (fail)
              go_wp2
              go_roundw
              case rel => exact ⟨k + 1, q, by omega, by go_num, rfl, HX, below_drewN hba _⟩
              case measure => simp [intOf]; omega
      · have HX := hid (HSK.out (.inl (fun he => by have := (HEL.out.1 he).1; simp at this)))
        clear HSK HTK
        go_wp2
        go_roundw
        case rel => exact ⟨k + 1, n, by omega, by go_num, rfl, HX, hba⟩
        case measure => simp [intOf]; omega
    · have hi : ¬ (k : Int) < (l.length : Int) := by omega
      have hkk : k = l.length := by omega
      subst hkk
      have E := hid (show routeH l g = n by rw [HR.out, bestH_eq' HB.out])
      go_wp2
      go_ret
      exact ⟨ret_int E.out.symm, hb⟩
theorem iRouteRead_len {A : Option Addr} {n c : Nat} {l : List Hst} {g : Int} {w : World} (hl : l.length = n) (h : Sees w w.heap.size A (strip hcl l)) (hn : l.length ≤ 4194304) :
    Calls Try.prog 35 #[.slice A n c, .int .i64 g] w fun e w' => e = .returned (.int .i64 (routeH l g)) ∧ Below w.heap.size w w' := by
  subst hl; exact iRouteRead_any A c l g w h hn

end Go.Proofs.Ytmaocmgnkdieeab

/-
  The walk of the law FnLeasedTime: at every code it returns true and changes nothing that was there. Conditions: none.
-/
import Derived.Test.YtncijbmahidjbabLsDraw
import Derived.Test.YtncijbmahidjbabLsG
import Derived.Test.YtncijbmahidjbabLeaseMathB
import Derived.Test.YtncijbmahidjbabLawFrame
import Derived.BigQuiet
import Derived.Deep.RegionHeldLaw
namespace Go.Proofs.Ytncijbmahidjbab
open Go.RowKit Lse

set_option maxHeartbeats 4000000 in
theorem walkLeasedTime (a : Option Addr) (len cap : Nat) (zs : List Int) (w : World) (hn : zs.length = len) (hc : len ≤ cap) (hcc : cap ≤ maxLen) (h : Sees w w.heap.size a (byts zs)) (hz : ∀ y ∈ zs, 0 ≤ y ∧ y ≤ 255) :
    Calls Try.prog 3 #[.slice a len cap] w fun e w' => e = .returned (.bool true) ∧ Below w.heap.size w w' := by
  have HE := hid hn
  have HC := hid hcc
  have HZ := hid hz
  clear hn hcc hz
  by_cases hbig : 1048576 < len
  · go_enter Try.func3, Try.ntmps3
    go_wp2
    go_ret
    exact ⟨rfl, Below.refl _ _⟩
  · go_enter Try.func3, Try.ntmps3
    go_wp2_with fail
    refine (drawLeasedTime_any _ _ _ _ _ h HZ.out HE.out hc (by omega) HC.out).mono ?_
    rintro e w1 ⟨A, c, l, i, rfl, dl⟩
    rcases hv : validB l with _ | _
    · have E : Hid (leased l i = -1) := hid (by simp [leased, hv])
      clear hv
      go_wp2_with fail
      refine (iLeasedTime_any A c l i _ dl.sees dl.2.2.2 (Nat.le_trans dl.2.2.1 (by decide))).mono ?_
      rintro e w2 ⟨he, hb⟩
      rw [E.out] at he
      subst he
      replace dl := dl.below hb
      clear hb
      go_wp2_with fail
      refine (sLeasedTime_any A c l i _ dl.sees (Nat.le_trans dl.2.2.1 (by decide))).mono ?_
      rintro e w2 ⟨he, hb⟩
      rw [E.out] at he
      subst he
      replace dl := dl.below hb
      clear hb
      go_wp2_with fail
      refine (sLeasedTime_any A c l i _ dl.sees (Nat.le_trans dl.2.2.1 (by decide))).mono ?_
      rintro e w2 ⟨he, hb⟩
      rw [E.out] at he
      subst he
      replace dl := dl.below hb
      clear hb
      go_wp2
      go_ret
      exact ⟨rfl, dl.bel⟩
    · have HV := hid hv
      have E0 : leased l i = time l i := by simp [leased, hv]
      have hok := (validB_iff.1 hv).2.1
      have hnn := time_nn hok i
      obtain ⟨V, hV⟩ : ∃ V, V = time l i := ⟨_, rfl⟩
      rw [← hV] at E0 hnn
      have E : Hid (leased l i = V) := hid E0
      have EV := hid hV
      clear hv E0 hV hok
      go_wp2_with fail
      refine (iLeasedTime_any A c l i _ dl.sees dl.2.2.2 (Nat.le_trans dl.2.2.1 (by decide))).mono ?_
      rintro e w2 ⟨he, hb⟩
      rw [E.out] at he
      subst he
      replace dl := dl.below hb
      clear hb
      go_wp2_with fail
      refine (sLeasedTime_any A c l i _ dl.sees (Nat.le_trans dl.2.2.1 (by decide))).mono ?_
      rintro e w2 ⟨he, hb⟩
      rw [E.out] at he
      subst he
      replace dl := dl.below hb
      clear hb
      go_wp2
      go_loopw [6, 7] (fun v i wr => ∃ k : Nat, k ≤ l.length ∧ i = .int .i64 k ∧ v = .int .i64 (total (l.take k)) ∧ DL w wr A c l) (fun _ i _ => l.length - (intOf i).toNat)
      case atStart => exact ⟨0, Nat.zero_le _, rfl, by simp [total], dl⟩
      case round =>
        clear dl
        obtain ⟨k, hk, rfl, rfl, dl⟩ := hrel
        have hl13 := dl.2.2.1
        by_cases hlt : k < l.length
        · have hi : (k : Int) < (l.length : Int) := by omega
          obtain ⟨b, o, rfl, hbl, e0, e1, e2, e3⟩ := dl.sees.lease hlt
          have HS := hid (total_take hlt)
          have htk : ∀ x ∈ l.take k, x.ok = true := fun x hx => (validB_iff.1 HV.out).2.1 x (List.mem_of_mem_take hx)
          obtain ⟨t1, t2⟩ := total_bounds htk
          have hok := L.ok_iff.1 (ok_of hlt HV.out)
          have hkl : (l.take k).length ≤ 13 := by rw [List.length_take]; omega
          clear htk
          obtain ⟨x, hx⟩ : ∃ x, x = l[k] := ⟨_, rfl⟩
          rw [← hx] at e0 e1 e2 e3 HS hok
          clear hx
          obtain ⟨_, _, _, _, g5, g6, g7⟩ := hok
          obtain ⟨s, hs⟩ : ∃ s, s = total (l.take k) := ⟨_, rfl⟩
          rw [← hs] at t1 t2 HS
          rw [← hs]
          clear hs
          have ht2 : s ≤ 13000 := by omega
          clear t2 hkl
          have hw1 : IntKind.i64.wrap (s + x.u) = s + x.u := by rw [IntKind.wrap_i64]; omega
          have hw2 : IntKind.i64.wrap (s + x.u - x.f) = s + x.u - x.f := by rw [IntKind.wrap_i64]; omega
          have HX : Hid (total (l.take (k + 1)) = s + x.u - x.f) := hid (by rw [HS.out]; unfold dur; omega)
          go_wp2
          go_quiet (fail)
          go_wp2
          go_roundw
          case rel => exact ⟨k + 1, by omega, by go_num, by rw [HX.out], dl.drewN _⟩
          case measure => simp [intOf]; omega
        · have hi : ¬ (k : Int) < (l.length : Int) := by omega
          rw [take_whole hlt]
          go_wp2
          go_loopw [6, 8] (fun v i wr => ∃ j : Nat, j ≤ 5 ∧ i = .int .i64 j ∧ v = .int .i64 (total l - upTo l j) ∧ DL w wr A c l) (fun _ i _ => 5 - (intOf i).toNat)
          case atStart => exact ⟨0, Nat.zero_le _, rfl, by rw [upTo_zero (validB_iff.1 HV.out).2.1]; simp, dl⟩
          case round =>
            clear dl
            obtain ⟨j, hj, rfl, rfl, dl⟩ := hrel
            by_cases hj5 : j < 5
            · have hji : (j : Int) < 5 := by omega
              have HS := hid (upTo_succ l j)
              have hok := (validB_iff.1 HV.out).2.1
              obtain ⟨t1, t2⟩ := total_bounds hok
              obtain ⟨t3, t4⟩ := upTo_bounds hok j
              obtain ⟨t5, t6⟩ := time_bounds hok (j : Int)
              have E1 : Hid (leased l (j : Int) = time l j) := hid (by simp [leased, HV.out])
              clear hok
              obtain ⟨T, hT⟩ : ∃ T, T = total l := ⟨_, rfl⟩
              obtain ⟨U, hU⟩ : ∃ U, U = upTo l j := ⟨_, rfl⟩
              obtain ⟨M, hM⟩ : ∃ M, M = time l j := ⟨_, rfl⟩
              rw [← hT] at t1 t2 ⊢
              rw [← hU] at t3 t4 HS ⊢
              rw [← hM] at t5 t6 HS E1
              clear hT hU hM
              have hw : IntKind.i64.wrap (T - U - M) = T - U - M := by rw [IntKind.wrap_i64]; omega
              have HX : Hid (T - U - M = T - upTo l (j + 1)) := hid (by rw [HS.out]; omega)
              clear t1 t2 t3 t4 t5 t6
              go_wp2_with fail
              refine (iLeasedTime_any A c l j _ dl.sees dl.2.2.2 (Nat.le_trans dl.2.2.1 (by decide))).mono ?_
              rintro e w2 ⟨he, hb⟩
              rw [E1.out] at he
              subst he
              replace dl := dl.below hb
              clear hb
              go_wp2
              go_roundw
              case rel => exact ⟨j + 1, by omega, by go_num, by rw [HX.out], dl⟩
              case measure => simp [intOf]; omega
            · have hji : ¬ (j : Int) < 5 := by omega
              have hje : j = 5 := by omega
              subst hje
              rw [upTo_five (validB_iff.1 HV.out).2.1]
              have hT0 : total l - total l = 0 := Int.sub_self _
              rw [hT0]
              clear hT0
              go_wp2
              go_ret
              exact ⟨rfl, dl.bel⟩
end Go.Proofs.Ytncijbmahidjbab

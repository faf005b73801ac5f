/-
  What the program's ValidHosts, RouteWrite and RouteRead answer. Condition: the list lies in memory.
-/
import Derived.Test.YtmaocmgnkdieeabSsHost
import Derived.Test.YtmaocmgnkdieeabApp
import Derived.BigQuiet
namespace Go.Proofs.Ytmaocmgnkdieeab
open Go.RowKit Hos

theorem hosts_no {l : List Hst} (h : ¬ (1 ≤ l.length ∧ l.length ≤ 5 ∧ (∀ x ∈ l, x.ok = true) ∧ lag0 l = 0)) : hostsB l = false := Bool.eq_false_iff.2 fun e => h (hostsB_iff.1 e)
theorem Hos.Hst.ok_no {x : Hst} (h : ¬ (0 ≤ x.l ∧ x.l ≤ 100 ∧ 0 ≤ x.g ∧ x.g ≤ 1000)) : x.ok = false := Bool.eq_false_iff.2 fun e => h (Hst.ok_iff.1 e)
set_option maxHeartbeats 400000 in
theorem hTime_any (n : Int) (w : World) :
    Calls Try.prog 41 #[.int .i64 n] w fun e w' => e = .returned (.bool (lagB n)) ∧ w = w' := by
  unfold lagB
  by_cases h1 : 0 ≤ n
  · go_enter Try.func41, Try.ntmps41
    go_wp2
    go_ret
    exact ⟨ret_bool (by first | (simp; done) | (simp; omega)), rfl⟩
  · go_enter Try.func41, Try.ntmps41
    go_wp2
    go_ret
    exact ⟨ret_bool (by first | (simp; done) | (simp; omega)), rfl⟩

set_option maxHeartbeats 4000000 in
theorem iValidHosts_any (A : Option Addr) (c : Nat) (l : List Hst) (w : World) (h : Sees w w.heap.size A (strip hcl l)) (hn : l.length ≤ 4194304) :
    Calls Try.prog 34 #[.slice A l.length c] w fun e w' => e = .returned (.bool (hostsB l)) ∧ Below w.heap.size w w' := by
  by_cases x1 : (l.length : Int) < 1
  · have E := hid (hosts_no (l := l) (by omega))
    go_enter Try.func34, Try.ntmps34
    go_wp2
    go_ret
    exact ⟨ret_bool E.out.symm, Below.refl _ _⟩
  by_cases x2 : (l.length : Int) > 5
  · have E := hid (hosts_no (l := l) (by omega))
    go_enter Try.func34, Try.ntmps34
    go_wp2
    go_ret
    exact ⟨ret_bool E.out.symm, Below.refl _ _⟩
  have HL := hid (show 1 ≤ l.length ∧ l.length ≤ 5 by omega)
  go_enter Try.func34, Try.ntmps34
  go_wp2
  go_loopw [15] (fun i wr => ∃ k : Nat, k ≤ l.length ∧ i = .int .i64 k ∧ Hid (∀ x ∈ l.take k, x.ok = true) ∧ Below w.heap.size w wr) (fun i _ => l.length - (intOf i).toNat)
  case atStart => exact ⟨0, Nat.zero_le _, rfl, hid (by simp), Below.refl _ _⟩
  case round =>
    obtain ⟨k, hk, rfl, HA, hb⟩ := hrel
    have hl5 := HL.out.2
    by_cases hlt : k < l.length
    · have hi : (k : Int) < (l.length : Int) := by omega
      obtain ⟨b, o, rfl, hbl, e0, e1, e2⟩ := (h.below hb).host hlt
      have hz := hb.size
      have HS := hid (fun (hx : l[k].ok = true) => oks_succ hlt HA.out hx)
      have HNO := hid (fun (hx : l[k].ok = false) => (show hostsB l = false from hosts_no fun hh => by rw [hh.2.2.1 _ (List.getElem_mem hlt)] at hx; cases hx))
      obtain ⟨x, hx⟩ : ∃ x, x = l[k] := ⟨_, rfl⟩
      rw [← hx] at e0 e1 e2 HS HNO
      clear hx
      have hba := hb.alloc hb.size (.cells #[.int .i64 x.l, .int .i64 x.g, .bool x.d] 40)
      by_cases h1 : x.l < 0
      · have HX := hid (HNO.out (Hst.ok_no (by omega)))
        go_wp2
        go_ret
        exact ⟨ret_bool HX.out.symm, hba⟩
      by_cases h2 : x.l > 100
      · have HX := hid (HNO.out (Hst.ok_no (by omega)))
        go_wp2
        go_ret
        exact ⟨ret_bool HX.out.symm, hba⟩
      rcases hg : lagB x.g with _ | _
      · have HX := hid (HNO.out (Hst.ok_no (fun hh => by rw [lagB_iff.2 hh.2.2] at hg; cases hg)))
        have HG := hid hg
        clear hg
        go_wp2_with fail
        with_reducible refine (hTime_any _ _).mono ?_
        rintro e w' ⟨he, rfl⟩
        rw [HG.out] at he
        subst he
        go_wp2
        go_ret
        exact ⟨ret_bool HX.out.symm, hba⟩
      · have hgg := lagB_iff.1 hg
        have HX := hid (HS.out (Hst.ok_iff.2 ⟨by omega, by omega, hgg.1, hgg.2⟩))
        have HG := hid hg
        clear hg hgg
        go_wp2_with fail
        with_reducible refine (hTime_any _ _).mono ?_
        rintro e w' ⟨he, rfl⟩
        rw [HG.out] at he
        subst he
        go_wp2
        go_roundw
        case rel => exact ⟨k + 1, by omega, by go_num, HX, hba⟩
        case measure => simp [intOf]; omega
    · have hi : ¬ (k : Int) < (l.length : Int) := by omega
      have ha := HA.out
      rw [take_whole hlt] at ha
      have hl0 : 0 < l.length := HL.out.1
      have hli : (0 : Int) < (l.length : Int) := by omega
      obtain ⟨b, o, rfl, hbl, e0, e1, e2⟩ := (h.below hb).host hl0
      have HV := hid (show hostsB l = (l[0].g == 0) by
        rw [Bool.eq_iff_iff, hostsB_iff, beq_iff_eq, lag0_at hl0]
        exact ⟨fun hh => hh.2.2.2, fun hh => ⟨HL.out.1, HL.out.2, ha, hh⟩⟩)
      obtain ⟨x, hx⟩ : ∃ x, x = l[0] := ⟨_, rfl⟩
      rw [← hx] at e0 e1 e2 HV
      simp only [Nat.zero_mul, Nat.add_zero] at e0 e1 e2
      clear hx ha
      go_wp2
      go_ret
      exact ⟨ret_bool HV.out.symm, hb⟩
theorem iValidHosts_len {A : Option Addr} {n c : Nat} {l : List Hst} {w : World} (hl : l.length = n) (h : Sees w w.heap.size A (strip hcl l)) (hn : l.length ≤ 4194304) :
    Calls Try.prog 34 #[.slice A n c] w fun e w' => e = .returned (.bool (hostsB l)) ∧ Below w.heap.size w w' := by
  subst hl; exact iValidHosts_any A c l w h hn

end Go.Proofs.Ytmaocmgnkdieeab

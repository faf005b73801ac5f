/-
  The walk of the law FnBestCache: at every code it returns true and changes nothing that was there. Conditions: none.
-/
import Derived.Test.YtfophplmdljhbaaLawCb
import Derived.Test.YtfophplmdljhbaaLawFrame
import Derived.BigQuiet
namespace Go.Proofs.Ytfophplmdljhbaa
open Go.RowKit Cac Lea

set_option maxHeartbeats 8000000 in
theorem walkBestCache (a : Option Addr) (len cap : Nat) (zs : List Int) (w : World) (hn : zs.length = len) (hc : len ≤ cap) (hcc : cap ≤ maxLen) (h : Sees w w.heap.size a (byts zs)) (hz : ∀ y ∈ zs, 0 ≤ y ∧ y ≤ 255) :
    Calls Try.prog 4 #[.slice a len cap] w fun e w' => e = .returned (.bool true) ∧ Below w.heap.size w w' := by
  have HE := hid hn
  have HC := hid hcc
  have HZ := hid hz
  clear hn hcc hz
  by_cases hbig : 1048576 < len
  · go_enter Try.func4, Try.ntmps4
    go_wp2
    go_ret
    exact ⟨rfl, Below.refl _ _⟩
  go_enter Try.func4, Try.ntmps4
  go_wp2_with fail
  refine (drawBestCache_any _ _ _ _ _ h HZ.out HE.out hc (by omega) HC.out).mono ?_
  rintro e w1 ⟨A, c, rs, B, d, l, rfl, dr⟩
  have hpt := bes_parts (rs := rs) (l := l)
  have HNI := hid (fun hh => bes_nil (rs := rs) (l := l) hh)
  have HFI := hid (fun hh => bes_first (rs := rs) (l := l) hh)
  obtain ⟨V, hV⟩ : ∃ V, V = besV rs l := ⟨_, rfl⟩
  have EV : Hid (besV rs l = V) := hid hV.symm
  rw [← hV] at hpt HNI HFI
  clear hV hbig hc
  go_wp2_with fail
  with_reducible refine (iBestCache_any A B c d rs l _ dr.s1 dr.s2 dr.cap2 dr.n1 dr.n2 dr.n3).mono ?_
  rintro e w2 ⟨he, hb⟩
  rw [EV.out] at he
  subst he
  replace dr := dr.below hb
  clear hb
  go_wp2_with fail
  with_reducible refine (sBestCache_any A B c d rs l _ dr.s1 dr.s2 dr.cap2 dr.n1 dr.n2 dr.n3).mono ?_
  rintro e w3 ⟨he, hb⟩
  rw [EV.out] at he
  subst he
  replace dr := dr.below hb
  clear hb
  rcases hpt with rfl | ⟨j, rfl, hjl, hle⟩
  · go_wp2_with fail
    with_reducible refine (sBestCache_any A B c d rs l _ dr.s1 dr.s2 dr.cap2 dr.n1 dr.n2 dr.n3).mono ?_
    rintro e w4 ⟨he, hb⟩
    rw [EV.out] at he
    subst he
    replace dr := dr.below hb
    clear hb
    go_wp2
    go_ret
    exact ⟨rfl, dr.bel⟩
  have hj0 : ¬ (j : Int) < 0 := by omega
  have hjl2 : ¬ (j : Int) ≥ (rs.length : Int) := by omega
  have HLE := hid (fun i hi => hle i hi hjl)
  obtain ⟨N, hN⟩ : ∃ N, N = cnt l rs[j].m := ⟨_, rfl⟩
  rw [← hN] at HLE
  have HNJ := hid hN
  clear hle hN HNI HFI EV
  have hB3 := Below.refl w3.heap.size w3
  go_wp2
  go_loopw [6, 7, 8] (fun v u i wr => ∃ (k : Nat) (x y : Int), k ≤ rs.length ∧ v = .int .i64 x ∧ u = .int .i64 y ∧ i = .int .i64 k ∧ ((k ≤ j ∧ -1 ≤ x ∧ x < (N : Int)) ∨ (j < k ∧ x = N ∧ y = j)) ∧ DB w wr A c rs B d l) (fun _ _ i _ => rs.length - (intOf i).toNat)
  case atStart => exact ⟨0, -1, -1, Nat.zero_le _, rfl, rfl, rfl, .inl ⟨Nat.zero_le _, by omega, by omega⟩, dr⟩
  case round =>
    clear dr hB3
    obtain ⟨k, x, y, hk, rfl, rfl, rfl, hxy, dr⟩ := hrel
    have hn7 := dr.n7
    by_cases hlt : k < rs.length
    · have hi : (k : Int) < (rs.length : Int) := by omega
      have hi0 : (0 : Int) ≤ (k : Int) := by omega
      have hK := HLE.out k hlt
      have HKJ := hid (fun (e : k = j) => (show cnt l rs[k].m = N by subst e; exact HNJ.out.symm))
      obtain ⟨C, hC⟩ : ∃ C, C = cnt l rs[k].m := ⟨_, rfl⟩
      rw [← hC] at hK HKJ
      have HC2 := hid hC
      clear hC
      have HXY := hid hxy
      have HK := hid hK
      have DR := hid dr
      clear hxy hK
      go_wp2
      go_loopw [9, 10] (fun n q wr => ∃ t : Nat, t ≤ l.length ∧ n = .int .i64 (cnt (l.take t) rs[k].m : Nat) ∧ q = .int .i64 t ∧ DB w wr A c rs B d l) (fun _ q _ => l.length - (intOf q).toNat)
      case atStart => exact ⟨0, Nat.zero_le _, rfl, rfl, DR.out⟩
      case round =>
        clear DR dr
        obtain ⟨t, ht, rfl, rfl, dr⟩ := hrel
        have hn11 := dr.n11
        by_cases htl : t < l.length
        · have hti : (t : Int) < (l.length : Int) := by omega
          have ht0 : (0 : Int) ≤ (t : Int) := by omega
          obtain ⟨b, o, rfl, hbl, e0, e1, hs, _⟩ := dr.s1.row hlt
          obtain ⟨b2, o2, rfl, hbl2, f0⟩ := dr.s2.int htl
          have HCS := hid (cnt_succ (c := rs[k].m) htl)
          have hcl := cnt_le (l.take t) rs[k].m
          rw [List.length_take] at hcl
          have hxm := dr.n2 _ (List.getElem_mem hlt)
          obtain ⟨z, hz⟩ : ∃ z, z = l[t] := ⟨_, rfl⟩
          rw [← hz] at f0 HCS
          obtain ⟨Q, hQ⟩ : ∃ Q, Q = cnt (l.take t) rs[k].m := ⟨_, rfl⟩
          rw [← hQ] at HCS hcl
          simp only [← hQ]
          clear hz hQ e0
          rcases hmm : mem rs[k].m.n z with _ | _
          · have HMM := hid hmm
            have HQ : Hid (cnt (l.take (t + 1)) rs[k].m = Q) := hid (by rw [HCS.out, hmm]; rfl)
            clear hmm
            go_wp2_with fail
            go_quiet (first
              | (go_at_call 14; (with_reducible refine lisIn_qn HMM.out rfl _ hs hxm)))
            have drd := dr.drewN nq
            go_wp2
            go_roundw
            case rel => exact ⟨t + 1, by omega, by rw [HQ.out], by go_num, drd⟩
            case measure => simp [intOf]; omega
          · have HMM := hid hmm
            have HQ : Hid (cnt (l.take (t + 1)) rs[k].m = Q + 1) := hid (by rw [HCS.out, hmm]; rfl)
            clear hmm
            go_wp2_with fail
            go_quiet (first
              | (go_at_call 14; (with_reducible refine lisIn_qn HMM.out rfl _ hs hxm)))
            have drd := dr.drewN nq
            go_wp2
            go_roundw
            case rel => exact ⟨t + 1, by omega, by rw [HQ.out]; go_num, by go_num, drd⟩
            case measure => simp [intOf]; omega
        · have hti : ¬ (t : Int) < (l.length : Int) := by omega
          have HQ : Hid (cnt (l.take t) rs[k].m = C) := hid (by rw [List.take_of_length_le (by omega)]; exact HC2.out.symm)
          rw [HQ.out]
          have hxy := HXY.out
          have hK := HK.out
          rcases Nat.lt_or_ge j k with hjk | hjk
          · have hle : ¬ (k : Int) ≤ (j : Int) := by omega
            have hCx : ¬ (C : Int) > x := by omega
            have hxy2 : x = N ∧ y = j := by omega
            clear hxy hK
            go_wp2
            go_roundw
            case rel => exact ⟨k + 1, x, y, by omega, rfl, rfl, by go_num, .inr ⟨by omega, hxy2⟩, dr⟩
            case measure => simp [intOf]; omega
          · have hle : (k : Int) ≤ (j : Int) := by omega
            by_cases hCx : (C : Int) > x
            · have hcc : ¬ (C : Int) > (C : Int) := by omega
              have hnx : (k + 1 ≤ j ∧ -1 ≤ (C : Int) ∧ (C : Int) < (N : Int)) ∨ (j < k + 1 ∧ (C : Int) = N ∧ (k : Int) = j) := by
                rcases Nat.lt_or_ge k j with e | e
                · left; omega
                · have e1 : k = j := by omega
                  have := HKJ.out e1
                  right; omega
              clear hxy hK
              go_wp2
              go_roundw
              case rel => exact ⟨k + 1, C, k, by omega, rfl, rfl, by go_num, hnx, dr⟩
              case measure => simp [intOf]; omega
            · have hnx : k + 1 ≤ j ∧ -1 ≤ x ∧ x < (N : Int) := by
                rcases Nat.lt_or_ge k j with e | e
                · omega
                · have := HKJ.out (by omega)
                  omega
              clear hxy hK
              go_wp2
              go_roundw
              case rel => exact ⟨k + 1, x, y, by omega, rfl, rfl, by go_num, .inl hnx, dr⟩
              case measure => simp [intOf]; omega
    · have hi : ¬ (k : Int) < (rs.length : Int) := by omega
      have hy : y = j := by omega
      subst hy
      go_wp2
      go_ret
      exact ⟨by simp, dr.bel⟩
end Go.Proofs.Ytfophplmdljhbaa

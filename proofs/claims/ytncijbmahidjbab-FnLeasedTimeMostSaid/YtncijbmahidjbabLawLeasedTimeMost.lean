/-
  The walk of the law FnLeasedTimeMost: at every code it returns true and changes nothing that was there. Conditions: none.
-/
import Derived.Test.YtncijbmahidjbabLsDraw
import Derived.Test.YtncijbmahidjbabLsG
import Derived.Test.YtncijbmahidjbabLeaseMathB
import Derived.Test.YtncijbmahidjbabLawFrame
import Derived.BigQuiet
import Derived.Deep.RegionHeldLaw
namespace Go.Proofs.Ytncijbmahidjbab
open Go.RowKit Lse

set_option maxHeartbeats 4000000 in
theorem walkLeasedTimeMost (a : Option Addr) (len cap : Nat) (zs : List Int) (w : World) (hn : zs.length = len) (hc : len ≤ cap) (hcc : cap ≤ maxLen) (h : Sees w w.heap.size a (byts zs)) (hz : ∀ y ∈ zs, 0 ≤ y ∧ y ≤ 255) :
    Calls Try.prog 8 #[.slice a len cap] w fun e w' => e = .returned (.bool true) ∧ Below w.heap.size w w' := by
  have HE := hid hn
  have HC := hid hcc
  have HZ := hid hz
  clear hn hcc hz
  by_cases hbig : 1048576 < len
  · go_enter Try.func8, Try.ntmps8
    go_wp2
    go_ret
    exact ⟨rfl, Below.refl _ _⟩
  · go_enter Try.func8, Try.ntmps8
    go_wp2_with fail
    refine (drawLeasedTime_any _ _ _ _ _ h HZ.out HE.out hc (by omega) HC.out).mono ?_
    rintro e w1 ⟨A, c, l, i, rfl, dl⟩
    rcases hv : validB l with _ | _
    · have E : Hid (leased l i = -1) := hid (by simp [leased, hv])
      clear hv
      go_wp2_with fail
      refine (iLeasedTime_any A c l i _ dl.sees dl.2.2.2 (Nat.le_trans dl.2.2.1 (by decide))).mono ?_
      rintro e w2 ⟨he, hb⟩
      rw [E.out] at he
      subst he
      replace dl := dl.below hb
      clear hb
      go_wp2_with fail
      refine (sLeasedTime_any A c l i _ dl.sees (Nat.le_trans dl.2.2.1 (by decide))).mono ?_
      rintro e w2 ⟨he, hb⟩
      rw [E.out] at he
      subst he
      replace dl := dl.below hb
      clear hb
      go_wp2_with fail
      refine (sLeasedTime_any A c l i _ dl.sees (Nat.le_trans dl.2.2.1 (by decide))).mono ?_
      rintro e w2 ⟨he, hb⟩
      rw [E.out] at he
      subst he
      replace dl := dl.below hb
      clear hb
      go_wp2
      go_ret
      exact ⟨rfl, dl.bel⟩
    · have HV := hid hv
      have E0 : leased l i = time l i := by simp [leased, hv]
      have hok := (validB_iff.1 hv).2.1
      have hnn := time_nn hok i
      obtain ⟨V, hV⟩ : ∃ V, V = time l i := ⟨_, rfl⟩
      rw [← hV] at E0 hnn
      have E : Hid (leased l i = V) := hid E0
      have EV := hid hV
      clear hv E0 hV hok
      go_wp2_with fail
      refine (iLeasedTime_any A c l i _ dl.sees dl.2.2.2 (Nat.le_trans dl.2.2.1 (by decide))).mono ?_
      rintro e w2 ⟨he, hb⟩
      rw [E.out] at he
      subst he
      replace dl := dl.below hb
      clear hb
      go_wp2_with fail
      refine (sLeasedTime_any A c l i _ dl.sees (Nat.le_trans dl.2.2.1 (by decide))).mono ?_
      rintro e w2 ⟨he, hb⟩
      rw [E.out] at he
      subst he
      replace dl := dl.below hb
      clear hb
      have hmost : V ≤ 6000 := by have := EV.out; have h2 := time_most (validB_iff.1 HV.out).2 i; omega
      go_wp2
      go_loopw [6, 7] (fun v q wr => ∃ k : Nat, k ≤ l.length ∧ q = .int .i64 k ∧ v = .bool (ownsB (l.take k) i) ∧ DL w wr A c l) (fun _ q _ => l.length - (intOf q).toNat)
      case atStart => exact ⟨0, Nat.zero_le _, rfl, bool_val (by simp [ownsB]), dl⟩
      case round =>
        clear dl
        obtain ⟨k, hk, rfl, rfl, dl⟩ := hrel
        have hl13 := dl.2.2.1
        by_cases hlt : k < l.length
        · have hi : (k : Int) < (l.length : Int) := by omega
          obtain ⟨b, o, rfl, hbl, e0, e1, e2, e3⟩ := dl.sees.lease hlt
          have HS := hid (ownsB_take hlt i)
          obtain ⟨x, hx⟩ : ∃ x, x = l[k] := ⟨_, rfl⟩
          rw [← hx] at e0 e1 e2 e3 HS
          clear hx
          rcases hs : ownsB (l.take k) i with _ | _
          · rcases d1 : (x.o == i) with _ | _
            · have HX := hid (HS.out.trans (show _ = false by rw [hs, decide_eq_false (by simpa using d1)]; rfl))
              go_wp2
              go_roundw
              case rel => exact ⟨k + 1, by omega, by go_num, bool_val HX.out.symm, dl⟩
              case measure => simp [intOf]; omega
            · have HX := hid (HS.out.trans (show _ = true by rw [hs, decide_eq_true (by simpa using d1)]; rfl))
              go_wp2
              go_roundw
              case rel => exact ⟨k + 1, by omega, by go_num, bool_val HX.out.symm, dl⟩
              case measure => simp [intOf]; omega
          · have HX := hid (HS.out.trans (show _ = true by rw [hs]; rfl))
            go_wp2
            go_roundw
            case rel => exact ⟨k + 1, by omega, by go_num, bool_val HX.out.symm, dl⟩
            case measure => simp [intOf]; omega
        · have hi : ¬ (k : Int) < (l.length : Int) := by omega
          rw [take_whole hlt]
          have hO := ownsB_time (validB_iff.1 HV.out).2.1 i
          rw [← EV.out] at hO
          by_cases hp : 0 < V
          · rw [hO, decide_eq_true hp]
            clear hO
            go_wp2
            go_ret
            exact ⟨rfl, dl.bel⟩
          · rw [hO, decide_eq_false hp]
            clear hO
            go_wp2
            go_ret
            exact ⟨rfl, dl.bel⟩
end Go.Proofs.Ytncijbmahidjbab

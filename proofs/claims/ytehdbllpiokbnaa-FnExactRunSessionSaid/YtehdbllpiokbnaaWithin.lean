/-
  What the program's allWithin answers. Condition: the list lies in memory.
-/
import Derived.Test.YtehdbllpiokbnaaBase

namespace Go.Proofs.Ytehdbllpiokbnaa
open Go.RowKit

set_option maxHeartbeats 1000000 in
theorem allWithin_any (A : Option Addr) (c : Nat) (l : List Int) (lo hi : Int) (w : World) {B : Nat} (h : Sees w B A (ints l)) (hn : l.length ≤ 4194304) :
    Calls Try.prog 72 #[.slice A l.length c, .int .i64 lo, .int .i64 hi] w fun e w' => e = .returned (.bool (allB l lo hi)) ∧ w = w' := by
  have HN := hid hn; clear hn
  go_enter Try.func72, Try.ntmps72
  go_wp2
  go_loop [11] (fun i => ∃ k : Nat, k ≤ l.length ∧ i = .int .i64 k ∧ Hid (∀ x ∈ l.take k, lo ≤ x ∧ x ≤ hi)) (fun i => l.length - (intOf i).toNat)
  case atStart => exact ⟨0, Nat.zero_le _, rfl, hid (by simp)⟩
  case round =>
    obtain ⟨k, hk, rfl, HA⟩ := hrel
    have hn := HN.out
    by_cases hlt : k < l.length
    · have hi' : (k : Int) < (l.length : Int) := by omega
      obtain ⟨b, o, rfl, _, hc⟩ := h.int hlt
      have HS := hid (fun (hh : lo ≤ l[k] ∧ l[k] ≤ hi) => all_take_succ (p := fun x => lo ≤ x ∧ x ≤ hi) hlt HA.out hh)
      have HM := hid (fun (hh : ¬ (lo ≤ l[k] ∧ l[k] ≤ hi)) => (show allB l lo hi = false from Bool.eq_false_iff.2 fun e => hh (allB_iff.1 e _ (List.getElem_mem hlt))))
      obtain ⟨x, hx⟩ : ∃ x, x = l[k] := ⟨_, rfl⟩
      rw [← hx] at hc HS HM
      clear hx
      by_cases h1 : lo ≤ x
      · by_cases h2 : x ≤ hi
        · have HX := hid (HS.out ⟨h1, h2⟩)
          go_wp2
          go_round
          case rel => exact ⟨k + 1, by omega, by go_num, HX⟩
          case measure => simp [intOf]; omega
        · have HX := hid (HM.out (fun hh => h2 hh.2))
          go_wp2
          go_ret
          exact ⟨ret_bool HX.out.symm, rfl⟩
      · have HX := hid (HM.out (fun hh => h1 hh.1))
        go_wp2
        go_ret
        exact ⟨ret_bool HX.out.symm, rfl⟩
    · have hi' : ¬ (k : Int) < (l.length : Int) := by omega
      have HX := hid (show allB l lo hi = true by have := HA.out; rw [take_whole hlt] at this; exact allB_iff.2 this)
      go_wp2
      go_ret
      exact ⟨ret_bool HX.out.symm, rfl⟩

end Go.Proofs.Ytehdbllpiokbnaa

/-
  Words for the walks of the drawn laws on leases: equal lists are told equal; contracts at a length of another name. Condition: the lists lie in memory.
-/
import Derived.Test.YtmaocmgnkdieeaaLsH
import Derived.Test.YtmaocmgnkdieeaaLsI
import Derived.BigQuiet
namespace Go.Proofs.Ytmaocmgnkdieeaa
open Go.RowKit Lse

theorem lvals_strip (l : List L) : lvals l = strip lcells l := rfl

set_option maxHeartbeats 2000000 in
theorem equalLeases_same {A B : Option Addr} {n c d : Nat} {l : List L} {w : World} (hl : l.length = n) (h : Sees w w.heap.size A (lvals l)) (h' : Sees w w.heap.size B (lvals l)) (hn : l.length ≤ 4194304) :
    Calls Try.prog 9 #[.slice A n c, .slice B n d] w fun e w' => e = .returned (.bool true) ∧ Below w.heap.size w w' := by
  have HL := hid hl
  clear hl
  have hn' : n ≤ 4194304 := by have := HL.out; omega
  have HN := hid hn'; clear hn hn'
  go_enter Try.func9, Try.ntmps9
  go_wp2
  go_loopw [5] (fun i wr => ∃ k : Nat, k ≤ n ∧ i = .int .i64 k ∧ Below w.heap.size w wr) (fun i _ => n - (intOf i).toNat)
  case atStart => exact ⟨0, Nat.zero_le _, rfl, Below.refl _ _⟩
  case round =>
    obtain ⟨k, hk, rfl, hb⟩ := hrel
    have hn := HN.out
    by_cases hlt : k < n
    · have hi : (k : Int) < (n : Int) := by omega
      have hkl : k < l.length := by have := HL.out; omega
      obtain ⟨b, o, rfl, hbl, e0, e1, e2, e3⟩ := (h.below hb).lease hkl
      obtain ⟨b', o', rfl, hbl', f0, f1, f2, f3⟩ := (h'.below hb).lease hkl
      obtain ⟨x, hx⟩ : ∃ x, x = l[k] := ⟨_, rfl⟩
      rw [← hx] at e0 e1 e2 e3 f0 f1 f2 f3
      clear hx hkl
      go_wp2
      go_quiet (fail)
      go_wp2
      go_roundw
      case rel => exact ⟨k + 1, by omega, by go_num, below_drewN hb _⟩
      case measure => simp [intOf]; omega
    · have hi : ¬ (k : Int) < (n : Int) := by omega
      go_wp2
      go_ret
      exact ⟨rfl, hb⟩

end Go.Proofs.Ytmaocmgnkdieeaa

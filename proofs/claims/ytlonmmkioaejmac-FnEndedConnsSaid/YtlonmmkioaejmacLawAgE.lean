/-
  Words for the walks of the laws on ended connections. Condition: the lists lie in memory.
-/
import Derived.Test.YtlonmmkioaejmacAgGen
import Derived.Test.YtlonmmkioaejmacOwnI
import Derived.BigQuiet
namespace Go.Proofs.Ytlonmmkioaejmac
open Go.RowKit Age

theorem OwnS.drewN' {α : Type} {t : TypeId} {s : Nat} {f : α → List Value} {w : World} {base : Nat} {v : Value} {l : List α} (h : OwnS t s f w base v l) (n : Nat) : OwnS t s f (w.drewN n) base v l := h.below (below_drewN (Below.refl _ _) n)
theorem eqI4_same (A B : Option Addr) (c d : Nat) (xs : List Int) (w : World) (h : Sees w w.heap.size A (ints xs)) (h' : Sees w w.heap.size B (ints xs)) (hn : xs.length ≤ 4194304) :
    Calls Try.prog 10 #[.slice A xs.length c, .slice B xs.length d] w fun e w' => e = .returned (.bool true) ∧ Below w.heap.size w w' := by
  have := equalInts_any A B c d xs xs w h h' (Nat.le_trans hn (by decide))
  rwa [eqB_iff.2 rfl] at this
set_option maxHeartbeats 2000000 in
theorem equalAges_same {A B : Option Addr} {n c d : Nat} {l : List Ag} {w : World} (hl : l.length = n) (h : Sees w w.heap.size A (strip acells l)) (h' : Sees w w.heap.size B (strip acells l)) (hn : l.length ≤ 4194304) :
    Calls Try.prog 17 #[.slice A n c, .slice B n d] w fun e w' => e = .returned (.bool true) ∧ Below w.heap.size w w' := by
  have HL := hid hl
  clear hl
  have hn' : n ≤ 4194304 := by have := HL.out; omega
  have HN := hid hn'; clear hn hn'
  go_enter Try.func17, Try.ntmps17
  go_wp2
  go_loopw [5] (fun i wr => ∃ k : Nat, k ≤ n ∧ i = .int .i64 k ∧ Below w.heap.size w wr) (fun i _ => n - (intOf i).toNat)
  case atStart => exact ⟨0, Nat.zero_le _, rfl, Below.refl _ _⟩
  case round =>
    obtain ⟨k, hk, rfl, hb⟩ := hrel
    have hn := HN.out
    by_cases hlt : k < n
    · have hi : (k : Int) < (n : Int) := by omega
      have hkl : k < l.length := by have := HL.out; omega
      obtain ⟨b, o, rfl, hbl, e0, e1⟩ := (h.below hb).age hkl
      obtain ⟨b', o', rfl, hbl', f0, f1⟩ := (h'.below hb).age hkl
      obtain ⟨x, hx⟩ : ∃ x, x = l[k] := ⟨_, rfl⟩
      rw [← hx] at e0 e1 f0 f1
      clear hx hkl
      go_wp2
      go_quiet (fail)
      go_wp2
      go_roundw
      case rel => exact ⟨k + 1, by omega, by go_num, below_drewN hb _⟩
      case measure => simp [intOf]; omega
    · have hi : ¬ (k : Int) < (n : Int) := by omega
      go_wp2
      go_ret
      exact ⟨rfl, hb⟩

theorem isIn_q (A : Option Addr) (c : Nat) (xs : List Int) (x : Int) (b : Bool) (w : World) (m : Nat) {B : Nat} (h : Sees w B A (ints xs)) (hn : xs.length ≤ 4611686018427387904) (hb : memB xs x = b) :
    Calls Try.prog 12 #[.slice A xs.length c, .int .i64 x] (w.drewN m) fun e w'' => e = .returned (.bool b) ∧ ∃ m, w'' = w.drewN m := by
  subst hb
  exact Calls.quiet_of_same ((lisIn_any A c xs x (w.drewN m) (show Sees (w.drewN m) B A (ints xs) from h) hn).mono fun _ _ ⟨he, hw⟩ => ⟨he, hw.symm⟩)
end Go.Proofs.Ytlonmmkioaejmac

/-
  What SizeFor answers, the program's and the model's; what draws its arguments. No condition.
-/
import Derived.Test.YtmaocmgnkdieeaaBase
import Derived.Test.YtmaocmgnkdieeaaOwnI
import Derived.Test.YtmaocmgnkdieeaaReadB
import Derived.Handy
namespace Go.Proofs.Ytmaocmgnkdieeaa
open Go.RowKit

def sizeV (m s : Int) : Int := max 1 ((m + 99) / 100 + s)
def sizeB (m s : Int) : Bool := inB m 0 600 && inB s 0 6
def sizeFor (m s : Int) : Int := if sizeB m s = true then (if 6 < sizeV m s then -1 else sizeV m s) else -1
theorem sizeB_iff {m s : Int} : sizeB m s = true ↔ (0 ≤ m ∧ m ≤ 600) ∧ 0 ≤ s ∧ s ≤ 6 := by unfold sizeB; rw [Bool.and_eq_true, inB_iff, inB_iff]
theorem size_no {m s : Int} (h : ¬ ((0 ≤ m ∧ m ≤ 600) ∧ 0 ≤ s ∧ s ≤ 6)) : sizeFor m s = -1 := by unfold sizeFor; rw [if_neg (fun e => h (sizeB_iff.1 e))]
theorem size_yes {m s : Int} (h1 : 0 ≤ m) (h2 : m ≤ 600) (h3 : 0 ≤ s) (h4 : s ≤ 6) : sizeFor m s = if 6 < sizeV m s then -1 else sizeV m s := by unfold sizeFor; rw [if_pos (sizeB_iff.2 ⟨⟨h1, h2⟩, h3, h4⟩)]
set_option maxHeartbeats 400000 in
theorem wGreater_any (a b : Int) (w : World) :
    Calls Try.prog 21 #[.int .i64 a, .int .i64 b] w fun e w' => e = .returned (.int .i64 (max a b)) ∧ w = w' := by
  obtain ⟨M, hM⟩ : ∃ M, M = max a b := ⟨_, rfl⟩
  rw [← hM]
  by_cases h1 : a > b
  · have E := hid (show M = a by omega)
    clear hM
    go_enter Try.func21, Try.ntmps21
    go_wp2
    go_ret
    exact ⟨ret_int E.out.symm, rfl⟩
  · have E := hid (show M = b by omega)
    clear hM
    go_enter Try.func21, Try.ntmps21
    go_wp2
    go_ret
    exact ⟨ret_int E.out.symm, rfl⟩

def PairZ (w : World) (e : Ending) (w' : World) : Prop := ∃ i j : Int, e = .returned (.tuple #[.int .i64 i, .int .i64 j]) ∧ Below w.heap.size w w' ∧ -1 ≤ i ∧ i ≤ 601 ∧ -1 ≤ j ∧ j ≤ 7
end Go.Proofs.Ytmaocmgnkdieeaa

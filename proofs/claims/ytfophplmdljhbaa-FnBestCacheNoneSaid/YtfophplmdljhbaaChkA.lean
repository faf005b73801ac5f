/-
  What the program's functions on results of checks answer that give a number or a truth value. Condition: the list lies in memory.
-/
import Derived.Test.YtfophplmdljhbaaBoolA
import Derived.Test.YtfophplmdljhbaaChkMath
import Derived.Laws.ShiftsVarLaws
namespace Go.Proofs.Ytfophplmdljhbaa
open Go.RowKit Chk

theorem chk_inB (f : Int) : inB f 1 12 = decide (1 ≤ f ∧ f ≤ 12) := rfl
theorem chk_no1 {l : List Bool} {f g : Int} (h : ¬ l.length ≤ 12) : chkB l f g = false := Bool.eq_false_iff.2 fun e => h (chkB_iff.1 e).1
theorem chk_no2 {l : List Bool} {f g : Int} (h : inB f 1 12 = false) : chkB l f g = false := Bool.eq_false_iff.2 fun e => by rw [inB_iff.2 (chkB_iff.1 e).2.1] at h; cases h
theorem chk_no3 {l : List Bool} {f g : Int} (h : inB g 1 12 = false) : chkB l f g = false := Bool.eq_false_iff.2 fun e => by rw [inB_iff.2 (chkB_iff.1 e).2.2] at h; cases h
theorem chk_yes {l : List Bool} {f g : Int} (h1 : l.length ≤ 12) (h2 : inB f 1 12 = true) (h3 : inB g 1 12 = true) : chkB l f g = true := chkB_iff.2 ⟨h1, inB_iff.1 h2, inB_iff.1 h3⟩
theorem or_bit (X : Nat) (b : Bool) (h : X < 4096) : bits .or .u64 ((X : Int) * 2) ((b.toNat : Nat) : Int) = ((2 * X + b.toNat : Nat) : Int) := by
  have hb : b.toNat < 2 := by cases b <;> simp
  have e : (X : Int) * 2 = ((2 * X : Nat) : Int) := by omega
  rw [e, u64_or_nat _ _ (by omega) (by omega), nat_join 1 _ _ (by omega) (by omega)]
theorem and_one (X : Nat) (h : X < 4096) : bits .and .u64 (X : Int) 1 = ((X % 2 : Nat) : Int) := by
  have := u64_and_nat X 1 (by omega) (by omega)
  rw [nat_mask1] at this
  exact this
end Go.Proofs.Ytfophplmdljhbaa

/-
  More words for the walks of the exact laws on lines: behind a marking; the answers of TakeTicket, CallNext and LeaveLine in one form. No condition.
-/
import Derived.Test.YtcfijijpcafncacExD
import Derived.Test.YtcfijijpcafncacLineG
import Derived.Test.YtcfijijpcafncacLineH
namespace Go.Proofs.Ytcfijijpcafncac
open Go.RowKit

section
variable {w0 w w' : World} {base base' L : Nat} {s n : Int} {A : Option Addr} {c : Nat} {l ys : List Int} {v : Value}
theorem EX.mark (h : EX w0 w s n A c l) (ho : Own w base v ys) (hb : w0.heap.size ≤ base) (hg : w.grownBy w' v.ownBlock) : EX w0 w' s n A c l := by
  have hz := h.size
  obtain ⟨h1, h2, h3⟩ := h
  have hbel : Below w0.heap.size w w' := (Below.refl _ _).grown hg (by omega) fun k hk => Nat.le_trans hb (ho.out.lt k hk).1
  exact ⟨h1.grown hg fun e => (ho.ne h1 (by decide)) e.symm, h2.below hbel, h3.trans hbel⟩
theorem XL.mark (h : XL w base' L s n A c l) (ho : Own w base v ys) (hg : w.grownBy w' v.ownBlock) (hr : ∀ k, (Value.slice A l.length c).ownBlock = some k → v.ownBlock ≠ some k) : XL w' base' L s n A c l :=
  ⟨h.1.grown hg fun e => (ho.ne h.1 (by decide)) e.symm, h.2.kept' hg hr⟩
theorem apart {va vb : Value} {M : Nat} (ha : ∀ k, va.ownBlock = some k → k < M) (hb : ∀ k, vb.ownBlock = some k → M ≤ k) : ∀ k, va.ownBlock = some k → vb.ownBlock ≠ some k := fun k h1 h2 => by
  have := ha k h1
  have := hb k h2
  omega
theorem apart' {va vb : Value} {M : Nat} (ha : ∀ k, va.ownBlock = some k → k < M) (hb : ∀ k, vb.ownBlock = some k → M ≤ k) : ∀ k, vb.ownBlock = some k → va.ownBlock ≠ some k := fun k h1 h2 => by
  have := ha k h2
  have := hb k h1
  omega
theorem sees_marks {m : Nat} (h : Own w base (.slice A m c) (marks m)) : Sees w w.heap.size A (ints (marks m)) := by
  have h' : Own w base (.slice A (marks m).length c) (marks m) := by rw [marks_len]; exact h
  exact Sees.of_own h'.out
end

def tkS (s n : Int) (g : List Int) : Int := if Line.takeB s n g = true then s else 0
def tkN (s n : Int) (g : List Int) : Int := if Line.takeB s n g = true then n + 1 else 0
def tkT (s n : Int) (g : List Int) : Int := if Line.takeB s n g = true then n else -1
def tkL (s n : Int) (g : List Int) : List Int := if Line.takeB s n g = true then g else []
theorem takeUni {s n : Int} {g : List Int} {base : Nat} {e : Ending} {w' : World} (h : TakeAns s n g base e w') :
    ∃ A c, e = .returned (.tuple #[.agg #[.int .i64 (tkS s n g), .int .i64 (tkN s n g), .slice A (tkL s n g).length c], .int .i64 (tkT s n g), .bool (Line.takeB s n g)]) ∧ Own w' base (.slice A (tkL s n g).length c) (tkL s n g) := by
  unfold tkS tkN tkT tkL
  rcases h with ⟨hb, v, rfl, ho⟩ | ⟨hb, rfl⟩
  · obtain ⟨A, c, rfl, _⟩ := ho.form
    simp only [hb, if_true]
    exact ⟨A, c, rfl, ho⟩
  · simp only [hb]
    exact ⟨none, 0, rfl, Own.none_ _ _⟩
theorem tk_len {s n : Int} {g : List Int} : (tkL s n g).length ≤ 4194304 := by
  unfold tkL
  split
  · rename_i h
    have := Line.gone_len (Line.takeB_iff.1 h).1
    omega
  · simp
def caS (s n : Int) (g : List Int) : Int := if Line.callB s n g = true then Line.callT s n g + 1 else 0
def caN (s n : Int) (g : List Int) : Int := if Line.callB s n g = true then n else 0
def caT (s n : Int) (g : List Int) : Int := if Line.callB s n g = true then Line.callT s n g else -1
def caL (s n : Int) (g : List Int) : List Int := if Line.callB s n g = true then Line.callG s n g else []
theorem callUni {s n : Int} {g : List Int} {base : Nat} {e : Ending} {w' : World} (h : CallAns s n g base e w') :
    ∃ A c, e = .returned (.tuple #[.agg #[.int .i64 (caS s n g), .int .i64 (caN s n g), .slice A (caL s n g).length c], .int .i64 (caT s n g), .bool (Line.callB s n g)]) ∧ Own w' base (.slice A (caL s n g).length c) (caL s n g) := by
  unfold caS caN caT caL
  rcases h with ⟨hb, v, rfl, ho⟩ | ⟨hb, rfl⟩
  · obtain ⟨A, c, rfl, _⟩ := ho.form
    simp only [hb, if_true]
    exact ⟨A, c, rfl, ho⟩
  · simp only [hb]
    exact ⟨none, 0, rfl, Own.none_ _ _⟩
theorem ca_len {s n : Int} {g : List Int} : (caL s n g).length ≤ 4194304 := by
  unfold caL
  split
  · rename_i h
    have := Line.gone_len (Line.call_ok h)
    omega
  · simp
def leS (s n t : Int) (g : List Int) : Int := if Line.leaveB s n g t = true then Line.leaveS s n g t else 0
def leN (s n t : Int) (g : List Int) : Int := if Line.leaveB s n g t = true then n else 0
def leL (s n t : Int) (g : List Int) : List Int := if Line.leaveB s n g t = true then Line.leaveG s n g t else []
theorem leaveUni {s n t : Int} {g : List Int} {base : Nat} {e : Ending} {w' : World} (h : LeaveAns s n t g base e w') :
    ∃ A c, e = .returned (.tuple #[.agg #[.int .i64 (leS s n t g), .int .i64 (leN s n t g), .slice A (leL s n t g).length c], .bool (Line.leaveB s n g t)]) ∧ Own w' base (.slice A (leL s n t g).length c) (leL s n t g) := by
  unfold leS leN leL
  rcases h with ⟨hb, v, rfl, ho⟩ | ⟨hb, rfl⟩
  · obtain ⟨A, c, rfl, _⟩ := ho.form
    simp only [hb, if_true]
    exact ⟨A, c, rfl, ho⟩
  · simp only [hb]
    exact ⟨none, 0, rfl, Own.none_ _ _⟩
theorem le_len {s n t : Int} {g : List Int} : (leL s n t g).length ≤ 4194304 := by
  unfold leL
  split
  · rename_i h
    have := Line.gone_len (Line.leave_ok h)
    omega
  · simp
end Go.Proofs.Ytcfijijpcafncac

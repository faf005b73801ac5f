/-
  Ages in memory: two cells each. No condition.
-/
import Derived.Test.YtlonmmkioaejmacStrip
import Derived.Test.YtlonmmkioaejmacAgeMath
namespace Go.Proofs.Ytlonmmkioaejmac
open Go.RowKit Age

def acells (x : Ag) : List Value := [.int .i64 x.b, .int .i64 x.u]
def avals (l : List Ag) : List Value := strip acells l
/-- The two cells of the age k of a row of ages. -/
theorem Sees.age {w : World} {B : Nat} {A : Option Addr} {l : List Ag} (h : Sees w B A (strip acells l)) {k : Nat} (hk : k < l.length) :
    ∃ b o, A = some ⟨b, o, none⟩ ∧ b < B ∧ w.cell? ⟨b, o + k * 2, none⟩ = some (.int .i64 l[k].b) ∧ w.cell? ⟨b, o + k * 2 + 1, none⟩ = some (.int .i64 l[k].u) := by
  obtain ⟨b, o, e, hb, hc⟩ := Sees.elem (f := acells) (s := 2) (fun _ => rfl) (by decide) h hk
  exact ⟨b, o, e, hb, by simpa using hc 0 _ rfl, by simpa [Nat.add_assoc] using hc 1 _ rfl⟩
end Go.Proofs.Ytlonmmkioaejmac

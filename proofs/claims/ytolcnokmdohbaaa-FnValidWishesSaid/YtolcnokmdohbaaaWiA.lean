/-
  Wishes in memory: three cells each. No condition.
-/
import Derived.Test.YtolcnokmdohbaaaStrip
import Derived.Test.YtolcnokmdohbaaaWishMath
namespace Go.Proofs.Ytolcnokmdohbaaa
open Go.RowKit Wis

def wcells (x : Wi) : List Value := [.int .i64 x.a, .int .i64 x.h, .int .i64 x.p]
/-- The three cells of the wish k of a row of wishes. -/
theorem Sees.wish {w : World} {B : Nat} {A : Option Addr} {l : List Wi} (h : Sees w B A (strip wcells l)) {k : Nat} (hk : k < l.length) :
    ∃ b o, A = some ⟨b, o, none⟩ ∧ b < B ∧ w.cell? ⟨b, o + k * 3, none⟩ = some (.int .i64 l[k].a) ∧ w.cell? ⟨b, o + k * 3 + 1, none⟩ = some (.int .i64 l[k].h) ∧ w.cell? ⟨b, o + k * 3 + 2, none⟩ = some (.int .i64 l[k].p) := by
  obtain ⟨b, o, e, hb, hc⟩ := Sees.elem (f := wcells) (s := 3) (fun _ => rfl) (by decide) h hk
  exact ⟨b, o, e, hb, by simpa using hc 0 _ rfl, by simpa [Nat.add_assoc] using hc 1 _ rfl, by simpa [Nat.add_assoc] using hc 2 _ rfl⟩
end Go.Proofs.Ytolcnokmdohbaaa

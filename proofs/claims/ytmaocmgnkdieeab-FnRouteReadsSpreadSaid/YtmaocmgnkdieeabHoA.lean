/-
  Hosts in memory: three cells each. No condition.
-/
import Derived.Test.YtmaocmgnkdieeabStrip
import Derived.Test.YtmaocmgnkdieeabHostMath
namespace Go.Proofs.Ytmaocmgnkdieeab
open Go.RowKit Hos

def hcl (x : Hst) : List Value := [.int .i64 x.l, .int .i64 x.g, .bool x.d]
/-- The three cells of the host k of a row of hosts. -/
theorem Sees.host {w : World} {B : Nat} {A : Option Addr} {l : List Hst} (h : Sees w B A (strip hcl l)) {k : Nat} (hk : k < l.length) :
    ∃ b o, A = some ⟨b, o, none⟩ ∧ b < B ∧ w.cell? ⟨b, o + k * 3, none⟩ = some (.int .i64 l[k].l) ∧ w.cell? ⟨b, o + k * 3 + 1, none⟩ = some (.int .i64 l[k].g) ∧ w.cell? ⟨b, o + k * 3 + 2, none⟩ = some (.bool l[k].d) := by
  obtain ⟨b, o, e, hb, hc⟩ := Sees.elem (f := hcl) (s := 3) (fun _ => rfl) (by decide) h hk
  exact ⟨b, o, e, hb, by simpa using hc 0 _ rfl, by simpa [Nat.add_assoc] using hc 1 _ rfl, by simpa [Nat.add_assoc] using hc 2 _ rfl⟩
end Go.Proofs.Ytmaocmgnkdieeab

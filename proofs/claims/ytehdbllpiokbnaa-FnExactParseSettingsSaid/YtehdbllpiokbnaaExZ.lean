/-
  Markings of lists that are not read again, from any count on. Condition: the list is at most 2^22 long, the count from 0 on and at most 2^30.
-/
import Derived.Test.YtehdbllpiokbnaaExG
import Derived.Test.YtehdbllpiokbnaaBoolA
namespace Go.Proofs.Ytehdbllpiokbnaa
open Go.RowKit

/-- What changes nothing changes nothing that was there. -/
theorem same_bel {P : Program} {f : Nat} {args : Array Value} {w : World} {R : Ending → Prop} (h : Calls P f args w fun e w' => R e ∧ w = w') : Calls P f args w fun e w' => R e ∧ Below w.heap.size w w' :=
  h.mono fun _ _ h => ⟨h.1, h.2 ▸ Below.refl _ _⟩

theorem markIntS_z (k0 : Int) (base : Nat) (A : Option Addr) (c : Nat) (ys : List Int) (w : World) (h : Own w base (.slice A ys.length c) ys) (hn : ys.length ≤ 4194304) (h0 : 0 ≤ k0) (h1 : k0 ≤ 1073741824) :
    Calls Try.prog 51 #[.slice A ys.length c, .int .i64 k0] w fun e w' => e = .returned (.int .i64 (k0 + ys.length)) ∧ w.grownBy w' (Value.slice A ys.length c).ownBlock := by
  obtain ⟨n, rfl⟩ := Int.eq_ofNat_of_zero_le h0
  exact (markIntS_g n base A c ys w h hn (by omega)).mono fun _ _ h => ⟨h.1, h.2.2⟩
end Go.Proofs.Ytehdbllpiokbnaa

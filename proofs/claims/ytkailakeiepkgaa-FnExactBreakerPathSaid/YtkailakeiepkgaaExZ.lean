/-
  Markings of lists that are not read again, from any count on. Condition: the list is at most 2^22 long, the count from 0 on and at most 2^30.
-/
import Derived.Test.YtkailakeiepkgaaExG
import Derived.Test.YtkailakeiepkgaaBoolA
namespace Go.Proofs.Ytkailakeiepkgaa
open Go.RowKit

theorem markIntS_z (k0 : Int) (base : Nat) (A : Option Addr) (c : Nat) (ys : List Int) (w : World) (h : Own w base (.slice A ys.length c) ys) (hn : ys.length ≤ 4194304) (h0 : 0 ≤ k0) (h1 : k0 ≤ 1073741824) :
    Calls Try.prog 26 #[.slice A ys.length c, .int .i64 k0] w fun e w' => e = .returned (.int .i64 (k0 + ys.length)) ∧ w.grownBy w' (Value.slice A ys.length c).ownBlock := by
  obtain ⟨n, rfl⟩ := Int.eq_ofNat_of_zero_le h0
  exact (markIntS_g n base A c ys w h hn (by omega)).mono fun _ _ h => ⟨h.1, h.2.2⟩
theorem markBoolS_z (k0 : Int) (base : Nat) (A : Option Addr) (c : Nat) (ys : List Bool) (w : World) (h : OwnT w base (.slice A ys.length c) ys) (hn : ys.length ≤ 4194304) (h0 : 0 ≤ k0) (h1 : k0 ≤ 1073741824) :
    Calls Try.prog 25 #[.slice A ys.length c, .int .i64 k0] w fun e w' => e = .returned (.int .i64 (k0 + ys.length)) ∧ w.grownBy w' (Value.slice A ys.length c).ownBlock := by
  obtain ⟨n, rfl⟩ := Int.eq_ofNat_of_zero_le h0
  exact markBoolS_g n base A c ys w h hn (by omega)
end Go.Proofs.Ytkailakeiepkgaa

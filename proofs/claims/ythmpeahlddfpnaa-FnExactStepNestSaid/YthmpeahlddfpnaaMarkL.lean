/-
  A list of the call's own, in blocks from lo to before hi, is marked. Condition: the list is at most 2^22 long.
-/
import Derived.Test.YthmpeahlddfpnaaMidW
import Derived.Test.YthmpeahlddfpnaaExG
namespace Go.Proofs.Ythmpeahlddfpnaa
open Go.RowKit

theorem markIvL_any (k0 lo hi : Nat) (A : Option Addr) (c : Nat) (l : List Int) (w : World) (h : IvL w lo hi A c l) (hn : l.length ≤ 4194304) (hk : k0 ≤ 1073741824) :
    Calls Try.prog 25 #[.slice A l.length c, .int .i64 k0] w fun e w' => e = .returned (.int .i64 ((k0 : Int) + l.length)) ∧ Mid lo hi w w' ∧ IvL w' lo hi A c (marksG k0 l.length) :=
  (markIntS_g k0 lo A c l w h.own hn hk).mono fun _ _ ⟨he, ho, hg⟩ => ⟨he, Mid.grown hg h.top, by
    unfold IvL
    rw [marksG_len]
    exact ⟨ho, h.2⟩⟩
theorem markIvL_z (k0 : Int) (lo hi : Nat) (A : Option Addr) (c : Nat) (l : List Int) (w : World) (h : IvL w lo hi A c l) (hn : l.length ≤ 4194304) (hk : 0 ≤ k0 ∧ k0 ≤ 1073741824) :
    Calls Try.prog 25 #[.slice A l.length c, .int .i64 k0] w fun e w' => e = .returned (.int .i64 (k0 + l.length)) ∧ Mid lo hi w w' ∧ IvL w' lo hi A c (marksG k0.toNat l.length) := by
  obtain ⟨n, rfl⟩ : ∃ n : Nat, k0 = n := ⟨k0.toNat, by omega⟩
  exact markIvL_any n lo hi A c l w h hn (by omega)
end Go.Proofs.Ythmpeahlddfpnaa

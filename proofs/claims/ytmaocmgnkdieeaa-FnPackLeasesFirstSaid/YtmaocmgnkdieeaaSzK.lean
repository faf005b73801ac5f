/-
  What PackLeases answers, of one order for both. Condition: the list lies in memory.
-/
import Derived.Test.YtmaocmgnkdieeaaSzJ
namespace Go.Proofs.Ytmaocmgnkdieeaa
open Go.RowKit Lse

theorem packs_len (l : List L) : ∀ (K : List Nat) (s : List L × List L), (K.foldl (pk1 l) s).1.length = s.1.length
  | [], s => rfl
  | p :: K, s => by rw [List.foldl_cons, packs_len l K]; simp [pk1]
/-- What packing gives. -/
noncomputable def packE (l : List L) : List L := packL l (Classical.choose (ord_some l l.length))
theorem packE_len (l : List L) : (packE l).length ≤ l.length := by
  unfold packE packL packs
  split
  · rw [packs_len]; exact Nat.le_refl _
  · simp
theorem packE_is {l : List L} {K : List Nat} (h : Ord l l.length K) : packE l = packL l K := by
  unfold packE
  rw [ord_one (Classical.choose_spec (ord_some l l.length)) h]
theorem iPackLeases_x (A : Option Addr) (c : Nat) (l : List L) (w : World) (h : Sees w w.heap.size A (lvals l)) (hc : l.length ≤ c) (hn : l.length ≤ 4194304) :
    Calls Try.prog 7 #[.slice A l.length c] w fun e w' => ∃ v, e = .returned (.tuple #[v, .bool (validB l)]) ∧ OwnL w' w.heap.size v (packE l) ∧ Below w.heap.size w w' := by
  refine (iPackLeases_any A c l w h hc hn).mono ?_
  rintro e w' ⟨v, he, ho, hb⟩
  exact ⟨v, he, ho _ (Classical.choose_spec (ord_some l l.length)), hb⟩
theorem sPackLeases_x (A : Option Addr) (c : Nat) (l : List L) (w : World) (h : Sees w w.heap.size A (lvals l)) (hn : l.length ≤ 4194304) :
    Calls Try.prog 8 #[.slice A l.length c] w fun e w' => ∃ v, e = .returned (.tuple #[v, .bool (validB l)]) ∧ OwnL w' w.heap.size v (packE l) ∧ Below w.heap.size w w' :=
  sPackLeases_any A c l _ w h hn (Classical.choose_spec (ord_some l l.length))
end Go.Proofs.Ytmaocmgnkdieeaa

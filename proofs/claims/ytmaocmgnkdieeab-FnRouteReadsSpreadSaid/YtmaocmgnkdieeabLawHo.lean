/-
  Words for the walks of the drawn laws on hosts: equal lists are told equal; contracts at a length of another name. Condition: the lists lie in memory.
-/
import Derived.Test.YtmaocmgnkdieeabHoF
import Derived.Test.YtmaocmgnkdieeabHoDraw
import Derived.Test.YtmaocmgnkdieeabLawHostMath
import Derived.BigQuiet
namespace Go.Proofs.Ytmaocmgnkdieeab
open Go.RowKit Hos

theorem DLs.n6 {w w' : World} {A : Option Addr} {c : Nat} {l : List Hst} (h : DH w w' A c l) : l.length ≤ 4194304 := h.n4 (by decide)
theorem hcl_take {w : World} {B : Nat} {A : Option Addr} {l : List Hst} (h : Sees w B A (strip hcl l)) (k : Nat) : Sees w B A (strip hcl (l.take k)) := h.stake hcl_len k
theorem OwnS.drewH {α : Type} {t : TypeId} {s : Nat} {f : α → List Value} {w : World} {base : Nat} {v : Value} {l : List α} (h : OwnS t s f w base v l) (n : Nat) : OwnS t s f (w.drewN n) base v l := h.below (below_drewN (Below.refl _ _) n)
theorem hEq_same (A B : Option Addr) (c d : Nat) (Q : List Int) (w : World) (h : Sees w w.heap.size A (ints Q)) (h' : Sees w w.heap.size B (ints Q)) (hn : Q.length ≤ 4194304) :
    Calls Try.prog 7 #[.slice A Q.length c, .slice B Q.length d] w fun e w' => e = .returned (.bool true) ∧ Below w.heap.size w w' := by
  refine (equalInts_any A B c d Q Q w h h' (Nat.le_trans hn (by decide))).mono ?_
  rintro e w' ⟨he, hb⟩
  exact ⟨by rw [he, eqB_iff.2 rfl], hb⟩
theorem hEq_len {A B : Option Addr} {n c d : Nat} {Q : List Int} {w : World} (hl : Q.length = n) (h : Sees w w.heap.size A (ints Q)) (h' : Sees w w.heap.size B (ints Q)) (hn : Q.length ≤ 4194304) :
    Calls Try.prog 7 #[.slice A n c, .slice B n d] w fun e w' => e = .returned (.bool true) ∧ Below w.heap.size w w' := by
  subst hl; exact hEq_same A B c d Q w h h' hn
theorem iAddLoad_len {A : Option Addr} {n c : Nat} {l : List Hst} {q d : Int} {w : World} (hl : l.length = n) (h : Sees w w.heap.size A (strip hcl l)) (hn : l.length ≤ 4194304) :
    Calls Try.prog 44 #[.slice A n c, .int .i64 q, .int .i64 d] w (LoadAns l q d w) := by
  subst hl; exact iAddLoad_any A c l q d w h hn
theorem iRouteReads_len {A A2 : Option Addr} {n n2 c c2 : Nat} {l : List Hst} {gs : List Int} {w : World} (hl : l.length = n) (hg : gs.length = n2) (h : Sees w w.heap.size A (strip hcl l)) (h2 : Sees w w.heap.size A2 (ints gs)) (hn : l.length ≤ 4194304) (hn2 : gs.length ≤ 4194304) :
    Calls Try.prog 12 #[.slice A n c, .slice A2 n2 c2] w fun e w' => ∃ v, e = .returned v ∧ Own w' w.heap.size v (readsL l gs) ∧ Below w.heap.size w w' := by
  subst hl hg; exact iRouteReads_any A A2 c c2 l gs w h h2 hn hn2
end Go.Proofs.Ytmaocmgnkdieeab

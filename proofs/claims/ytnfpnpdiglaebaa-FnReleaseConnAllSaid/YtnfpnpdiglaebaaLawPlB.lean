/-
  Two lists that are the same, under two names; words for the walks of the drawn laws on pools. Condition: the lists lie in memory.
-/
import Derived.Test.YtnfpnpdiglaebaaLawPl
import Derived.BigQuiet
namespace Go.Proofs.Ytnfpnpdiglaebaa
open Go.RowKit Pol
theorem lisIn_qp {A : Option Addr} {c n : Nat} {xs : List Int} {x : Int} {w : World} {b : Bool} {B : Nat} (hm : memB xs x = b) (hl : xs.length = n) (m : Nat) (h : Sees w B A (ints xs)) (hn : xs.length ≤ 4194304) :
    Calls Try.prog 17 #[.slice A n c, .int .i64 x] (w.drewN m) fun e w' => e = .returned (.bool b) ∧ ∃ k, w' = w.drewN k := by
  subst hl hm
  exact Calls.quiet_of_same ((lisIn_any A c xs x _ (h.drewN m) (Nat.le_trans hn (by decide))).mono fun _ _ ⟨he, hw⟩ => ⟨he, hw.symm⟩)
theorem kEq_of {A B : Option Addr} {n m c d : Nat} {xs ys : List Int} {w : World} (e : xs = ys) (h1 : xs.length = n) (h2 : ys.length = m) (h : Sees w w.heap.size A (ints xs)) (h' : Sees w w.heap.size B (ints ys)) (hn : ys.length ≤ 4194304) :
    Calls Try.prog 19 #[.slice A n c, .slice B m d] w fun e w' => e = .returned (.bool true) ∧ Below w.heap.size w w' := by
  subst e h1 h2; exact kEq_same A B c d _ w h h' hn
theorem kHolds_of {A B : Option Addr} {n m c d : Nat} {l l' : List Ho} {w : World} (e : l = l') (h1 : l.length = n) (h2 : l'.length = m) (h : Sees w w.heap.size A (strip hcells l)) (h' : Sees w w.heap.size B (strip hcells l')) (hn : l'.length ≤ 4194304) :
    Calls Try.prog 20 #[.slice A n c, .slice B m d] w fun e w' => e = .returned (.bool true) ∧ Below w.heap.size w w' := by
  subst e h1 h2; exact equalHolds_same rfl h h' hn
theorem last_at {l Q : List Int} {N : Int} (h : l = Q ++ [N]) (k : Nat) (hk : k < l.length) (e : k + 1 = l.length) : l[k] = N := by
  subst h
  have : k = Q.length := by simp at e; omega
  subst this; simp
theorem last_pos {l Q : List Int} {N : Int} (h : l = Q ++ [N]) : 0 < l.length := by subst h; simp
theorem OwnP.idle_at {w : World} {base : Nat} {A1 A2 A3 : Option Addr} {c1 c2 c3 : Nat} {p : Pl} (h : OwnP w base A1 A2 A3 c1 c2 c3 p) (hl : 0 < c1) : ∃ gi, A1 = some ⟨gi, 0, none⟩ := by
  rcases h.1.out.2 with ⟨e, _⟩ | ⟨g, cap, cur, e, _⟩
  · injection e with _ _ e; omega
  · injection e with e1 _ _; exact ⟨g, e1⟩
theorem OwnP.wait_at {w : World} {base : Nat} {A1 A2 A3 : Option Addr} {c1 c2 c3 : Nat} {p : Pl} (h : OwnP w base A1 A2 A3 c1 c2 c3 p) (hl : 0 < c3) : ∃ gi, A3 = some ⟨gi, 0, none⟩ := by
  rcases h.2.2.1.out.2 with ⟨e, _⟩ | ⟨g, cap, cur, e, _⟩
  · injection e with _ _ e; omega
  · injection e with e1 _ _; exact ⟨g, e1⟩
theorem ints_dropK {w : World} {B b o : Nat} {l : List Int} (h : Sees w B (some ⟨b, o, none⟩) (ints l)) (k : Nat) : Sees w B (some ⟨b, o + k, none⟩) (ints (l.drop k)) := by
  have e : ints (l.drop k) = (ints l).drop k := by simp [ints]
  rw [e]; exact h.drop rfl
theorem OwnK.n4 {w : World} {base c1 c2 c3 : Nat} {A1 A2 A3 : Option Addr} {p : Pl} (h : OwnK w base A1 A2 A3 c1 c2 c3 p) : p.idle.length ≤ 4194304 ∧ p.held.length ≤ 4194304 ∧ p.wait.length ≤ 4194304 := ⟨Nat.le_trans h.2.1 (by decide), Nat.le_trans h.2.2.1 (by decide), Nat.le_trans h.2.2.2 (by decide)⟩
end Go.Proofs.Ytnfpnpdiglaebaa

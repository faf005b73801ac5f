/-
  Words for the walk of the law on a breaker's first step. Condition: the lists lie in memory.
-/
import Derived.Test.YtmaocmgnkdieeabLawBk
import Derived.Test.YtmaocmgnkdieeabBrkC
import Derived.Test.YtmaocmgnkdieeabBrkD
import Derived.Test.YtmaocmgnkdieeabBrkQ0
import Derived.Deep.CutRange
import Derived.Deep.RegionHeld3
namespace Go.Proofs.Ytmaocmgnkdieeab
open Go.RowKit Brk
theorem sees_head {w : World} {B b o : Nat} {x : Value} {xs : List Value} (h : Sees w B (some ⟨b, o, none⟩) xs) (hx : xs[0]? = some x) : w.cell? ⟨b, o, none⟩ = some x ∧ b < B := by
  obtain ⟨b', o', e, hb, hc⟩ := h (by intro e; subst e; simp at hx)
  injection e with e
  injection e with e1 e2
  subst e1 e2
  exact ⟨by simpa using hc 0 x hx, hb⟩
theorem sees_ints_drop {w : World} {B b o : Nat} {l : List Int} (h : Sees w B (some ⟨b, o, none⟩) (ints l)) : Sees w B (some ⟨b, o + 1, none⟩) (ints (l.drop 1)) := by
  have e : ints (l.drop 1) = (ints l).drop 1 := by simp [ints]
  rw [e]
  intro hx
  obtain ⟨b', o', e, hb, hc⟩ := h (by intro e; rw [e] at hx; exact hx rfl)
  injection e with e
  injection e with e1 e2
  subst e1 e2
  refine ⟨b, o + 1, rfl, hb, fun j u hu => ?_⟩
  rw [List.getElem?_drop] at hu
  rw [← hc (1 + j) u hu]
  congr 2
  omega
theorem sees_boos_drop {w : World} {B b o : Nat} {l : List Bool} (h : Sees w B (some ⟨b, o, none⟩) (boos l)) : Sees w B (some ⟨b, o + 1, none⟩) (boos (l.drop 1)) := by
  have e : boos (l.drop 1) = (boos l).drop 1 := by simp [boos]
  rw [e]
  intro hx
  obtain ⟨b', o', e, hb, hc⟩ := h (by intro e; rw [e] at hx; exact hx rfl)
  injection e with e
  injection e with e1 e2
  subst e1 e2
  refine ⟨b, o + 1, rfl, hb, fun j u hu => ?_⟩
  rw [List.getElem?_drop] at hu
  rw [← hc (1 + j) u hu]
  congr 2
  omega
theorem sees_ints_end {w : World} {B : Nat} {A : Option Addr} {l : List Int} (h : l.length ≤ 1) : Sees w B A (ints (l.drop 1)) := fun hx => absurd (by rw [List.drop_eq_nil_iff.2 h]; rfl) hx
theorem sees_boos_end {w : World} {B : Nat} {A : Option Addr} {l : List Bool} (h : l.length ≤ 1) : Sees w B A (boos (l.drop 1)) := fun hx => absurd (by rw [List.drop_eq_nil_iff.2 h]; rfl) hx
theorem path_step {b : Br} {gs : List Bool} {ts : List Int} (h : pathB b gs ts = true) (hg : 0 < gs.length) (ht : 0 < ts.length) : path b gs ts = (once b gs[0] ts[0]).st :: path (once b gs[0] ts[0]) (gs.drop 1) (ts.drop 1) := by
  match gs, ts, hg, ht with
  | g :: gs, t :: ts, _, _ => exact path_tail h
theorem path_mom {b : Br} {gs : List Bool} {ts : List Int} (h : pathB b gs ts = true) (ht : 0 < ts.length) : momB b ts[0] = true := by
  obtain ⟨h1, h2, h3, h4, h5⟩ := pathB_iff.1 h
  have := h4 _ (List.getElem_mem ht)
  exact momB_iff.2 ⟨h1, this⟩
end Go.Proofs.Ytmaocmgnkdieeab

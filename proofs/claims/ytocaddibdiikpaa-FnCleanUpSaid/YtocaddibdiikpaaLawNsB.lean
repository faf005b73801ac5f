/-
  What the walks of the laws on runs of commands use. No condition.
-/
import Derived.Test.YtocaddibdiikpaaLawNs
import Derived.Test.YtocaddibdiikpaaNsI
import Derived.Test.YtocaddibdiikpaaNsH
import Derived.Deep.RegionHeld3
import Derived.Deep.CutRange
namespace Go.Proofs.Ytocaddibdiikpaa
open Go.RowKit Nes
theorem run_nil : runS [] = zeroN ∧ runV [] = 0 := ⟨rfl, rfl⟩
theorem iRunNest_nil (w : World) : Calls Try.prog 18 #[.slice none 0 0] w fun e w' => ∃ A c, e = .returned (.tuple #[.agg #[.int .i64 0, .int .i64 0, .slice A 0 c, .bool false], .int .i64 0]) ∧ Below w.heap.size w w' :=
  (iRunNest_any none 0 [] w Sees.nil (Nat.zero_le _)).mono fun _ _ ⟨A, c, he, _, hb⟩ => ⟨A, c, he, hb⟩
theorem iRunNest_len {A : Option Addr} {c n : Nat} {l : List Int} {w : World} (hl : l.length = n) (h : Sees w w.heap.size A (ints l)) (hn : l.length ≤ 4194304) :
    Calls Try.prog 18 #[.slice A n c] w (RunAns l w) := by
  subst hl; exact iRunNest_any A c l w h hn
theorem iKeptWork_len {A : Option Addr} {c n : Nat} {l : List Int} {w : World} (hl : l.length = n) (h : Sees w w.heap.size A (ints l)) (hn : l.length ≤ 4194304) :
    Calls Try.prog 21 #[.slice A n c] w fun e w' => e = .returned (.int .i64 (keptV l)) ∧ Below w.heap.size w w' := by
  subst hl; exact iKeptWork_any A c l w h hn
theorem iCleanUp_zero (w : World) : Calls Try.prog 25 #[.agg #[.int .i64 0, .int .i64 0, .slice none 0 0, .bool false]] w fun e w' => ∃ v, e = .returned v ∧ Own w' w.heap.size v (cleanL zeroN) ∧ Below w.heap.size w w' :=
  iCleanUp_any zeroN none 0 w (sees_zeroN _ _) (Nat.le_refl _) (Nat.zero_le _)
theorem Own.seesN' {w : World} {base c : Nat} {A : Option Addr} {ys : List Int} (h : Own w base (.slice A ys.length c) ys) : Sees w w.heap.size A (ints ys) := Sees.of_own h.out
theorem Own.drew4 {w : World} {base : Nat} {v : Value} {ys : List Int} (h : Own w base v ys) : Own w.drew base v ys := h.below (Below.refl _ _).drew
theorem SeesF.grown_box {w w' : World} {F : Nat → Prop} {A : Option Addr} {xs : List Value} {g : Nat} {t : TypeId} {cs : Array Value} (h : SeesF w F A xs) (_hp : At w g t cs) (hg : w.grownBy w' (some g)) (hF : F g) : SeesF w' F A xs :=
  h.grown hg (fun _ e => by injection e with e; subst e; exact hF)
theorem take_ints (l : List Int) (k : Nat) : ints (l.take k) = (ints l).take k := by simp [ints]
theorem ones_step {l : List Int} {k : Nat} (h : k < l.length) : (l[k] = 1 → ones (l.take (k + 1)) = ones (l.take k) + 1) ∧ (l[k] ≠ 1 → ones (l.take (k + 1)) = ones (l.take k)) := by
  rw [ones_take h]
  exact ⟨fun e => by rw [if_pos e], fun e => by rw [if_neg e]; omega⟩
theorem clean_at {n : Nst} {k : Nat} (h : k < (cleanL n).length) : (cleanL n)[k] = 4 := clean_in (List.getElem_mem h)
theorem clean_size {n : Nst} (h : nestB n = true) : ((cleanL n).length : Int) = n.d := by
  rw [clean_yes h, List.length_replicate]
  have := (nestB_iff.1 h).1
  omega
theorem SeesF.seesM {w : World} {F : Nat → Prop} {A : Option Addr} {s : Nst} (h : SeesF w F A (ints s.m)) : SeesM w w.heap.size A s := h.sees
theorem memB_three {l : List Int} (h : 3 ∈ l) : memB l 3 = true := memB_iff.2 h
end Go.Proofs.Ytocaddibdiikpaa

/-
  What FreeFor and LeasedTime answer, the program's and the model's. Condition: the list lies in memory.
-/
import Derived.Test.YtncijbmahidjbabLsC
import Derived.Test.YtncijbmahidjbabLsD
namespace Go.Proofs.Ytncijbmahidjbab
open Go.RowKit Lse

/-- The least connection below m that is free, -1 if there is none. -/
def leastFree (l : List L) (f u : Int) (m : Nat) : Int := match (List.range m).find? (fun (c : Nat) => freeB l (c : Int) f u) with | some c => c | none => -1
theorem least_at {l : List L} {f u : Int} {m k : Nat} (hk : k < m) (h : ∀ j : Nat, j < k → freeB l (j : Int) f u = false) (hx : freeB l (k : Int) f u = true) : leastFree l f u m = k := by
  unfold leastFree
  have : (List.range m).find? (fun (c : Nat) => freeB l (c : Int) f u) = some k := by
    rw [List.find?_range_eq_some]
    exact ⟨hx, by simpa using hk, fun j hj => by simp [h j hj]⟩
  rw [this]
theorem least_no {l : List L} {f u : Int} {m : Nat} (h : ∀ j : Nat, j < m → freeB l (j : Int) f u = false) : leastFree l f u m = -1 := by
  unfold leastFree
  have : (List.range m).find? (fun (c : Nat) => freeB l (c : Int) f u) = none := by
    rw [List.find?_eq_none]
    intro j hj
    simp [h j (by simpa using hj)]
  rw [this]
def freeFor (l : List L) (m f u : Int) : Int := if (validB l && (inB m 1 6 && timesB f u)) = true then leastFree l f u m.toNat else -1
def leased (l : List L) (o : Int) : Int := if validB l = true then time l o else -1
theorem times_inB (f u : Int) : timesB f u = (inB f 0 999 && inB u (f + 1) 1000) := by
  unfold timesB inB
  rw [Bool.eq_iff_iff]
  simp only [Bool.and_eq_true, decide_eq_true_eq]
  omega
theorem ff_no {l : List L} {m f u : Int} (h : (validB l && (inB m 1 6 && timesB f u)) = false) : freeFor l m f u = -1 := by unfold freeFor; rw [h]; rfl
theorem ff_yes {l : List L} {m f u : Int} (h1 : validB l = true) (h2 : inB m 1 6 = true) (h3 : timesB f u = true) : freeFor l m f u = leastFree l f u m.toNat := by unfold freeFor; rw [h1, h2, h3]; rfl
theorem below_step {l : List L} {f u : Int} {k : Nat} (h : ∀ j : Nat, j < k → freeB l (j : Int) f u = false) (hx : freeB l (k : Int) f u = false) : ∀ j : Nat, j < k + 1 → freeB l (j : Int) f u = false := fun j hj => by
  rcases Nat.lt_or_ge j k with e | e
  · exact h j e
  · have : j = k := by omega
    subst this; exact hx
theorem time_take {l : List L} {k : Nat} (hk : k < l.length) (o : Int) : time (l.take (k + 1)) o = time (l.take k) o + if l[k].o = o then l[k].u - l[k].f else 0 := by
  rw [List.take_succ_eq_append_getElem hk, time_snoc]
theorem time_take_bd {l : List L} (hv : validB l = true) (k : Nat) (o : Int) : 0 ≤ time (l.take k) o ∧ time (l.take k) o ≤ 12000 := by
  obtain ⟨h1, h2, _⟩ := validB_iff.1 hv
  have := time_bounds (l := l.take k) (fun x hx => h2 x (List.mem_of_mem_take hx)) o
  have h3 : (l.take k).length ≤ 12 := by rw [List.length_take]; omega
  omega

theorem hits_zero {x : L} {q f u : Int} (d : x.c = q) : hits x q f u ↔ meetB x ⟨0, 0, f, u⟩ = true := by unfold hits meetB; simp [d]

end Go.Proofs.Ytncijbmahidjbab

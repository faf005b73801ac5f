/-
  What MeanLeased answers, the program's and the model's. Condition: the list lies in memory.
-/
import Derived.Test.YtmaocmgnkdieeaaLsC
import Derived.Test.YtmaocmgnkdieeaaLsD
import Derived.Test.YtmaocmgnkdieeaaLsE
import Derived.Test.YtmaocmgnkdieeaaLsF
import Derived.Handy
namespace Go.Proofs.Ytmaocmgnkdieeaa
open Go.RowKit Lse

/-- How much of its time a lease has before u. -/
def ahead (x : L) (u : Int) : Int := min x.u u - min x.f u
def aheads (l : List L) (u : Int) : Int := (l.map fun x => ahead x u).sum
def meanB (l : List L) (u : Int) : Bool := validB l && inB u 1 1000
def meanOf (l : List L) (u : Int) : Int := if meanB l u = true then 100 * aheads l u / u else -1
theorem ahead_bd {x : L} (h : x.ok = true) (u : Int) : 0 ≤ ahead x u ∧ ahead x u ≤ 1000 := by
  have := L.ok_iff.1 h
  unfold ahead; omega
theorem ahead_max {x : L} (h : x.ok = true) (u : Int) : max 0 (min x.u u - x.f) = ahead x u := by
  have := L.ok_iff.1 h
  unfold ahead; omega
theorem aheads_snoc (l : List L) (x : L) (u : Int) : aheads (l ++ [x]) u = aheads l u + ahead x u := by simp [aheads]
theorem aheads_take {l : List L} {k : Nat} (hk : k < l.length) (u : Int) : aheads (l.take (k + 1)) u = aheads (l.take k) u + ahead l[k] u := by
  rw [List.take_succ_eq_append_getElem hk, aheads_snoc]
theorem aheads_bd : ∀ {l : List L} (_ : ∀ x ∈ l, x.ok = true) (u : Int), 0 ≤ aheads l u ∧ aheads l u ≤ 1000 * l.length
  | [], _, u => by simp [aheads]
  | x :: l, h, u => by
    have h1 := ahead_bd (h x (by simp)) u
    have h2 := aheads_bd (l := l) (fun y hy => h y (by simp [hy])) u
    have e : aheads (x :: l) u = ahead x u + aheads l u := by simp [aheads]
    rw [e, List.length_cons]
    omega
theorem aheads_take_bd {l : List L} (hv : validB l = true) (k : Nat) (u : Int) : 0 ≤ aheads (l.take k) u ∧ aheads (l.take k) u ≤ 12000 := by
  obtain ⟨h1, h2⟩ := validB_iff.1 hv
  have := aheads_bd (l := l.take k) (fun x hx => h2.1 x (List.mem_of_mem_take hx)) u
  have h3 : (l.take k).length ≤ 12 := by rw [List.length_take]; omega
  omega
theorem mean_no {l : List L} {u : Int} (h : meanB l u = false) : meanOf l u = -1 := by unfold meanOf; rw [if_neg (by simp [h])]
theorem mean_yes {l : List L} {u : Int} (h1 : validB l = true) (h2 : inB u 1 1000 = true) : meanOf l u = 100 * aheads l u / u := by unfold meanOf meanB; rw [if_pos (by rw [h1, h2]; rfl)]
theorem times_in (u : Int) : timesB 0 u = inB u 1 1000 := by
  unfold timesB inB
  rw [Bool.eq_iff_iff, decide_eq_true_eq, decide_eq_true_eq]
  omega
end Go.Proofs.Ytmaocmgnkdieeaa

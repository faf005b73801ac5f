/-
  How the generator of MostLeased draws, and twins of contracts. Condition: the code lies in memory.
-/
import Derived.Test.YtmaocmgnkdieeaaSzM
import Derived.Test.YtmaocmgnkdieeaaSzE
import Derived.Test.YtmaocmgnkdieeaaLsDraw
import Derived.Test.YtmaocmgnkdieeaaLawFrame
import Derived.BigQuiet
namespace Go.Proofs.Ytmaocmgnkdieeaa
open Go.RowKit Lse

theorem most_none {l : List L} (h : mostOf l < 1) : mostOf l < 0 ∨ (mostOf l = 0 ∧ l.length = 0) := by
  rcases hv : validB l with _ | _
  · rw [most_no hv]; omega
  · rw [most_yes hv] at h ⊢
    right
    refine ⟨by omega, ?_⟩
    cases l with
    | nil => rfl
    | cons x l =>
      have h1 := most_ge (l := x :: l) (x := x) List.mem_cons_self
      have h2 := L.ok_iff.1 ((validB_iff.1 hv).2.1 x List.mem_cons_self)
      have h3 : 0 < over (x :: l) x.f := by
        unfold over
        exact List.countP_pos_iff.2 ⟨x, List.mem_cons_self, decide_eq_true (by omega)⟩
      omega
theorem most_valid {l : List L} (h : 1 ≤ mostOf l) : validB l = true := by
  rcases hb : validB l with _ | _
  · rw [most_no hb] at h; omega
  · rfl
theorem most_at {l : List L} (hv : validB l = true) {i : Nat} (hi : i < l.length) : ((busy l l[i].f).length : Int) ≤ mostOf l := by
  rw [most_yes hv, busy_over hv]
  have := most_ge (List.getElem_mem hi)
  omega
theorem busy_most {l : List L} (hv : validB l = true) (t : Int) : ((busy l t).length : Int) ≤ mostOf l := by
  rw [most_yes hv, busy_over hv]
  have := over_any l t
  omega
theorem most_found {l : List L} (hv : validB l = true) (h : 1 ≤ mostOf l) : ∃ i, ∃ hi : i < l.length, i < l.length ∧ ((busy l l[i].f).length : Int) = mostOf l := by
  rw [most_yes hv] at h ⊢
  rcases most_some l with e | ⟨x, hx, e⟩
  · omega
  · obtain ⟨i, hi, rfl⟩ := List.getElem_of_mem hx
    exact ⟨i, hi, hi, by rw [busy_over hv, e]⟩
theorem iMostLeased_len {A : Option Addr} {n c : Nat} {l : List L} {w : World} (hl : l.length = n) (h : Sees w w.heap.size A (lvals l)) (hc : l.length ≤ c) (hn : l.length ≤ 4194304) :
    Calls Try.prog 10 #[.slice A n c] w fun e w' => e = .returned (.int .i64 (mostOf l)) ∧ Below w.heap.size w w' := by
  subst hl; exact iMostLeased_any A c l w h hc hn
end Go.Proofs.Ytmaocmgnkdieeaa

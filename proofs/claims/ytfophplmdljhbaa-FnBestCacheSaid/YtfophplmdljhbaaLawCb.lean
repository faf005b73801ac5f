/-
  Words for the walks of the laws on lists of caches. No condition.
-/
import Derived.Test.YtfophplmdljhbaaCaJ
import Derived.Test.YtfophplmdljhbaaCaL
namespace Go.Proofs.Ytfophplmdljhbaa
open Go.RowKit Cac Lea

section
variable {w w' w'' : World} {A A2 : Option Addr} {c c2 : Nat} {rs : List Rc} {l : List Int}
theorem DB.below (h : DB w w' A c rs A2 c2 l) (hb : Below w'.heap.size w' w'') : DB w w'' A c rs A2 c2 l := by
  obtain ⟨h1, h2, h3, h4⟩ := h
  exact ⟨h1.onT hb, (h2.below hb).more hb.size, h3.trans (hb.mono h3.size), h4⟩
theorem DB.drewN (h : DB w w' A c rs A2 c2 l) (n : Nat) : DB w (w'.drewN n) A c rs A2 c2 l := h.below (below_drewN (Below.refl _ _) n)
theorem DB.s1 (h : DB w w' A c rs A2 c2 l) : SeesC w' w'.heap.size A rs := h.1
theorem DB.s2 (h : DB w w' A c rs A2 c2 l) : Sees w' w'.heap.size A2 (ints l) := h.2.1
theorem DB.bel (h : DB w w' A c rs A2 c2 l) : Below w.heap.size w w' := h.2.2.1
theorem DB.n7 (h : DB w w' A c rs A2 c2 l) : rs.length ≤ 7 := h.2.2.2.1.1
theorem DB.cap (h : DB w w' A c rs A2 c2 l) : rs.length ≤ c := h.2.2.2.1.2
theorem DB.n1 (h : DB w w' A c rs A2 c2 l) : rs.length ≤ 4194304 := Nat.le_trans h.n7 (by decide)
theorem DB.n2 (h : DB w w' A c rs A2 c2 l) : ∀ r ∈ rs, r.m.n.length ≤ 4194304 := fun r hr => Nat.le_trans (h.2.2.2.2.1 r hr) (by decide)
theorem DB.n11 (h : DB w w' A c rs A2 c2 l) : l.length ≤ 11 := h.2.2.2.2.2.1
theorem DB.n3 (h : DB w w' A c rs A2 c2 l) : l.length ≤ 4194304 := Nat.le_trans h.n11 (by decide)
theorem DB.cap2 (h : DB w w' A c rs A2 c2 l) : l.length ≤ c2 := h.2.2.2.2.2.2
end
/-- Nothing was answered, or the place of the cache with the most names. -/
theorem bes_parts {rs : List Rc} {l : List Int} : besV rs l = -1 ∨ ∃ j : Nat, besV rs l = j ∧ j < rs.length ∧ ∀ i (hi : i < rs.length) (hj : j < rs.length), cnt l rs[i].m ≤ cnt l rs[j].m ∧ (i < j → cnt l rs[i].m < cnt l rs[j].m) := by
  have hr := bestV_lt (chs rs) l
  rw [chs_len] at hr
  by_cases h : besV rs l = -1
  · exact .inl h
  · unfold besV at h
    refine .inr ⟨(bestV (chs rs) l).toNat, by unfold besV; omega, by omega, fun i hi hj => ?_⟩
    have := best_cnt (cs := chs rs) (l := l) (n := (bestV (chs rs) l).toNat) (i := i) (by omega) (by rw [chs_len]; exact hi) (by rw [chs_len]; exact hj)
    rwa [chs_at hi, chs_at hj] at this
theorem bes_nil {rs : List Rc} {l : List Int} (h : 0 ≤ besV rs l) : besV rs [] = 0 := best_nil h
theorem bes_first {rs : List Rc} {l : List Int} (h : 0 ≤ besV rs l) : besV (rs.take 1) l = 0 := by
  have := best_first (cs := chs rs) (l := l) h
  unfold besV chs
  unfold chs at this
  rwa [List.map_take]
theorem seesC_take {w : World} {B : Nat} {A : Option Addr} {rs : List Rc} (h : SeesC w B A rs) (k : Nat) : SeesC w B A (rs.take k) :=
  ⟨h.1.stake rccl_ln k, fun r hr => h.2 r (List.mem_of_mem_take hr)⟩
theorem iBestCache_len {A1 A2 : Option Addr} {n1 n2 c1 c2 : Nat} {rs : List Rc} {l : List Int} {w : World} (e1 : rs.length = n1) (e2 : l.length = n2) (h : SeesC w w.heap.size A1 rs) (h' : Sees w w.heap.size A2 (ints l)) (hc2 : l.length ≤ c2) (hn : rs.length ≤ 4194304) (hl : ∀ r ∈ rs, r.m.n.length ≤ 4194304) (hm : l.length ≤ 4194304) :
    Calls Try.prog 10 #[.slice A1 n1 c1, .slice A2 n2 c2] w fun e w' => e = .returned (.int .i64 (besV rs l)) ∧ Below w.heap.size w w' := by
  subst e1 e2; exact iBestCache_any A1 A2 c1 c2 rs l w h h' hc2 hn hl hm
end Go.Proofs.Ytfophplmdljhbaa

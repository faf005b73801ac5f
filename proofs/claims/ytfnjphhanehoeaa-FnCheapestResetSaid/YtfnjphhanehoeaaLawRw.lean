/-
  Words for the walks of the laws on lists of settings. No condition.
-/
import Derived.Test.YtfnjphhanehoeaaLawSt
import Derived.Test.YtfnjphhanehoeaaStI
namespace Go.Proofs.Ytfnjphhanehoeaa
open Go.RowKit Stt Lea

section
variable {w w' w'' : World} {A A2 : Option Addr} {c c2 : Nat} {rs : List Rw} {m : List Stg}
theorem DR.below (h : DR w w' A c rs A2 c2 m) (hb : Below w'.heap.size w' w'') : DR w w'' A c rs A2 c2 m := by
  obtain ⟨h1, h2, h3, h4⟩ := h
  exact ⟨h1.onT hb, (h2.below hb).more hb.size, h3.trans (hb.mono h3.size), h4⟩
theorem DR.s1 (h : DR w w' A c rs A2 c2 m) : SeesR w' w'.heap.size A rs := h.1
theorem DR.s2 (h : DR w w' A c rs A2 c2 m) : Sees w' w'.heap.size A2 (strip stcl m) := h.2.1
theorem DR.bel (h : DR w w' A c rs A2 c2 m) : Below w.heap.size w w' := h.2.2.1
theorem DR.n7 (h : DR w w' A c rs A2 c2 m) : rs.length ≤ 7 := h.2.2.2.1.1
theorem DR.cap (h : DR w w' A c rs A2 c2 m) : rs.length ≤ c := h.2.2.2.1.2
theorem DR.n1 (h : DR w w' A c rs A2 c2 m) : rs.length ≤ 4194304 := Nat.le_trans h.n7 (by decide)
theorem DR.n2 (h : DR w w' A c rs A2 c2 m) : ∀ r ∈ rs, r.l.length ≤ 4194304 := fun r hr => Nat.le_trans (h.2.2.2.2.1 r hr) (by decide)
theorem DR.n3 (h : DR w w' A c rs A2 c2 m) : m.length ≤ 4194304 := Nat.le_trans h.2.2.2.2.2 (by decide)
end
/-- Nothing was answered, or the place of the list with the fewest changes. -/
theorem che_parts {rs : List Rw} {m : List Stg} : cheV rs m = -1 ∨ ∃ j : Nat, cheV rs m = j ∧ j < rs.length ∧ rowsB rs = true ∧ setsB m = true ∧ ∀ i (hi : i < rs.length) (hj : j < rs.length), (planL (rs[j]).l m).length < (planL (rs[i]).l m).length ∨ ((planL (rs[j]).l m).length = (planL (rs[i]).l m).length ∧ j ≤ i) := by
  by_cases h : rowsB rs = true ∧ setsB m = true
  · rw [cheV_yes h.1 h.2]
    rcases Nat.eq_zero_or_pos rs.length with e | e
    · refine .inl ?_; rw [e]; rfl
    · have hr := lst_range (chgsN rs m) rs.length e
      refine .inr ⟨(lst (chgsN rs m) rs.length).toNat, by omega, by omega, h.1, h.2, fun i hi hj => ?_⟩
      have hl := lst_least (chgsN rs m) rs.length i hi
      rw [chgs_at hi, chgs_at hj] at hl
      omega
  · exact .inl (cheV_no h)
theorem che_one {r : Rw} {m : List Stg} (h : setsB r.l = true) (h' : setsB m = true) : cheV [r] m = 0 := by
  rw [cheV_yes (rowsB_iff.2 ⟨by simp, fun x hx => by rw [List.mem_singleton.1 hx]; exact h⟩) h']
  have := lst_range (chgsN [r] m) 1 (by decide)
  show lst (chgsN [r] m) 1 = 0
  omega
theorem che_differ {rs : List Rw} {m : List Stg} {j : Nat} (hl : 0 < rs.length) (hj : j < rs.length) (h0 : j ≠ 0) (h : ∀ i (hi : i < rs.length) (hj : j < rs.length), (planL (rs[j]).l m).length < (planL (rs[i]).l m).length ∨ ((planL (rs[j]).l m).length = (planL (rs[i]).l m).length ∧ j ≤ i)) : (rs[0]).l ≠ m := fun e => by
  have h1 := h 0 hl hj
  rw [e] at h1
  have : planL m m = [] := by
    by_cases hm : setsB m = true
    · exact (plan_none hm hm).2 rfl
    · exact planL_no fun hh => hm hh.1
  rw [this] at h1
  simp at h1
  omega
theorem seesR_one {w : World} {B : Nat} {A : Option Addr} {rs : List Rw} (h : SeesR w B A rs) (hl : 0 < rs.length) : SeesR w B A [rs[0]] := by
  obtain ⟨h1, h2⟩ := h
  have e : [rs[0]] = rs.take 1 := by rw [List.take_succ_eq_append_getElem hl]; rfl
  refine ⟨?_, fun r hr => h2 r (by rw [List.mem_singleton.1 hr]; exact List.getElem_mem hl)⟩
  rw [e]
  exact h1.stake rwcl_ln 1
theorem iCheapestReset_len {A1 A2 : Option Addr} {n c1 c2 : Nat} {rs : List Rw} {m : List Stg} {w : World} (e : rs.length = n) (h : SeesR w w.heap.size A1 rs) (h' : Sees w w.heap.size A2 (strip stcl m)) (hn : rs.length ≤ 4194304) (hl : ∀ r ∈ rs, r.l.length ≤ 4194304) (hm : m.length ≤ 4194304) :
    Calls Try.prog 11 #[.slice A1 n c1, .slice A2 m.length c2] w fun e w' => e = .returned (.int .i64 (cheV rs m)) ∧ Below w.heap.size w w' := by
  subst e; exact iCheapestReset_any A1 A2 c1 c2 rs m w h h' hn hl hm
end Go.Proofs.Ytfnjphhanehoeaa

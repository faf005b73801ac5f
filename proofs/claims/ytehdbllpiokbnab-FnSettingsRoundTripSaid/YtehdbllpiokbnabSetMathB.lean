/-
  Plain facts on the way in which the program finds a plan: it goes through both lists side by side. No condition; nothing of the program's text is used here.
-/
import Derived.Test.YtehdbllpiokbnabSetMath

namespace Go.Proofs.Ytehdbllpiokbnab.Stt
open Lea

/-- The setting at a place, or one behind the end. -/
def atS (l : List Stg) (k : Nat) : Stg := if h : k < l.length then l[k] else ⟨10, -1⟩
theorem atS_at {l : List Stg} {k : Nat} (h : k < l.length) : atS l k = l[k] := dif_pos h
theorem atS_end {l : List Stg} {k : Nat} (h : ¬ k < l.length) : atS l k = ⟨10, -1⟩ := dif_neg h
theorem atS_range {l : List Stg} (h : setsB l = true) (k : Nat) : 0 ≤ (atS l k).n ∧ (atS l k).n ≤ 10 ∧ ((atS l k).n < 10 ↔ k < l.length) ∧ -1 ≤ (atS l k).v ∧ (atS l k).v ≤ 20 ∧ (k < l.length → 0 ≤ (atS l k).v) := by
  by_cases hk : k < l.length
  · rw [atS_at hk]
    obtain ⟨⟨h1, h2⟩, h3, h4⟩ := (setsB_iff.1 h).1 _ (List.getElem_mem hk)
    exact ⟨h1, by omega, by omega, by omega, h4, fun _ => h3⟩
  · rw [atS_end hk]
    refine ⟨by decide, by decide, by simp; omega, by decide, by decide, fun e => absurd e hk⟩
/-- i and j settings of the lists have been passed: all have names below m, the others have not. -/
def Side (a : List Stg) (i m : Nat) : Prop := i ≤ a.length ∧ (∀ x ∈ a.take i, x.n < m) ∧ ∀ x ∈ a.drop i, (m : Int) ≤ x.n
def Mrg (a b : List Stg) (i j m : Nat) : Prop := m ≤ 10 ∧ Side a i m ∧ Side b j m
theorem side_start {a : List Stg} (h : setsB a = true) : Side a 0 0 := ⟨Nat.zero_le _, by simp, fun x hx => ((setsB_iff.1 h).1 x (by simpa using hx)).1.1⟩
theorem mrg_start {a b : List Stg} (h : setsB a = true) (h' : setsB b = true) : Mrg a b 0 0 0 := ⟨by decide, side_start h, side_start h'⟩
theorem side_parts {a : List Stg} {i : Nat} {x : Stg} (hx : x ∈ a) : x ∈ a.take i ∨ x ∈ a.drop i := by
  rw [← List.take_append_drop i a] at hx; exact List.mem_append.1 hx
/-- The next one is the least of those left. -/
theorem side_next {a : List Stg} (h : setsB a = true) {i : Nat} {x : Stg} (hx : x ∈ a.drop i) : (atS a i).n ≤ x.n := by
  obtain ⟨q, hq, rfl⟩ := List.getElem_of_mem hx
  rw [List.length_drop] at hq
  rw [atS_at (show i < a.length by omega), List.getElem_drop]
  rcases Nat.eq_zero_or_pos q with e | e
  · subst e; exact Int.le_refl _
  · have := asc_at (setsB_iff.1 h).2 (i := i) (j := i + q) (by omega) (by omega)
    omega
/-- Between those passed and the next one there is none. -/
theorem side_none {a : List Stg} (h : setsB a = true) {i m : Nat} (hs : Side a i m) {n : Int} (h1 : (m : Int) ≤ n) (h2 : n < (atS a i).n) : val a n = -1 :=
  val_none fun x hx e => by
    rcases side_parts (i := i) hx with hx | hx
    · have := hs.2.1 x hx; omega
    · have := side_next h hx; omega
theorem side_val {a : List Stg} (h : setsB a = true) {i : Nat} (hi : i < a.length) : val a (atS a i).n = (atS a i).v := by
  rw [atS_at hi]; exact val_mem (setsB_iff.1 h).2 (List.getElem_mem hi)
theorem side_le {a : List Stg} {i m : Nat} (hs : Side a i m) (hi : i < a.length) : (m : Int) ≤ (atS a i).n := by
  rw [atS_at hi]
  refine hs.2.2 _ ?_
  rw [List.drop_eq_getElem_cons hi]
  exact List.mem_cons_self
/-- One more is passed. -/
theorem side_pass {a : List Stg} (h : setsB a = true) {i m m' : Nat} (hs : Side a i m) (hi : i < a.length) (hm : (m' : Int) = (atS a i).n + 1) : Side a (i + 1) m' := by
  have hle := side_le hs hi
  refine ⟨hi, fun x hx => ?_, fun x hx => ?_⟩
  · rw [List.take_succ_eq_append_getElem hi, List.mem_append, List.mem_singleton] at hx
    rcases hx with hx | rfl
    · have := hs.2.1 x hx; omega
    · rw [← atS_at hi]; omega
  · obtain ⟨q, hq, rfl⟩ := List.getElem_of_mem hx
    rw [List.length_drop] at hq
    rw [List.getElem_drop]
    have := asc_at (setsB_iff.1 h).2 (i := i) (j := i + 1 + q) (by omega) (by omega)
    rw [atS_at hi] at hm
    omega
/-- None is passed, but names are. -/
theorem side_stay {a : List Stg} (h : setsB a = true) {i m m' : Nat} (hs : Side a i m) (h1 : m ≤ m') (h2 : (m' : Int) ≤ (atS a i).n) : Side a i m' := by
  refine ⟨hs.1, fun x hx => ?_, fun x hx => ?_⟩
  · have := hs.2.1 x hx; omega
  · have := side_next h hx; omega
theorem mrg_skip {a b : List Stg} (h : setsB a = true) (h' : setsB b = true) {i j m : Nat} (hm : Mrg a b i j m) {n : Nat} (hmn : m ≤ n) (h1 : (n : Int) ≤ (atS a i).n) (h2 : (n : Int) ≤ (atS b j).n) : plan a b n = plan a b m :=
  plan_same a b m n hmn fun q hq1 hq2 => by
    rw [side_none h hm.2.1 (n := q) (by omega) (by omega), side_none h' hm.2.2 (n := q) (by omega) (by omega)]
theorem mrg_end {a b : List Stg} (h : setsB a = true) (h' : setsB b = true) {i j m : Nat} (hm : Mrg a b i j m) (hi : ¬ i < a.length) (hj : ¬ j < b.length) : plan a b 10 = plan a b m :=
  mrg_skip h h' hm hm.1 (by rw [atS_end hi]; decide) (by rw [atS_end hj]; decide)
theorem mrg_less {a b : List Stg} (h : setsB a = true) (h' : setsB b = true) {i j m : Nat} (hm : Mrg a b i j m) (hlt : (atS a i).n < (atS b j).n) :
    i < a.length ∧ ∃ m', Mrg a b (i + 1) j m' ∧ plan a b m' = plan a b m ++ [⟨(atS a i).n, -1⟩] := by
  have ra := atS_range h i
  have rb := atS_range h' j
  have hi : i < a.length := ra.2.2.1.1 (by omega)
  have hle := side_le hm.2.1 hi
  obtain ⟨n, hn⟩ : ∃ n : Nat, (atS a i).n = n := ⟨(atS a i).n.toNat, by omega⟩
  have hva := side_val h hi
  have hvb := side_none h' hm.2.2 (n := n) (by omega) (by omega)
  have h0 := ra.2.2.2.2.2 hi
  refine ⟨hi, n + 1, ⟨by omega, side_pass h hm.2.1 hi (by omega), side_stay h' hm.2.2 (by omega) (by omega)⟩, ?_⟩
  rw [hn] at hva ⊢
  rw [plan, if_neg (by rw [hva, hvb]; omega), hvb, mrg_skip h h' hm (n := n) (by omega) (by omega) (by omega)]
theorem mrg_more {a b : List Stg} (h : setsB a = true) (h' : setsB b = true) {i j m : Nat} (hm : Mrg a b i j m) (hlt : (atS b j).n < (atS a i).n) :
    j < b.length ∧ ∃ m', Mrg a b i (j + 1) m' ∧ plan a b m' = plan a b m ++ [atS b j] := by
  have ra := atS_range h i
  have rb := atS_range h' j
  have hj : j < b.length := rb.2.2.1.1 (by omega)
  have hle := side_le hm.2.2 hj
  obtain ⟨n, hn⟩ : ∃ n : Nat, (atS b j).n = n := ⟨(atS b j).n.toNat, by omega⟩
  have hvb := side_val h' hj
  have hva := side_none h hm.2.1 (n := n) (by omega) (by omega)
  have h0 := rb.2.2.2.2.2 hj
  refine ⟨hj, n + 1, ⟨by omega, side_stay h hm.2.1 (by omega) (by omega), side_pass h' hm.2.2 hj (by omega)⟩, ?_⟩
  rw [hn] at hvb
  rw [plan, if_neg (by rw [hva, hvb]; omega), hvb, mrg_skip h h' hm (n := n) (by omega) (by omega) (by omega)]
  have : atS b j = ⟨(atS b j).n, (atS b j).v⟩ := rfl
  rw [this, hn]
theorem mrg_same {a b : List Stg} (h : setsB a = true) (h' : setsB b = true) {i j m : Nat} (hm : Mrg a b i j m) (he : (atS a i).n = (atS b j).n) (hij : i < a.length ∨ j < b.length) :
    (i < a.length ∧ j < b.length) ∧ ∃ m', Mrg a b (i + 1) (j + 1) m' ∧ plan a b m' = if (atS a i).v = (atS b j).v then plan a b m else plan a b m ++ [atS b j] := by
  have ra := atS_range h i
  have rb := atS_range h' j
  have hi : i < a.length := by
    rcases hij with hij | hij
    · exact hij
    · exact ra.2.2.1.1 (by have := rb.2.2.1.2 hij; omega)
  have hj : j < b.length := rb.2.2.1.1 (by have := ra.2.2.1.2 hi; omega)
  have hle := side_le hm.2.1 hi
  obtain ⟨n, hn⟩ : ∃ n : Nat, (atS a i).n = n := ⟨(atS a i).n.toNat, by omega⟩
  have hva := side_val h hi
  have hvb := side_val h' hj
  have hr := ra.2.2.1.2 hi
  refine ⟨⟨hi, hj⟩, n + 1, ⟨by omega, side_pass h hm.2.1 hi (by omega), side_pass h' hm.2.2 hj (by omega)⟩, ?_⟩
  rw [hn] at hva
  rw [← he, hn] at hvb
  rw [plan, hva, hvb, mrg_skip h h' hm (n := n) (by omega) (by omega) (by omega)]
  have : atS b j = ⟨(atS b j).n, (atS b j).v⟩ := rfl
  rw [this, ← he, hn]
end Go.Proofs.Ytehdbllpiokbnab.Stt

/-
  Plain facts on ages after a connection was used. No condition.
-/
import Derived.Test.YtlonmmkioaejmacAgeMathB
import Derived.Test.YtlonmmkioaejmacAgD
namespace Go.Proofs.Ytlonmmkioaejmac
open Age

theorem touch_parts {l : List Ag} {q now : Int} (h : touchB l q now = true) : agesB l = true ∧ timeB now = true ∧ ∃ j : Nat, q = j ∧ j < l.length := by
  unfold touchB at h
  simp only [Bool.and_eq_true, decide_eq_true_eq] at h
  exact ⟨h.1, h.2.2, q.toNat, by omega, by omega⟩
theorem touch_valid {l : List Ag} {q now : Int} (h : touchB l q now = true) : agesB (touchL l q now) = true := by
  obtain ⟨h1, h2, j, rfl, hj⟩ := touch_parts h
  obtain ⟨_, e⟩ := touch_at hj h1 h2
  have ht := timeB_iff.1 h2
  have hx := ages_at h1 hj
  rw [e]
  refine agesB_iff.2 ⟨by simpa using (agesB_iff.1 h1).1, fun y hy => ?_⟩
  rcases List.mem_or_eq_of_mem_set hy with hm | hm
  · exact (agesB_iff.1 h1).2 y hm
  · subst hm; exact Ag.ok_iff.2 (by simp only []; omega)
theorem touch_again {l : List Ag} {q now : Int} (h : touchB l q now = true) : touchB (touchL l q now) q now = true ∧ touchL (touchL l q now) q now = touchL l q now ∧ Age.next l 100 20 ≤ Age.next (touchL l q now) 100 20 := by
  obtain ⟨h1, h2, j, rfl, hj⟩ := touch_parts h
  obtain ⟨_, e⟩ := touch_at hj h1 h2
  have ht := timeB_iff.1 h2
  have hx := ages_at h1 hj
  rw [e]
  have hj2 : j < (l.set j ⟨l[j].b, max l[j].u now⟩).length := by simpa using hj
  have ha : agesB (l.set j ⟨l[j].b, max l[j].u now⟩) = true := by
    refine agesB_iff.2 ⟨by simpa using (agesB_iff.1 h1).1, fun y hy => ?_⟩
    rcases List.mem_or_eq_of_mem_set hy with hm | hm
    · exact (agesB_iff.1 h1).2 y hm
    · subst hm; exact Ag.ok_iff.2 (by simp only []; omega)
  obtain ⟨b1, b2⟩ := touch_at hj2 ha h2
  refine ⟨b1, ?_, ?_⟩
  · rw [b2]
    simp only [List.getElem_set_self, List.set_set]
    congr 2
    omega
  · have s1 : spanB 100 = true := by decide
    have s2 : spanB 20 = true := by decide
    have e1 : Age.next l 100 20 = nextTo l 100 20 l.length := by unfold Age.next; rw [h1, s1, s2]; rfl
    have e2 : Age.next (l.set j ⟨l[j].b, max l[j].u now⟩) 100 20 = nextTo (l.set j ⟨l[j].b, max l[j].u now⟩) 100 20 l.length := by unfold Age.next; rw [ha, s1, s2, List.length_set]; rfl
    rw [e1, e2]
    obtain ⟨k, k1, k2⟩ := nextTo_is (l := l.set j ⟨l[j].b, max l[j].u now⟩) (life := 100) (rest := 20) l.length (by omega)
    rw [k2]
    have h3 := nextTo_le h1 s1 s2 l.length (Nat.le_refl _) k k1
    rw [endAt_eq k1] at h3
    rw [endAt_eq (by simpa using k1)]
    rw [List.getElem_set]
    split
    · rename_i hjk
      subst hjk
      unfold endV at h3 ⊢
      simp only []
      omega
    · exact h3
end Go.Proofs.Ytlonmmkioaejmac

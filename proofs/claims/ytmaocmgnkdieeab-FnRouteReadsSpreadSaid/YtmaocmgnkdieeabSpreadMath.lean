/-
  Plain facts on reads of two hosts without load. No condition; nothing of the program's text is used here.
-/
import Derived.Test.YtmaocmgnkdieeabHostMath
namespace Go.Proofs.Ytmaocmgnkdieeab.Hos

def two (a b : Int) : List Hst := [⟨a, 0, false⟩, ⟨b, 0, false⟩]
theorem two_valid {a b : Int} (ha : 0 ≤ a ∧ a ≤ 100) (hb : 0 ≤ b ∧ b ≤ 100) : hostsB (two a b) = true := by
  refine hostsB_iff.2 ⟨by simp [two], by simp [two], ?_, by simp [two, lag0]⟩
  intro x hx
  simp only [two, List.mem_cons, List.not_mem_nil, or_false] at hx
  rcases hx with rfl | rfl
  · exact Hst.ok_iff.2 ⟨ha.1, ha.2, by simp, by simp⟩
  · exact Hst.ok_iff.2 ⟨hb.1, hb.2, by simp, by simp⟩
theorem two_el (a b : Int) {i : Nat} (h : i < 2) : el (two a b) 1000 i := by
  match i, h with
  | 0, _ => exact ⟨by simp [two], by simp [two, elig]⟩
  | 1, _ => exact ⟨by simp [two], by simp [two, elig]⟩
theorem two_ld0 (a b : Int) : ld (two a b) 0 = a := by simp [two, ld]
theorem two_ld1 (a b : Int) : ld (two a b) 1 = b := by simp [two, ld]
theorem two_first {a b : Int} (h : a < b) : bestH (two a b) 1000 = 0 := by
  refine bestH_eq (.inr ⟨0, rfl, by simp [two], by simp [Fst, two], two_el a b (by omega), fun i hi _ => ?_⟩)
  have hi2 : i < 2 := hi
  match i, hi2 with
  | 0, _ => exact .inr ⟨rfl, .inl rfl⟩
  | 1, _ => exact .inl (by rw [two_ld0, two_ld1]; exact h)
theorem two_second {a b : Int} (h : b ≤ a) : bestH (two a b) 1000 = 1 := by
  refine bestH_eq (.inr ⟨1, rfl, by simp [two], by simp [Fst, two], two_el a b (by omega), fun i hi _ => ?_⟩)
  have hi2 : i < 2 := hi
  match i, hi2 with
  | 0, _ =>
    unfold bef
    rw [two_ld0, two_ld1]
    omega
  | 1, _ => exact .inr ⟨rfl, .inl rfl⟩
theorem two_bump0 {a b : Int} (ha : 0 ≤ a ∧ a < 100) (hb : 0 ≤ b ∧ b ≤ 100) : bump (two a b) 0 = two (a + 1) b := by
  have h := bump_min (two_valid ⟨ha.1, by omega⟩ hb) (k := 0) (by simp [two])
  rw [show ((0 : Nat) : Int) = 0 from rfl] at h
  rw [h]
  simp only [two, List.getElem_cons_zero, List.set_cons_zero]
  rw [Int.min_eq_right (by omega)]
theorem two_bump1 {a b : Int} (ha : 0 ≤ a ∧ a ≤ 100) (hb : 0 ≤ b ∧ b < 100) : bump (two a b) 1 = two a (b + 1) := by
  have h := bump_min (two_valid ha ⟨hb.1, by omega⟩) (k := 1) (by simp [two])
  rw [show ((1 : Nat) : Int) = 1 from rfl] at h
  rw [h]
  simp only [two, List.getElem_cons_succ, List.getElem_cons_zero, List.set_cons_succ, List.set_cons_zero]
  rw [Int.min_eq_right (by omega)]
theorem two_reads : ∀ (n : Nat) (a : Int), 0 ≤ a → a + n ≤ 100 → ∀ i (h : i < (reads (two a a) (List.replicate n 1000)).length), (reads (two a a) (List.replicate n 1000))[i] = (((i + 1) % 2 : Nat) : Int)
  | 0, _, _, _, i, h => absurd h (by simp [reads])
  | 1, a, h0, h1, i, h => by
    have e : reads (two a a) (List.replicate 1 1000) = [1] := by
      show bestH (two a a) 1000 :: reads _ [] = [1]
      rw [two_second (Int.le_refl _)]
      rfl
    rw [List.getElem_of_eq e]
    have hi : i = 0 := by rw [e] at h; simpa using h
    subst hi
    rfl
  | n + 2, a, h0, h1, i, h => by
    have e : reads (two a a) (List.replicate (n + 2) 1000) = 1 :: 0 :: reads (two (a + 1) (a + 1)) (List.replicate n 1000) := by
      show bestH (two a a) 1000 :: bestH (bump (two a a) (bestH (two a a) 1000)) 1000 :: reads (bump (bump (two a a) (bestH (two a a) 1000)) (bestH (bump (two a a) (bestH (two a a) 1000)) 1000)) (List.replicate n 1000) = _
      rw [two_second (Int.le_refl _), two_bump1 ⟨h0, by omega⟩ ⟨h0, by omega⟩, two_first (by omega), two_bump0 ⟨h0, by omega⟩ ⟨by omega, by omega⟩]
    rw [List.getElem_of_eq e]
    match i with
    | 0 => rfl
    | 1 => rfl
    | i + 2 =>
      have hi : i < (reads (two (a + 1) (a + 1)) (List.replicate n 1000)).length := by rw [e] at h; simpa using h
      have := two_reads n (a + 1) (by omega) (by omega) i hi
      simp only [List.getElem_cons_succ]
      rw [this]
      congr 1
      omega
/-- The law. -/
theorem spread {n : Nat} (h : n ≤ 12) : (readsL (two 0 0) (List.replicate n 1000)).length = n ∧ ∀ i (hi : i < (readsL (two 0 0) (List.replicate n 1000)).length), (readsL (two 0 0) (List.replicate n 1000))[i] = (((i + 1) % 2 : Nat) : Int) := by
  have e : readsL (two 0 0) (List.replicate n 1000) = reads (two 0 0) (List.replicate n 1000) := readsL_yes (two_valid (by omega) (by omega)) (by simp; exact h) (fun g hg => by rw [(List.mem_replicate.1 hg).2]; omega)
  rw [e]
  exact ⟨by rw [reads_len]; simp, two_reads n 0 (by omega) (by omega)⟩
end Go.Proofs.Ytmaocmgnkdieeab.Hos

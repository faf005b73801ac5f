/-
  Plain facts that the laws on breakers rest on. No condition.
-/
import Derived.Test.YtfkobmafbiikaaaBrkD
namespace Go.Proofs.Ytfkobmafbiikaaa
open Go.RowKit Brk

theorem ok_small {b : Br} (h : Ok b) : (1 ≤ b.li ∧ b.li ≤ 8) ∧ (1 ≤ b.re ∧ b.re ≤ 1000) ∧ (0 ≤ b.st ∧ b.st ≤ 2) ∧ (0 ≤ b.fa ∧ b.fa < b.li) ∧ 0 ≤ b.si ∧ b.si ≤ 1000 := by
  obtain ⟨a1, a2, a3, a4, a5, _⟩ := h
  exact ⟨a1, a2, a3, ⟨a4.1, by omega⟩, a5⟩
theorem lets_of {b : Br} {t : Int} {V : Bool} (h : Ok b) (h1 : b.si ≤ t) (h2 : t ≤ 1000) (hV : letsB b t = V) : if V = true then (b.st = 0 ∨ (b.st = 1 ∧ b.re ≤ t - b.si)) else (b.st = 2 ∨ (b.st = 1 ∧ t - b.si < b.re)) := by
  subst hV
  rw [letsB_mom (momB_iff.2 ⟨h, h1, h2⟩)]
  have hs := h.2.2.1
  rcases hl : lets b t with _ | _
  · have hn : ¬ (b.st = 0 ∨ (b.st = 1 ∧ b.re ≤ t - b.si)) := fun e => by rw [lets_iff.2 e] at hl; cases hl
    simp only [Bool.false_eq_true, if_false]
    omega
  · simp only [if_true]
    exact lets_iff.1 hl
theorem letsB_later {b : Br} {t : Int} (h : letsB b t = true) (h1 : t + 1 ≤ 1000) : letsB b (t + 1) = true := by
  obtain ⟨⟨h0, h2, h3⟩, h4⟩ := letsB_iff.1 h
  exact letsB_iff.2 ⟨⟨h0, by omega, h1⟩, h4.imp id fun ⟨x, y⟩ => ⟨x, by omega⟩⟩
/-- A call that has begun on an open breaker. -/
theorem begR_try {b : Br} {t : Int} (h : letsB b t = true) (h1 : ¬ b.st = 0) : (begR b t).st = 2 ∧ (begR b t).si = t ∧ letsB (begR b t) t = false ∧ okB (begR b t) = true ∧ momB (begR b t) t = true := by
  obtain ⟨⟨h0, h2, h3⟩, h4⟩ := letsB_iff.1 h
  have hs : b.st = 1 := by omega
  have hb : begR b t = ⟨b.li, b.re, 2, b.fa, t⟩ := by rw [begR_yes h, beg_open hs]
  have ho := beg_ok h0 h2 h3
  rw [beg_open hs] at ho
  have hm : momB ⟨b.li, b.re, 2, b.fa, t⟩ t = true := momB_iff.2 ⟨ho.1, by simp, h3⟩
  rw [hb]
  refine ⟨rfl, rfl, ?_, okB_iff.2 ho.1, hm⟩
  rw [letsB_mom hm]
  exact lets_no (by simp)
theorem begR_shut {b : Br} {t : Int} (h : letsB b t = true) (h1 : b.st = 0) : begR b t = b := by rw [begR_yes h, beg_same (by omega)]
theorem shut_lets {X : Br} {t : Int} (h : momB X t = true) (h2 : X.st = 2) : letsB (finR X true t) t = true := by
  obtain ⟨h0, h1, h3⟩ := momB_iff.1 h
  rw [finR_yes h]
  obtain ⟨a, c⟩ := fin_ok (g := true) h0 h1 h3
  exact letsB_iff.2 ⟨⟨a, c, h3⟩, .inl (by rw [fin_good_try h2])⟩
theorem finR_ok {b : Br} {g : Bool} {t : Int} (h : momB b t = true) : okB (finR b g t) = true ∧ ((finR b g t).st = 0 ∨ (finR b g t).st = 1) ∧ (finR b g t).si ≤ t := by
  obtain ⟨h0, h1, h3⟩ := momB_iff.1 h
  rw [finR_yes h]
  obtain ⟨a, c⟩ := fin_ok (g := g) h0 h1 h3
  exact ⟨okB_iff.2 a, stA_cases b g, c⟩
theorem finR_good {b : Br} {t : Int} (h : momB b t = true) : (finR b true t).fa = 0 ∧ ((finR b true t).st = 0 ↔ ¬ b.st = 1) := by
  rw [finR_yes h]
  refine ⟨?_, ?_⟩
  · show faA b true = 0
    unfold faA; rw [if_pos (.inl rfl)]
  · show stA b true = 0 ↔ _
    unfold stA
    by_cases h1 : b.st = 1
    · rw [if_pos h1]; simp [h1]
    · rw [if_neg h1, if_pos rfl]; simp [h1]
theorem finR_open {b : Br} {g : Bool} {t : Int} (h : momB b t = true) (h1 : b.st = 1) : finR b g t = b := by rw [finR_yes h, fin_open (momB_iff.1 h).1 h1]
/-- A failed try: open anew for all of its rest. -/
theorem finR_try {b : Br} {t : Int} (h : momB b t = true) (h2 : b.st = 2) (hr : t + b.re ≤ 1000) : (finR b false t).st = 1 ∧ letsB (finR b false t) (t + b.re - 1) = false ∧ letsB (finR b false t) (t + b.re) = true := by
  obtain ⟨h0, h1, h3⟩ := momB_iff.1 h
  have ho := (fin_ok (g := false) h0 h1 h3).1
  have hre := h0.2.1
  rw [finR_yes h]
  rw [fin_bad_try h2] at ho ⊢
  have m1 : momB ⟨b.li, b.re, 1, 0, t⟩ (t + b.re - 1) = true := momB_iff.2 ⟨ho, by show t ≤ _; omega, by omega⟩
  have m2 : momB ⟨b.li, b.re, 1, 0, t⟩ (t + b.re) = true := momB_iff.2 ⟨ho, by show t ≤ _; omega, hr⟩
  refine ⟨rfl, ?_, ?_⟩
  · rw [letsB_mom m1]; exact lets_no (by simp; omega)
  · rw [letsB_mom m2]; exact lets_iff.2 (.inr ⟨rfl, by show b.re ≤ t + b.re - t; omega⟩)
/-- A fresh breaker after k calls that failed. -/
def frs (b : Br) (t : Int) (k : Nat) : Br := if (k : Int) < b.li then ⟨b.li, b.re, 0, k, b.si⟩ else ⟨b.li, b.re, 1, 0, t⟩
theorem frs_step {b : Br} {t : Int} (h : momB b t = true) {k : Nat} (hk : (k : Int) < b.li) : (frs b t k).st = 0 ∧ momB (frs b t k) t = true ∧ finR (frs b t k) false t = frs b t (k + 1) := by
  obtain ⟨h0, h1, h3⟩ := momB_iff.1 h
  obtain ⟨r1, r2, r3, r4, r5⟩ := ok_small h0
  have hf : frs b t k = ⟨b.li, b.re, 0, k, b.si⟩ := by unfold frs; rw [if_pos hk]
  have hm : momB ⟨b.li, b.re, 0, k, b.si⟩ t = true := momB_iff.2 ⟨⟨r1, r2, ⟨by show (0 : Int) ≤ 0; omega, by show (0 : Int) ≤ 2; omega⟩, ⟨by show (0 : Int) ≤ k; omega, by show (k : Int) ≤ b.li - 1; omega⟩, r5, .inl rfl⟩, h1, h3⟩
  rw [hf]
  refine ⟨rfl, hm, ?_⟩
  rw [finR_yes hm]
  unfold frs
  by_cases hl : (k : Int) + 1 = b.li
  · rw [fin_bad_limit rfl hl, if_neg (by omega)]
  · rw [fin_bad rfl hl, if_pos (by omega)]
    simp
theorem frs_zero {b : Br} {t : Int} (h : 1 ≤ b.li) : frs b t 0 = ⟨b.li, b.re, 0, 0, b.si⟩ := by unfold frs; rw [if_pos (by omega)]; rfl
theorem frs_end {b : Br} {t : Int} {k : Nat} (h : ¬ (k : Int) < b.li) : (frs b t k).st = 1 ∧ (frs b t k).si = t := by unfold frs; rw [if_neg h]; exact ⟨rfl, rfl⟩
theorem ok_fresh {b : Br} (h : okB b = true) : okB ⟨b.li, b.re, 0, 0, b.si⟩ = true ∧ b.fa < b.li := by
  obtain ⟨r1, r2, r3, r4, r5⟩ := ok_small (okB_iff.1 h)
  refine ⟨okB_iff.2 ⟨r1, r2, ⟨by show (0 : Int) ≤ 0; omega, by show (0 : Int) ≤ 2; omega⟩, ⟨by show (0 : Int) ≤ 0; omega, by show (0 : Int) ≤ b.li - 1; omega⟩, r5, .inl rfl⟩, r4.2⟩
end Go.Proofs.Ytfkobmafbiikaaa

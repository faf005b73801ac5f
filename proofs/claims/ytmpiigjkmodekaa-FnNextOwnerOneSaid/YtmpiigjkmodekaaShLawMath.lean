/-
  Plain facts on who is next, for the drawn laws. No condition; nothing of the program's text is used here.
-/
import Derived.Test.YtmpiigjkmodekaaShareMath
namespace Go.Proofs.Ytmpiigjkmodekaa.Sha

theorem give_iff {s : Shr} {o : Int} : giveB s o 1 = true ↔ shareB s = true ∧ (0 ≤ o ∧ o < 5) ∧ nth s.h o < nth s.m o ∧ sm s.h < s.t := by
  rw [giveB_iff]
  constructor
  · rintro ⟨h1, ⟨h2, h3⟩, h4⟩
    rw [give_valid h1 h2 h3, decide_eq_true_eq] at h4
    exact ⟨h1, ⟨h2, h3⟩, h4⟩
  · rintro ⟨h1, ⟨h2, h3⟩, h4⟩
    exact ⟨h1, ⟨h2, h3⟩, by rw [give_valid h1 h2 h3]; exact decide_eq_true h4⟩
theorem next_none {s : Shr} {asks : List Int} (h : nextO s asks < 0) (ha : okA asks) {i : Nat} (hi : i < asks.length) : giveB s asks[i] 1 = false := by
  rw [Bool.eq_false_iff]
  intro hg
  obtain ⟨h1, _, h3, h4⟩ := give_iff.1 hg
  rw [nextO_yes h1 ha (by omega)] at h
  rcases poor_is s.m s.h asks with ⟨_, hp⟩ | ⟨k, e, _⟩
  · exact hp i hi ⟨hi, h3⟩
  · omega
theorem next_found {s : Shr} {asks : List Int} {k : Nat} (h : nextO s asks = k) (hk : k < asks.length) : shareB s = true ∧ okA asks ∧ giveB s asks[k] 1 = true ∧
    ∀ i (hi : i < asks.length), nth s.h asks[i] < nth s.m asks[i] → nth s.h asks[k] < nth s.h asks[i] ∨ (nth s.h asks[k] = nth s.h asks[i] ∧ k ≤ i) := by
  by_cases hc : shareB s = true ∧ okA asks ∧ sm s.h ≠ s.t
  · obtain ⟨h1, h2, h3⟩ := hc
    rw [nextO_yes h1 h2 h3] at h
    have hs := share_sm h1
    rcases poor_is s.m s.h asks with ⟨e, _⟩ | ⟨k', e, hk', ⟨hk2, hc⟩, hp⟩
    · omega
    · have : k' = k := by omega
      subst this
      have hr := h2.2 asks[k'] (List.getElem_mem hk)
      refine ⟨h1, h2, give_iff.2 ⟨h1, ⟨by omega, by omega⟩, hc, ?_⟩, fun i hi hci => hp i hi hk hi ⟨hi, hci⟩⟩
      obtain ⟨_, _, _, _, _, h6⟩ := shareB_iff.1 h1
      omega
  · rw [nextO_no hc] at h; omega
theorem next_one (s : Shr) (o : Int) : (nextO s [o] == 0) = giveB s o 1 := by
  have hl := nextO_lt s [o]
  simp only [List.length_cons, List.length_nil] at hl
  by_cases h0 : nextO s [o] = 0
  · have := next_found (s := s) (asks := [o]) (k := 0) h0 (by simp)
    rw [h0]
    simpa using this.2.2.1.symm
  · have hn : nextO s [o] < 0 := by omega
    have e : (nextO s [o] == 0) = false := by simpa using h0
    rw [e]
    symm
    by_cases ha : okA [o]
    · exact next_none hn ha (i := 0) (by simp)
    · rw [Bool.eq_false_iff]
      intro hg
      have := (give_iff.1 hg).2.1
      exact ha ⟨by simp, fun x hx => by simp at hx; omega⟩
end Go.Proofs.Ytmpiigjkmodekaa.Sha

/-
  Plain facts on giving to one after the other, for the drawn laws. No condition; nothing of the program's text is used here.
-/
import Derived.Test.YtimjalhhigekpabShareMath
namespace Go.Proofs.Ytimjalhhigekpab.Sha

theorem all_step {S : Shr} {Lf : List Int} {o : Int} {P : List Int} (hv : shareB S = true) (h : giveA S Lf = o :: P) :
    ∃ k : Nat, nextO S Lf = k ∧ ∃ hk : k < Lf.length, Lf[k] = o ∧ giveB S o 1 = true ∧ shareB (giveS S o 1) = true ∧ giveA (giveS S o 1) (Lf.eraseIdx k) = P := by
  by_cases ha : okA Lf
  · rw [giveA_yes hv ha] at h
    have hx := nextO_lt S Lf
    by_cases hn : nextO S Lf = -1
    · rw [give_end hv ha hn] at h; cases h
    · obtain ⟨k, hk⟩ : ∃ k : Nat, nextO S Lf = k := ⟨(nextO S Lf).toNat, by omega⟩
      obtain ⟨hkl, e⟩ := give_step hv ha hk
      obtain ⟨_, hg⟩ := next_give hv ha hk
      rw [e] at h
      injection h with h1 h2
      have hs := (giveB_iff.1 hg).2.2
      refine ⟨k, hk, hkl, h1, by rw [← h1]; exact hg, ?_, ?_⟩
      · rw [← h1, giveS_yes hg]; exact hs
      · rw [← h1, giveS_yes hg, giveA_yes hs (okA_erase ha k)]; exact h2
  · rw [giveA_no (fun hh => ha hh.2)] at h; cases h
theorem all_end {S : Shr} {Lf : List Int} (hv : shareB S = true) (h : giveA S Lf = []) : nextO S Lf = -1 := by
  by_cases ha : okA Lf
  · rw [giveA_yes hv ha] at h
    have hx := nextO_lt S Lf
    refine Classical.byContradiction fun hn => ?_
    obtain ⟨k, hk⟩ : ∃ k : Nat, nextO S Lf = k := ⟨(nextO S Lf).toNat, by omega⟩
    obtain ⟨hkl, e⟩ := give_step hv ha hk
    rw [e] at h
    cases h
  · exact nextO_no fun hh => ha hh.2.1
theorem erase_two (l : List Int) (k : Nat) : l.eraseIdx k = l.take k ++ l.drop (k + 1) := List.eraseIdx_eq_take_drop_succ l k
end Go.Proofs.Ytimjalhhigekpab.Sha

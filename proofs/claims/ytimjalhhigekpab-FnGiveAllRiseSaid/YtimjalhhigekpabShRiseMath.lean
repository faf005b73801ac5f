/-
  Plain facts on the order in which owners are given, for the drawn laws. No condition; nothing of the program's text is used here.
-/
import Derived.Test.YtimjalhhigekpabShareMath
namespace Go.Proofs.Ytimjalhhigekpab.Sha

/-- Owners are given in this order: who has less gets first. -/
def Rise : List Int → Int → List Int → Prop
  | _, _, [] => True
  | h, last, o :: P => (0 ≤ o ∧ o < 5) ∧ last ≤ nth h o ∧ Rise (addO h o 1) (nth h o) P
theorem give_rise : ∀ (n : Nat) (s : Shr) (asks : List Int), asks.length ≤ n → shareB s = true → okA asks → ∀ last : Int, (∀ j (hj : j < asks.length), can s.m s.h asks j → last ≤ nth s.h asks[j]) → Rise s.h last (giveO s asks)
  | n, s, asks, hn, hv, ha, last, hl => by
    have hx := nextO_lt s asks
    by_cases hk : nextO s asks = -1
    · rw [give_end hv ha hk]; exact trivial
    · obtain ⟨k, hk⟩ : ∃ k : Nat, nextO s asks = k := ⟨(nextO s asks).toNat, by omega⟩
      obtain ⟨hkl, e⟩ := give_step hv ha hk
      obtain ⟨_, hs, ck, hno, hp⟩ := next_pick hv ha hk
      obtain ⟨_, hg⟩ := next_give hv ha hk
      have hr := ha.2 _ (List.getElem_mem hkl)
      have h5 := share_h hv
      rw [e]
      refine ⟨⟨hr.1, by omega⟩, hl k hkl ck, ?_⟩
      match n, hn with
      | 0, hn => omega
      | n + 1, hn =>
        refine give_rise n (chg s asks[k] 1) (asks.eraseIdx k) (by rw [List.length_eraseIdx]; split <;> omega) (giveB_iff.1 hg).2.2 (okA_erase ha k) (nth s.h asks[k]) fun j hj hc => ?_
        have hm : (asks.eraseIdx k)[j] ∈ asks := List.mem_of_mem_eraseIdx (List.getElem_mem hj)
        obtain ⟨i, hi, ei⟩ := List.getElem_of_mem hm
        obtain ⟨hj', hc⟩ := hc
        have hri := ha.2 _ (List.getElem_mem hi)
        have hnn : nth (chg s asks[k] 1).h (asks.eraseIdx k)[j] = if asks[k] = asks[i] then nth s.h asks[i] + 1 else nth s.h asks[i] := by
          rw [← ei]
          show nth (addO s.h asks[k] 1) asks[i] = _
          exact addO_nth hr.1 hri.1 (by omega)
        rw [hnn] at hc ⊢
        have hci : can s.m s.h asks i := by
          refine ⟨hi, ?_⟩
          have : nth (chg s asks[k] 1).m (asks.eraseIdx k)[j] = nth s.m asks[i] := by rw [← ei]; rfl
          rw [this] at hc
          split at hc <;> omega
        have := hp i hi hci
        split <;> omega
theorem giveA_rise (s : Shr) (asks : List Int) (h : shareB s = true) : Rise s.h 0 (giveA s asks) := by
  unfold giveA
  split
  · rename_i hc
    refine give_rise asks.length s asks (Nat.le_refl _) h hc.2 0 fun j hj _ => ?_
    have hr := hc.2.2 _ (List.getElem_mem hj)
    exact (share_und h hr.1 (by omega)).1
  · exact trivial
theorem rise_drop {h : List Int} {last : Int} {P : List Int} {j : Nat} (hj : j < P.length) (hr : Rise h last (P.drop j)) : (0 ≤ P[j] ∧ P[j] < 5) ∧ last ≤ nth h P[j] ∧ Rise (addO h P[j] 1) (nth h P[j]) (P.drop (j + 1)) := by
  rw [List.drop_eq_getElem_cons hj] at hr
  exact hr
end Go.Proofs.Ytimjalhhigekpab.Sha

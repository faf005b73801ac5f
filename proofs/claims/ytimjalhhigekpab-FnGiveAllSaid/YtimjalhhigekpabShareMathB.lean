/-
  How long the lists are that shares give. No condition; nothing of the program's text is used here.
-/
import Derived.Test.YtimjalhhigekpabShareMath
namespace Go.Proofs.Ytimjalhhigekpab.Sha
open Lse

theorem insP_len (x : Int × Int) : ∀ l, (insP x l).length = l.length + 1
  | [] => rfl
  | y :: l => by
    unfold insP
    split
    · rfl
    · simp [insP_len x l]
theorem srt_len (e : Int × Int → Bool) : ∀ l, (srt e l).length ≤ l.length
  | [] => by simp [srt]
  | x :: l => by
    have := srt_len e l
    unfold srt
    split
    · rw [insP_len]; simp; omega
    · simp; omega
theorem giveA_len (s : Shr) (asks : List Int) : (giveA s asks).length ≤ 12 := by
  unfold giveA
  split
  · rename_i h
    unfold giveO
    rw [List.length_map, List.length_take]
    have h1 := srt_len (eok s.m) (prs s.h asks)
    rw [prs_len] at h1
    have := h.2.1
    omega
  · simp
theorem giveA_le (s : Shr) (asks : List Int) : (giveA s asks).length ≤ asks.length := by
  unfold giveA
  split
  · unfold giveO
    rw [List.length_map, List.length_take]
    have h1 := srt_len (eok s.m) (prs s.h asks)
    rw [prs_len] at h1
    omega
  · simp
theorem giveS_len (s : Shr) (o d : Int) : (giveS s o d).m.length ≤ 4194304 ∧ (giveS s o d).h.length ≤ 4194304 := by
  unfold giveS
  split
  · rename_i h
    have := share_m (giveB_iff.1 h).2.2
    have := share_h (giveB_iff.1 h).2.2
    omega
  · simp [zeroS]
end Go.Proofs.Ytimjalhhigekpab.Sha

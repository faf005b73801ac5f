/-
  Plain facts on how often an owner is given, for the drawn laws. No condition; nothing of the program's text is used here.
-/
import Derived.Test.YtimjalhhigekpabShareMath
namespace Go.Proofs.Ytimjalhhigekpab.Sha

theorem insP_perm (x : Int × Int) : ∀ l, (insP x l).Perm (x :: l)
  | [] => List.Perm.refl _
  | y :: l => by
    unfold insP
    split
    · exact List.Perm.refl _
    · exact ((insP_perm x l).cons y).trans (List.Perm.swap x y l)
theorem srt_count (e : Int × Int → Bool) (o : Int) : ∀ l, ((srt e l).map Prod.snd).count o ≤ (l.map Prod.snd).count o
  | [] => Nat.le_refl _
  | x :: l => by
    have ih := srt_count e o l
    unfold srt
    split
    · rw [((insP_perm x (srt e l)).map Prod.snd).count_eq]
      simp only [List.map_cons, List.count_cons]
      omega
    · simp only [List.map_cons, List.count_cons]
      omega
theorem giveA_count (s : Shr) (asks : List Int) (o : Int) : (giveA s asks).count o ≤ asks.count o := by
  unfold giveA
  split
  · unfold giveO
    rw [List.map_take]
    have h1 := ((List.take_sublist (s.t - sm s.h).toNat ((srt (eok s.m) (prs s.h asks)).map Prod.snd)).count_le o)
    have h2 := srt_count (eok s.m) o (prs s.h asks)
    rw [prs_snd] at h2
    omega
  · simp
theorem giveA_room {s : Shr} (h : shareB s = true) (asks : List Int) : ((giveA s asks).length : Int) ≤ s.t - sm s.h := by
  obtain ⟨_, _, _, _, _, h6⟩ := shareB_iff.1 h
  unfold giveA
  split
  · unfold giveO
    rw [List.length_map, List.length_take]
    omega
  · simp; omega
theorem cnt_succ {l : List Int} {k : Nat} (hk : k < l.length) (o : Int) : (l[k] = o → (((l.take (k + 1)).count o : Nat) : Int) = ((l.take k).count o : Nat) + 1) ∧ (l[k] ≠ o → (l.take (k + 1)).count o = (l.take k).count o) := by
  rw [List.take_succ_eq_append_getElem hk, List.count_append]
  refine ⟨fun e => ?_, fun e => ?_⟩
  · rw [e]; simp
  · simp [e]
theorem cnt_le (l : List Int) (o : Int) : l.count o ≤ l.length := List.count_le_length
end Go.Proofs.Ytimjalhhigekpab.Sha

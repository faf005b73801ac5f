/-
  What the generator draws for ParseSettings: some text. Condition: the code is at most 2^20 bytes long.
-/
import Derived.Test.YtehdbllpiokbnacTxtE
import Derived.Test.YtehdbllpiokbnacTxtU
import Derived.Test.YtehdbllpiokbnacTxtSMath
import Derived.Test.YtehdbllpiokbnacStG
namespace Go.Proofs.Ytehdbllpiokbnac
open Go.RowKit Txt Stt

/-- A text was drawn; nothing that was there has changed. -/
def TxtAns (w : World) (e : Ending) (w' : World) : Prop := ∃ T, e = .returned (tx T) ∧ T.length ≤ 1000 ∧ Below w.heap.size w w'
theorem fmtS_len (l : List Stg) : (fmtS l).length ≤ 900 := by
  rcases h : setsB l with _ | _
  · rw [fmtS_no h]; simp
  · have := jn_len (setTs_len h) l.length
    have := sets_small h
    rw [fmtS_yes h]
    omega
set_option maxHeartbeats 4000000 in
theorem drawParseSettings_any (A : Option Addr) (n c : Nat) (zs : List Int) (w : World) (h : Sees w w.heap.size A (byts zs)) (hz : ∀ z ∈ zs, 0 ≤ z ∧ z ≤ 255) (hn : zs.length = n) (hc : n ≤ c) (hm : n ≤ 1048576) (hcc : c ≤ maxLen) :
    Calls Try.prog 5 #[.slice A n c] w (TxtAns w) := by
  have HZ := hid hz
  have HE := hid hn
  have HC := hid hcc
  clear hz hn hcc
  go_enter Try.func5, Try.ntmps5
  go_wp2_with fail
  refine (newReader_any A n c zs _ h HZ.out HE.out hc hm HC.out).mono ?_
  rintro e w1 ⟨rfl, hb1, hr1⟩
  go_wp2_with fail
  refine (anySettings_any w.heap.size 0 _ hr1 (by omega)).mono ?_
  rintro e w2 ⟨A2, c2, l, q, rfl, gl, hl, hq⟩
  have hBB := hb1.trans (below_of_grown gl.grow (Nat.le_refl _) (Nat.le_of_lt hr1.lt))
  have hr2 := gl.rd
  have ho := gl.own
  obtain ⟨T, hT⟩ : ∃ T, T = fmtS l := ⟨_, rfl⟩
  have HT := hid hT.symm
  have hTl : T.length ≤ 900 := by rw [hT]; exact fmtS_len l
  clear hT hb1 hr1 gl
  go_wp2_with fail
  refine (sFormatSettings_any A2 c2 l _ ho.sees (by omega)).mono ?_
  rintro e w3 ⟨he, hb3⟩
  rw [HT.out] at he
  subst he
  have hr3 := hr2.below hb3 hr2.lt
  have hB3 := hBB.trans (hb3.mono hBB.size)
  clear hr2 ho hBB hb3
  go_wp2_with fail
  refine (pick_any w.heap.size q 3 _ hr3 (by omega)).mono ?_
  rintro e w4 ⟨f, rfl, hf0, hf1, hg4, hr4⟩
  have hB4 := hB3.trans (below_of_grown hg4 (Nat.le_refl _) (Nat.le_of_lt hr3.lt))
  clear hr3 hg4 hf1 hB3
  rcases Decidable.em (f = 0) with rfl | hf
  · go_wp2_with fail
    refine (mutate_any T w.heap.size (q + 1) _ hr4 (by omega) (by omega)).mono ?_
    rintro e w5 ⟨T2, q2, rfl, hl, hg5, hr5, _⟩
    have hB5 := hB4.trans (below_of_grown hg5 (Nat.le_refl _) (Nat.le_of_lt hr4.lt))
    go_wp2
    go_ret
    exact ⟨T2, rfl, by omega, hB5⟩
  · have hfb : (f == 0) = false := by simpa using hf
    go_wp2
    go_ret
    exact ⟨T, rfl, by omega, hB4⟩

end Go.Proofs.Ytehdbllpiokbnac

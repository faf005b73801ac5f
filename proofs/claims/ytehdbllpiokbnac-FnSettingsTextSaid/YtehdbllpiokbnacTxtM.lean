/-
  What the program's functions answer that read pairs and lists of numbers. Condition: the text is at most 2^22 bytes long.
-/
import Derived.Test.YtehdbllpiokbnacTxtL
import Derived.Test.YtehdbllpiokbnacTxtQMath
import Derived.Test.YtehdbllpiokbnacOwnI
import Derived.Deep.RegionHeld3
namespace Go.Proofs.Ytehdbllpiokbnac
open Go.RowKit Txt Pol

theorem Sees.word {w : World} {B : Nat} {A : Option Addr} {l : List (List UInt8)} (h : Sees w B A (strip tcell l)) {k : Nat} (hk : k < l.length) : ∃ b o, A = some ⟨b, o, none⟩ ∧ b < B ∧ w.cell? ⟨b, o + k, none⟩ = some (.string (ByteArray.mk l[k].toArray)) := by
  obtain ⟨b, o, e, hb, hc⟩ := Sees.elem tcell_ln (by decide) h hk
  exact ⟨b, o, e, hb, by simpa [tx] using hc 0 _ rfl⟩
theorem splT_len {S t : List UInt8} {c : UInt8} {m : Nat} (h : t ∈ splT S c m) : t.length ≤ S.length := by
  unfold splT at h
  split at h
  · simp at h
  · split at h
    · exact spl_lens h
    · simp at h
theorem splT_many (S : List UInt8) (c : UInt8) (m : Nat) : (splT S c m).length ≤ m := by
  unfold splT
  split
  · simp
  · split
    · assumption
    · simp
theorem splT_two {S : List UInt8} {c : UInt8} {m n : Nat} (hn : 1 < n) (_hm : n ≤ m) : (splT S c m).length = n → splT S c m = spl c S := by
  unfold splT
  split
  · intro h; simp at h; omega
  · split
    · exact fun _ => rfl
    · intro h; simp at h; omega
theorem splT_is {S : List UInt8} {c : UInt8} {m n : Nat} (hn : 1 < n) (hm : n ≤ m) (h : (spl c S).length = n) : splT S c m = spl c S := by
  unfold splT
  rw [if_neg (by rintro rfl; rw [spl_nil] at h; simp at h; omega), if_pos (by omega)]
theorem splT_isnt {S : List UInt8} {c : UInt8} {m n : Nat} (hn : 1 < n) (hm : n ≤ m) (h : (spl c S).length ≠ n) : (splT S c m).length ≠ n := fun e => h (by rw [← splT_two hn hm e]; exact e)
set_option maxHeartbeats 4000000 in
theorem parsePair_any (W : List UInt8) (c : UInt8) (cz : Int) (w : World) (hcz : cz = (c.toNat : Int)) (hS : W.length ≤ 4194304) :
    Calls Try.prog 18 #[tx W, .int .u8 cz] w fun e w' => e = .returned (.tuple #[.int .i64 (pair c W).1, .int .i64 (pair c W).2]) ∧ Below w.heap.size w w' := by
  have HCZ := hid hcz
  clear hcz
  by_cases h2 : (spl c W).length = 2
  · obtain ⟨a, b, e⟩ := two_of h2
    have HT := hid (show splT W c 2 = [a, b] by rw [splT_is (n := 2) (by decide) (Nat.le_refl _) h2, e])
    have HP := hid (pair_of e)
    have la : a.length ≤ 4194304 := Nat.le_trans (spl_lens (c := c) (s := W) (by rw [e]; simp)) hS
    have lb : b.length ≤ 4194304 := Nat.le_trans (spl_lens (c := c) (s := W) (by rw [e]; simp)) hS
    clear e h2
    go_enter Try.func18, Try.ntmps18
    go_wp2_with fail
    with_reducible refine (splitText_z W c cz 2 2 w HCZ.out rfl hS (by decide)).mono ?_
    rintro e w1 ⟨v, rfl, ho, hb⟩
    rw [HT.out] at ho
    obtain ⟨A, c1, rfl, _, _, hs⟩ := OwnS.form ho
    rw [show ([a, b] : List (List UInt8)).length = 2 from rfl]
    obtain ⟨bk, o, rfl, hbl, e0⟩ := hs.word (k := 0) (by simp)
    obtain ⟨bk', o', e', _, e1⟩ := hs.word (k := 1) (by simp)
    injection e' with e'
    injection e' with e2 e3
    subst e2 e3
    rw [Nat.add_zero, show ([a, b] : List (List UInt8))[0] = a from rfl] at e0
    rw [show ([a, b] : List (List UInt8))[1] = b from rfl] at e1
    have c1 := parseNumber_any a
    have c2 := parseNumber_any b
    unfold tx at c1 c2
    have C1 := hid c1
    have C2 := hid c2
    clear c1 c2 ho hs
    go_wp2_with fail
    go_quiet (first
      | (go_at_call 28; with_reducible exact Calls.quiet_of_same ((C1.out _ la).mono fun _ _ ⟨he, hw⟩ => ⟨he, hw.symm⟩))
      | (go_at_call 28; with_reducible exact Calls.quiet_of_same ((C2.out _ lb).mono fun _ _ ⟨he, hw⟩ => ⟨he, hw.symm⟩))
      | fail)
    go_wp2
    go_ret2
    exact ⟨by rw [HP.out]; rfl, below_drewN hb _⟩
  · have HP := hid (pair_no h2)
    have HT := hid (splT_isnt (m := 2) (by decide) (Nat.le_refl _) h2)
    clear h2
    go_enter Try.func18, Try.ntmps18
    go_wp2_with fail
    with_reducible refine (splitText_z W c cz 2 2 w HCZ.out rfl hS (by decide)).mono ?_
    rintro e w1 ⟨v, rfl, ho, hb⟩
    obtain ⟨A, c1, rfl, _, _, hs⟩ := OwnS.form ho
    have hlb : (((splT W c 2).length : Int) != 2) = true := by
      have := HT.out
      simp only [bne_iff_ne, ne_eq]; omega
    clear ho hs
    go_wp2
    go_ret2
    exact ⟨by rw [HP.out]; rfl, hb⟩

theorem numM_len (l : List (List UInt8)) (k : Nat) : (((l.take k).map num).length) ≤ k := by rw [List.length_map, List.length_take]; omega
end Go.Proofs.Ytehdbllpiokbnac

/-
  What the program's functions answer that read pairs and lists of numbers. Condition: the text is at most 2^22 bytes long.
-/
import Derived.Test.YtehdbllpiokbnabTxtL
import Derived.Test.YtehdbllpiokbnabTxtQMath
import Derived.Test.YtehdbllpiokbnabOwnI
import Derived.Deep.RegionHeld3

namespace Go.Proofs.Ytehdbllpiokbnab
open Go.RowKit Txt Pol

theorem Sees.word {w : World} {B : Nat} {A : Option Addr} {l : List (List UInt8)} (h : Sees w B A (strip tcell l)) {k : Nat} (hk : k < l.length) : ∃ b o, A = some ⟨b, o, none⟩ ∧ b < B ∧ w.cell? ⟨b, o + k, none⟩ = some (.string (ByteArray.mk l[k].toArray)) := by
  obtain ⟨b, o, e, hb, hc⟩ := Sees.elem tcell_ln (by decide) h hk
  exact ⟨b, o, e, hb, by simpa [tx] using hc 0 _ rfl⟩
theorem splT_len {S t : List UInt8} {c : UInt8} {m : Nat} (h : t ∈ splT S c m) : t.length ≤ S.length := by
  unfold splT at h
  split at h
  · simp at h
  · split at h
    · exact spl_lens h
    · simp at h
theorem splT_many (S : List UInt8) (c : UInt8) (m : Nat) : (splT S c m).length ≤ m := by
  unfold splT
  split
  · simp
  · split
    · assumption
    · simp
theorem splT_two {S : List UInt8} {c : UInt8} {m n : Nat} (hn : 1 < n) (_hm : n ≤ m) : (splT S c m).length = n → splT S c m = spl c S := by
  unfold splT
  split
  · intro h; simp at h; omega
  · split
    · exact fun _ => rfl
    · intro h; simp at h; omega
theorem splT_is {S : List UInt8} {c : UInt8} {m n : Nat} (hn : 1 < n) (hm : n ≤ m) (h : (spl c S).length = n) : splT S c m = spl c S := by
  unfold splT
  rw [if_neg (by rintro rfl; rw [spl_nil] at h; simp at h; omega), if_pos (by omega)]
theorem splT_isnt {S : List UInt8} {c : UInt8} {m n : Nat} (hn : 1 < n) (hm : n ≤ m) (h : (spl c S).length ≠ n) : (splT S c m).length ≠ n := fun e => h (by rw [← splT_two hn hm e]; exact e)
set_option maxHeartbeats 4000000 in
theorem parsePair_any (W : List UInt8) (c : UInt8) (cz : Int) (w : World) (hcz : cz = (c.toNat : Int)) (hS : W.length ≤ 4194304) :
    Calls Try.prog 51 #[tx W, .int .u8 cz] w fun e w' => e = .returned (.tuple #[.int .i64 (pair c W).1, .int .i64 (pair c W).2]) ∧ Below w.heap.size w w' := by
  have HCZ := hid hcz
  clear hcz
  by_cases h2 : (spl c W).length = 2
  · obtain ⟨a, b, e⟩ := two_of h2
    have HT := hid (show splT W c 2 = [a, b] by rw [splT_is (n := 2) (by decide) (Nat.le_refl _) h2, e])
    have HP := hid (pair_of e)
    have la : a.length ≤ 4194304 := Nat.le_trans (spl_lens (c := c) (s := W) (by rw [e]; simp)) hS
    have lb : b.length ≤ 4194304 := Nat.le_trans (spl_lens (c := c) (s := W) (by rw [e]; simp)) hS
    clear e h2
    go_enter Try.func51, Try.ntmps51
    go_wp2_with fail
    with_reducible refine (splitText_z W c cz 2 2 w HCZ.out rfl hS (by decide)).mono ?_
    rintro e w1 ⟨v, rfl, ho, hb⟩
    rw [HT.out] at ho
    obtain ⟨A, c1, rfl, _, _, hs⟩ := OwnS.form ho
    rw [show ([a, b] : List (List UInt8)).length = 2 from rfl]
    obtain ⟨bk, o, rfl, hbl, e0⟩ := hs.word (k := 0) (by simp)
    obtain ⟨bk', o', e', _, e1⟩ := hs.word (k := 1) (by simp)
    injection e' with e'
    injection e' with e2 e3
    subst e2 e3
    rw [Nat.add_zero, show ([a, b] : List (List UInt8))[0] = a from rfl] at e0
    rw [show ([a, b] : List (List UInt8))[1] = b from rfl] at e1
    have c1 := parseNumber_any a
    have c2 := parseNumber_any b
    unfold tx at c1 c2
    have C1 := hid c1
    have C2 := hid c2
    clear c1 c2 ho hs
    go_wp2_with fail
    go_quiet (first
      | (go_at_call 32; with_reducible exact Calls.quiet_of_same ((C1.out _ la).mono fun _ _ ⟨he, hw⟩ => ⟨he, hw.symm⟩))
      | (go_at_call 32; with_reducible exact Calls.quiet_of_same ((C2.out _ lb).mono fun _ _ ⟨he, hw⟩ => ⟨he, hw.symm⟩))
      | fail)
    go_wp2
    go_ret2
    exact ⟨by rw [HP.out]; rfl, below_drewN hb _⟩
  · have HP := hid (pair_no h2)
    have HT := hid (splT_isnt (m := 2) (by decide) (Nat.le_refl _) h2)
    clear h2
    go_enter Try.func51, Try.ntmps51
    go_wp2_with fail
    with_reducible refine (splitText_z W c cz 2 2 w HCZ.out rfl hS (by decide)).mono ?_
    rintro e w1 ⟨v, rfl, ho, hb⟩
    obtain ⟨A, c1, rfl, _, _, hs⟩ := OwnS.form ho
    have hlb : (((splT W c 2).length : Int) != 2) = true := by
      have := HT.out
      simp only [bne_iff_ne, ne_eq]; omega
    clear ho hs
    go_wp2
    go_ret2
    exact ⟨by rw [HP.out]; rfl, hb⟩

theorem numM_len (l : List (List UInt8)) (k : Nat) : (((l.take k).map num).length) ≤ k := by rw [List.length_map, List.length_take]; omega
set_option maxHeartbeats 4000000 in
set_option maxRecDepth 16384 in
theorem parseNumbers_any (S : List UInt8) (mz : Int) (m : Nat) (w : World) (hmz : mz = (m : Int)) (hS : S.length ≤ 4194304) (hm : m ≤ 1000) :
    Calls Try.prog 30 #[tx S, .int .i64 mz] w fun e w' => ∃ v, e = .returned (.tuple #[v, .bool (splB S 44 m)]) ∧ Own w' w.heap.size v ((splT S 44 m).map num) ∧ Below w.heap.size w w' := by
  obtain ⟨i0, hi0, hz0, hz1, hz2⟩ := info_parts intInfo
  have HMZ := hid hmz
  clear hmz
  have HWL := hid (fun t ht => Nat.le_trans (splT_len (S := S) (c := 44) (m := m) (t := t) ht) hS)
  have HWN := hid (Nat.le_trans (splT_many S 44 m) hm)
  go_enter Try.func30, Try.ntmps30
  go_wp2_with fail
  with_reducible refine (splitText_z S 44 44 mz m w rfl HMZ.out hS hm).mono ?_
  rintro e w1 ⟨v, rfl, ho, hb1⟩
  obtain ⟨W, hW⟩ : ∃ W, W = splT S 44 m := ⟨_, rfl⟩
  have HW := hid hW.symm
  obtain ⟨b, hbb⟩ : ∃ b, b = splB S 44 m := ⟨_, rfl⟩
  have HB := hid hbb.symm
  rw [← hW] at ho HWL HWN
  rw [← hbb]
  clear hW hbb
  obtain ⟨A, c1, rfl, _, _, hs⟩ := OwnS.form ho
  clear ho
  go_wp2
  go_loopw [8, 19] (fun v i wr => ∃ k : Nat, k ≤ W.length ∧ i = .int .i64 k ∧ Own wr w1.heap.size v ((W.take k).map num) ∧ Below w1.heap.size w1 wr) (fun _ i _ => W.length - (intOf i).toNat)
  case atStart => exact ⟨0, Nat.zero_le _, rfl, Own.none_ _ _, Below.refl _ _⟩
  case round =>
    obtain ⟨k, hk, rfl, ho, hb⟩ := hrel
    have hwn := HWN.out
    by_cases hlt : k < W.length
    · have hi : (k : Int) < (W.length : Int) := by omega
      obtain ⟨bk, o, rfl, hbl, e0⟩ := (hs.below hb).word hlt
      have hxl := HWL.out _ (List.getElem_mem hlt)
      have HT := hid (show (W.take (k + 1)).map num = (W.take k).map num ++ [num W[k]] by rw [List.take_succ_eq_append_getElem hlt, List.map_append]; rfl)
      have hkl := numM_len W k
      obtain ⟨x, hx⟩ : ∃ x, x = W[k] := ⟨_, rfl⟩
      rw [← hx] at e0 hxl HT
      clear hx
      have c0 := parseNumber_any x
      unfold tx at c0
      have C0 := hid c0
      clear c0
      have hz := hb.size
      have hlow := fun q hq => (ho.out.lt q hq).1
      go_wp2_with fail
      with_reducible refine (C0.out _ hxl).mono ?_
      rintro e w' ⟨rfl, rfl⟩
      obtain ⟨n, hn⟩ : ∃ n, n = num x := ⟨_, rfl⟩
      rw [← hn] at HT ⊢
      obtain ⟨R, hR⟩ : ∃ R, R = (W.take k).map num := ⟨_, rfl⟩
      rw [← hR] at HT ho hkl
      clear hn hR C0
      go_wp2_with (at_builtin; refine wpList_append_own _ rfl _ _ 23 rfl w1.heap.size 3 i0 (.int .i64 0) 1 8 Try.underlying23 hi0 hz0 hz1 hz2 rfl (by decide) _ _ _ rfl (ho.below ((Below.refl _ _).alloc (Nat.le_refl _) _)).out ⟨wr.heap.size, 0, none⟩ 1 1 [.int .i64 n] rfl rfl (cell_one_new _ _ _) ?c2 ?c3 ?c4 ?c5 ?_)
      case c2 => simp [Value.oneCell']
      case c3 => unfold maxLen; omega
      case c4 => omega
      case c5 => first | omega | (simp; omega) | (simp; done)
      case _ =>
        intro v4 w4 h4 hg4 _
        have ho4 : Own w4 w1.heap.size v4 ((W.take (k + 1)).map num) := by
          rw [HT.out]
          unfold Own
          rw [List.length_append, List.length_singleton, ints_app]
          exact h4
        have hb4 : Below w1.heap.size (wr.alloc (.cells #[.int .i64 n] 3)) w4 := (Below.refl _ _).grown hg4 (by simp; omega) hlow
        have hb5 := (hb.alloc hz (.cells #[.int .i64 n] 3)).trans hb4
        clear h4 hg4 hb4 hb ho hlow
        go_wp2
        go_roundw
        case rel => exact ⟨k + 1, by omega, by go_num, ho4, hb5⟩
        case measure => simp [intOf]; omega
    · have hi : ¬ (k : Int) < (W.length : Int) := by omega
      rw [List.take_of_length_le (by omega)] at ho
      go_wp2
      go_ret2
      refine ⟨_, by rw [HB.out]; rfl, ?_, hb1.trans (hb.mono hb1.size)⟩
      rw [HW.out]; exact ho.mono hb1.size

end Go.Proofs.Ytehdbllpiokbnab

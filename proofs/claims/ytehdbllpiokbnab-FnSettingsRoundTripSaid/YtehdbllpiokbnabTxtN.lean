/-
  What the program's ParseSettings answers. Condition: the text is at most 2^22 bytes long.
-/
import Derived.Test.YtehdbllpiokbnabTxtM
import Derived.Test.YtehdbllpiokbnabTxtSMath
import Derived.Test.YtehdbllpiokbnabStD

namespace Go.Proofs.Ytehdbllpiokbnab
open Go.RowKit Txt Stt

theorem set_many {S : List UInt8} (h : splB S 44 10 = false) : prsS S = [] ∧ prsSB S = false := by
  have h2 : ¬ (S = [] ∨ (spl 44 S).length ≤ 10) := fun e => by simp [splB, e] at h
  have e : prsSB S = false := Bool.eq_false_iff.2 fun e => by
    have := sets_small e
    rw [setL_of (fun e => h2 (.inl e)), List.length_map] at this
    exact h2 (.inr this)
  exact ⟨prsS_no e, e⟩
theorem set_few {S : List UInt8} (h : splB S 44 10 = true) : (splT S 44 10).map setOf = setL S := by
  have h2 : S = [] ∨ (spl 44 S).length ≤ 10 := by simpa [splB] using h
  by_cases h0 : S = []
  · subst h0; rfl
  · rw [setL_of h0, (splT_yes h0 (h2.resolve_left h0)).1]
set_option maxHeartbeats 4000000 in
set_option maxRecDepth 16384 in
theorem iParseSettings_any (S : List UInt8) (w : World) (hS : S.length ≤ 4194304) :
    Calls Try.prog 20 #[tx S] w fun e w' => ∃ v, e = .returned (.tuple #[v, .bool (prsSB S)]) ∧ OwnS 68 2 stcl w' w.heap.size v (prsS S) ∧ Below w.heap.size w w' := by
  obtain ⟨i0, hi0, hz0, hz1, hz2⟩ := info_parts stgInfo
  have HWL := hid (fun t ht => Nat.le_trans (splT_len (S := S) (c := 44) (m := 10) (t := t) ht) hS)
  have HWN := hid (splT_many S 44 10)
  go_enter Try.func20, Try.ntmps20
  go_wp2_with fail
  with_reducible refine (splitText_z S 44 44 10 10 w rfl rfl hS (by decide)).mono ?_
  rintro e w1 ⟨v, rfl, ho, hb1⟩
  obtain ⟨W, hW⟩ : ∃ W, W = splT S 44 10 := ⟨_, rfl⟩
  have HW := hid hW.symm
  obtain ⟨b, hbb⟩ : ∃ b, b = splB S 44 10 := ⟨_, rfl⟩
  have HB := hid hbb.symm
  rw [← hW] at ho HWL HWN
  rw [← hbb]
  clear hW hbb
  obtain ⟨A, c1, rfl, _, _, hs⟩ := OwnS.form ho
  clear ho
  rcases hbv : b with _ | _
  · have E := hid (set_many (S := S) (by rw [HB.out, hbv]))
    clear hs hbv HWN
    go_wp2
    go_ret2
    exact ⟨_, by rw [E.out.2]; rfl, by rw [E.out.1]; exact OwnS.none_ _ _, hb1⟩
  have HSL := hid (set_few (S := S) (by rw [HB.out, hbv]))
  rw [HW.out] at HSL
  clear hbv
  go_wp2
  go_loopw [6, 20] (fun v i wr => ∃ k : Nat, k ≤ W.length ∧ i = .int .i64 k ∧ OwnS 68 2 stcl wr w1.heap.size v ((W.take k).map setOf) ∧ Below w1.heap.size w1 wr) (fun _ i _ => W.length - (intOf i).toNat)
  case atStart => exact ⟨0, Nat.zero_le _, rfl, OwnS.none_ _ _, Below.refl _ _⟩
  case round =>
    obtain ⟨k, hk, rfl, ho, hb⟩ := hrel
    have hwn := HWN.out
    by_cases hlt : k < W.length
    · have hi : (k : Int) < (W.length : Int) := by omega
      obtain ⟨bk, o, rfl, hbl, e0⟩ := (hs.below hb).word hlt
      have hxl := HWL.out _ (List.getElem_mem hlt)
      have HT := hid (show (W.take (k + 1)).map setOf = (W.take k).map setOf ++ [setOf W[k]] by rw [List.take_succ_eq_append_getElem hlt, List.map_append]; rfl)
      have hkl : ((W.take k).map setOf).length ≤ k := by rw [List.length_map, List.length_take]; omega
      obtain ⟨x, hx⟩ : ∃ x, x = W[k] := ⟨_, rfl⟩
      rw [← hx] at e0 hxl HT
      clear hx
      have c0 := parsePair_any x 61 61
      unfold tx at c0
      have C0 := hid c0
      clear c0
      have hz := hb.size
      go_wp2_with fail
      with_reducible refine (C0.out _ rfl hxl).mono ?_
      rintro e w2 ⟨rfl, hb2⟩
      obtain ⟨n1, hn1⟩ : ∃ n, n = (pair 61 x).1 := ⟨_, rfl⟩
      obtain ⟨n2, hn2⟩ : ∃ n, n = (pair 61 x).2 := ⟨_, rfl⟩
      have HX := hid (show stcl (setOf x) = [.int .i64 n1, .int .i64 n2] by rw [hn1, hn2]; rfl)
      rw [← hn1, ← hn2]
      obtain ⟨y, hy⟩ : ∃ y, y = setOf x := ⟨_, rfl⟩
      rw [← hy] at HT HX
      obtain ⟨R, hR⟩ : ∃ R, R = (W.take k).map setOf := ⟨_, rfl⟩
      rw [← hR] at HT ho hkl
      clear hn1 hn2 hy hR C0
      have ho2 := ho.below hb2
      have hbb := hb.trans (hb2.mono hz)
      have hz2' := hbb.size
      have hlow := fun q hq => (ho2.out.lt q hq).1
      clear ho hb hb2
      have ho3 := (ho2.alloc (.cells #[.int .i64 n1, .int .i64 n2] 68)).out
      go_wp2_with (at_builtin; refine wpList_append_own _ rfl _ _ 35 rfl w1.heap.size 68 i0 (.agg #[.int .i64 0, .int .i64 0]) 2 16 Try.underlying35 hi0 hz0 hz1 hz2 rfl (by decide) _ _ _ rfl ho3 ⟨w2.heap.size, 0, none⟩ 1 1 [.int .i64 n1, .int .i64 n2] rfl rfl (by simpa using cells_new w2 [.int .i64 n1, .int .i64 n2] 68) ?c2 ?c3 ?c4 ?c5 ?_)
      case c2 => simp [Value.oneCell']
      case c3 => unfold maxLen; omega
      case c4 => omega
      case c5 => first | omega | (simp; omega) | (simp; done)
      case _ =>
        intro v4 w4 h4 hg4 _
        have ho4 : OwnS 68 2 stcl w4 w1.heap.size v4 ((W.take (k + 1)).map setOf) := by
          rw [HT.out]
          unfold OwnS
          rw [List.length_append, List.length_singleton, strip_snoc, HX.out]
          exact h4
        have hb4 : Below w1.heap.size (w2.alloc (.cells #[.int .i64 n1, .int .i64 n2] 68)) w4 := (Below.refl _ _).grown hg4 (by simp; omega) hlow
        have hb5 := (hbb.alloc hz2' (.cells #[.int .i64 n1, .int .i64 n2] 68)).trans hb4
        clear h4 hg4 hb4 hbb ho2 ho3 hlow
        go_wp2
        go_roundw
        case rel => exact ⟨k + 1, by omega, by go_num, ho4, hb5⟩
        case measure => simp [intOf]; omega
    · have hi : ¬ (k : Int) < (W.length : Int) := by omega
      rw [List.take_of_length_le (by omega)] at ho
      rw [HSL.out] at ho
      obtain ⟨A2, c2, rfl, _, _, hs2⟩ := OwnS.form ho
      have hl2 : (setL S).length ≤ 4194304 := by rw [← HSL.out, List.length_map]; omega
      have HBK : Hid (prsSB S = setsB (setL S)) := hid rfl
      have HYS := hid (fun h => prsS_yes (s := S) h)
      have HNS := hid (fun h => prsS_no (s := S) h)
      obtain ⟨L, hL⟩ : ∃ L, L = setL S := ⟨_, rfl⟩
      rw [← hL] at ho hs2 hl2 HBK HYS HNS
      rw [← hL]
      clear hL HSL
      rcases hv : setsB L with _ | _
      · have HV := hid hv
        have E := hid (HNS.out hv)
        clear hv
        go_wp2_with fail
        with_reducible refine (iValidSettings_any A2 c2 L _ hs2 hl2).mono ?_
        rintro e w5 ⟨he, hb5⟩
        rw [HV.out] at he
        subst he
        go_wp2
        go_ret2
        refine ⟨_, by rw [HBK.out, HV.out]; rfl, ?_, (hb1.trans (hb.mono hb1.size)).trans (hb5.mono (Nat.le_trans hb1.size hb.size))⟩
        rw [E.out]; exact OwnS.none_ _ _
      · have HV := hid hv
        have E := hid (HYS.out hv)
        clear hv
        go_wp2_with fail
        with_reducible refine (iValidSettings_any A2 c2 L _ hs2 hl2).mono ?_
        rintro e w5 ⟨he, hb5⟩
        rw [HV.out] at he
        subst he
        go_wp2
        go_ret2
        refine ⟨_, by rw [HBK.out, HV.out]; rfl, ?_, (hb1.trans (hb.mono hb1.size)).trans (hb5.mono (Nat.le_trans hb1.size hb.size))⟩
        rw [E.out]; exact (ho.mono hb1.size).below hb5

end Go.Proofs.Ytehdbllpiokbnab

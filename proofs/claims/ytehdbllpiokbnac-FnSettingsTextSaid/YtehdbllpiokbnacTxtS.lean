/-
  What the model's ParseSettings answers. Condition: the text is at most 2^22 bytes long.
-/
import Derived.Test.YtehdbllpiokbnacTxtR0
import Derived.Test.YtehdbllpiokbnacTxtSMath
import Derived.Test.YtehdbllpiokbnacStD
namespace Go.Proofs.Ytehdbllpiokbnac
open Go.RowKit Txt Stt
set_option maxHeartbeats 8000000 in
set_option maxRecDepth 16384 in
theorem sParseSettings_any (S : List UInt8) (w : World) (hS : S.length ≤ 4194303) :
    Calls Try.prog 7 #[tx S] w fun e w' => ∃ v, e = .returned (.tuple #[v, .bool (prsSB S)]) ∧ OwnS 43 2 stcl w' w.heap.size v (prsS S) ∧ Below w.heap.size w w' := by
  obtain ⟨i0, hi0, hz0, hz1, hz2⟩ := info_parts stgInfo
  have hm0 : OwnS 43 2 stcl (w.alloc (.cells #[] 43)) w.heap.size (.slice (some ⟨w.heap.size, 0, none⟩) 0 0) [] := OwnS.made w (Nat.le_refl _)
  have hbm := (Below.refl w.heap.size w).alloc (Nat.le_refl _) (.cells #[] 43)
  by_cases h0 : S = []
  · subst h0
    have E1 : Hid (prsSB [] = true) := hid rfl
    have E2 : Hid (prsS [] = []) := hid rfl
    unfold tx
    go_enter Try.func7, Try.ntmps7
    go_wp2
    go_ret2
    refine ⟨_, by rw [E1.out]; rfl, ?_, hbm⟩
    rw [E2.out]; exact hm0
  have hS0 : (S == []) = false := by simpa using h0
  have HNL := hid (setL_of h0)
  have HWL := hid (fun t ht => Nat.le_trans (spl_lens (c := 44) (s := S) (t := t) ht) (show S.length ≤ 4194304 by omega))
  have HWN := hid (Nat.le_trans (spl_up 44 S) (show S.length + 1 ≤ 4194304 by omega))
  have hS4 : S.length ≤ 4194304 := by omega
  have cs := fun w => splitAt_any S 44 44 w rfl hS4
  unfold tx at cs
  have CS := hid cs
  clear cs h0 hS
  unfold tx
  go_enter Try.func7, Try.ntmps7
  go_wp2_with fail
  with_reducible refine (CS.out _).mono ?_
  rintro e w1 ⟨v, rfl, ho, hb1⟩
  obtain ⟨W, hW⟩ : ∃ W, W = spl 44 S := ⟨_, rfl⟩
  rw [← hW] at ho HWL HWN HNL
  clear hW CS
  obtain ⟨A, c1, rfl, _, _, _⟩ := OwnS.form ho
  have hm1 := hm0.below hb1
  have hbw := hbm.trans (hb1.mono hbm.size)
  have hsf : SeesF w1 (OutF w.heap.size w1.heap.size) A (strip tcell W) := SeesF.of_row ho.out (fun b h1 h2 e => by rw [World.size_alloc] at h1; rcases e with e | e <;> omega)
  have hzw := hbw.size
  clear hm0 hbm hb1 ho
  go_wp2
  go_loopw [4, 6] (fun v i wr => ∃ k : Nat, k ≤ W.length ∧ i = .int .i64 k ∧ OwnS 43 2 stcl wr w.heap.size v ((W.take k).map setOf) ∧ (∀ q, v.ownBlock = some q → OutF w.heap.size w1.heap.size q) ∧ SeesF wr (OutF w.heap.size w1.heap.size) A (strip tcell W) ∧ Below w.heap.size w wr ∧ w1.heap.size ≤ wr.heap.size) (fun _ i _ => W.length - (intOf i).toNat)
  case atStart => exact ⟨0, Nat.zero_le _, rfl, hm1, fun q hq => .inl (by injection hq with hq; exact hq.symm), hsf, hbw, Nat.le_refl _⟩
  case round =>
    clear hm1 hsf hbw
    obtain ⟨k, hk, rfl, ho, hvF, hsf, hb, hM⟩ := hrel
    have hwn := HWN.out
    by_cases hlt : k < W.length
    · have hi : (k : Int) < (W.length : Int) := by omega
      have hk0 : (0 : Int) ≤ (k : Int) := by omega
      obtain ⟨bk, o, rfl, hbl, e0⟩ := hsf.wordF hlt
      have hxl := HWL.out _ (List.getElem_mem hlt)
      have HT := hid (show (W.take (k + 1)).map setOf = (W.take k).map setOf ++ [setOf W[k]] by rw [List.take_succ_eq_append_getElem hlt, List.map_append]; rfl)
      have HBAD := hid (fun (h : ¬ (setOf W[k]).ok) => (Bool.eq_false_iff.2 fun e => h ((setsB_iff.1 e).1 (setOf W[k]) (by rw [HNL.out]; exact List.mem_map_of_mem (List.getElem_mem hlt))) : setsB (setL S) = false))
      have hkl : ((W.take k).map setOf).length ≤ k := by rw [List.length_map, List.length_take]; omega
      have HKL : Hid (((W.take k).map setOf).length = k) := hid (by rw [List.length_map, List.length_take]; omega)
      obtain ⟨x, hx⟩ : ∃ x, x = W[k] := ⟨_, rfl⟩
      rw [← hx] at e0 hxl HT HBAD
      clear hx
      obtain ⟨R, hR⟩ : ∃ R, R = (W.take k).map setOf := ⟨_, rfl⟩
      rw [← hR] at HT ho hkl HKL
      skip
      clear hR
      have c0 := fun w => splitAt_any x 61 61 w rfl hxl
      unfold tx at c0
      have C0 := hid c0
      clear c0
      have hz := hb.size
      go_wp2_with fail
      with_reducible refine (C0.out _).mono ?_
      rintro e w2 ⟨v2, rfl, hp, hb2⟩
      have hB2 := hb.trans (hb2.mono hz)
      have ho2 := ho.below hb2
      have hsf2 := hsf.below hb2
      have hM2 : w1.heap.size ≤ w2.heap.size := Nat.le_trans hM hb2.size
      have hlo := fun q hq => (ho.out.lt q hq).2
      have hzr := hb2.size
      clear C0 e0 ho hsf hb hb2
      by_cases h2 : (spl 61 x).length = 2
      rotate_left
      · have E0 := hid (HBAD.out (by unfold setOf; rw [pair_no h2]; unfold Stg.ok; decide))
        have E1 : Hid (prsSB S = false) := hid E0.out
        have E2 := hid (prsS_no E0.out)
        obtain ⟨A2, c2, rfl, _, _, _⟩ := OwnS.form hp
        have hlb : (((spl 61 x).length : Int) != 2) = true := by simp only [bne_iff_ne, ne_eq]; omega
        clear hp E0
        go_wp2
        go_ret2
        refine ⟨_, by rw [E1.out]; rfl, ?_, hB2⟩
        rw [E2.out]; exact OwnS.none_ _ _
      obtain ⟨a, b, e⟩ := two_of h2
      have HO := hid (pair_of e)
      have la : a.length ≤ 4194304 := Nat.le_trans (spl_lens (c := 61) (s := x) (by rw [e]; simp)) hxl
      have lb : b.length ≤ 4194304 := Nat.le_trans (spl_lens (c := 61) (s := x) (by rw [e]; simp)) hxl
      rw [e] at hp
      clear e h2
      obtain ⟨A2, c2, rfl, _, _, _⟩ := OwnS.form hp
      rw [show ([a, b] : List (List UInt8)).length = 2 from rfl] at hp ⊢
      obtain ⟨kp, op, rfl, hkp, p0⟩ := hp.sees.word (k := 0) (by simp)
      obtain ⟨_, _, e9, _, p1⟩ := hp.sees.word (k := 1) (by simp)
      injection e9 with e9
      injection e9 with e8 e9
      subst e8 e9
      have hkr := (hp.lt kp rfl).1
      rw [Nat.add_zero, show ([a, b] : List (List UInt8))[0] = a from rfl] at p0
      rw [show ([a, b] : List (List UInt8))[1] = b from rfl] at p1
      have c1 := fun w => parseInt_any a w la
      have c2 := fun w => parseInt_any b w lb
      unfold tx at c1 c2
      have C1 := hid c1
      have C2 := hid c2
      obtain ⟨n1, hn1⟩ : ∃ n, n = num a := ⟨_, rfl⟩
      obtain ⟨n2, hn2⟩ : ∃ n, n = num b := ⟨_, rfl⟩
      have H1 := hid hn1.symm
      have H2 := hid hn2.symm
      have HX := hid (show stcl (setOf x) = [.int .i64 n1, .int .i64 n2] by unfold setOf; rw [HO.out, hn1, hn2]; rfl)
      clear c1 c2 hn1 hn2 hp
      obtain ⟨y, hy⟩ : ∃ y, y = setOf x := ⟨_, rfl⟩
      rw [← hy] at HT HX
      clear hy HBAD HO
      have hown : World.ownsRow w2.drew w.heap.size 43 2 _ R.length (strip stcl R) := (ho2.drew).out
      rw [HKL.out] at hown
      have hlw := fun q hq => (hown.lt q hq).1
      have hzz := hB2.size
      have hnk : ∀ q, u4.ownBlock = some q → q ≠ kp := fun q hq e => by have := hlo q hq; omega
      have hBd := hB2.drew
      have hsd := hsf2.drew
      clear ho2
      go_wp2_with fail
      go_region_held_law (fun w' => w'.cell? ⟨kp, op, none⟩ = some (.string (ByteArray.mk a.toArray)) ∧ w'.cell? ⟨kp, op + 1, none⟩ = some (.string (ByteArray.mk b.toArray)))
        (first | with_reducible exact ⟨p0, p1⟩ | with_reducible exact ⟨q0, q1⟩ | with_reducible exact ⟨r0, r1⟩ | with_reducible exact ⟨s0, s1⟩ | go_keep)
        (first
          | (go_at_call 20; (with_reducible refine (C1.out w2.drew).mono ?_); rintro e wa ⟨he, hba⟩; rw [H1.out] at he; subst he; have q0 := ((below_cell hba).1 kp op hkp).trans p0; have q1 := ((below_cell hba).1 kp (op + 1) hkp).trans p1; have hkq := Nat.lt_of_lt_of_le hkp hba.size)
          | (go_at_call 20; (with_reducible refine (C2.out wa).mono ?_); rintro e wb ⟨he, hbb⟩; rw [H2.out] at he; subst he; have r0 := ((below_cell hbb).1 kp op hkq).trans q0; have r1 := ((below_cell hbb).1 kp (op + 1) hkq).trans q1; have hkr2 := Nat.lt_of_lt_of_le hkq hbb.size; have hBb := (hBd.trans (hba.mono hBd.size)).trans (hbb.mono (Nat.le_trans hBd.size hba.size)); have hob := own_below (own_below hown hba) hbb; have hsb := (hsd.below hba).below hbb; have hzb := hBb.size; have hMb : w1.heap.size ≤ wb.heap.size := Nat.le_trans hM2 (Nat.le_trans hba.size hbb.size))
          | (refine step_append_at _ (by rfl) _ _ 24 (by rfl) w.heap.size 43 i0 (.agg #[.int .i64 0, .int .i64 0]) 2 16 Try.underlying24 hi0 hz0 hz1 hz2 rfl (by decide) _ k (strip stcl R) (by rfl) (own_alloc hob _) ⟨wb.heap.size, 0, none⟩ 1 1 [.int .i64 n1, .int .i64 n2] (by rfl) (by rfl) (by exact cells_new wb _ _) (by simp [Value.oneCell']) (by unfold maxLen; omega) (by omega) (by first | omega | (simp; omega)) ?_; intro v4 w4 h4 hg4 hat; have s0 := (cell_kept hg4 (o := .cells #[.int .i64 n1, .int .i64 n2] 43) hkr2 hnk op).trans r0; have s1 := (cell_kept hg4 (o := .cells #[.int .i64 n1, .int .i64 n2] 43) hkr2 hnk (op + 1)).trans r1)
          | fail)
      all_goals
        have ho5 : OwnS 43 2 stcl w4 w.heap.size v4 ((W.take (k + 1)).map setOf) := by
          rw [HT.out]
          unfold OwnS
          rw [List.length_append, List.length_singleton, strip_snoc, HX.out, HKL.out]
          exact h4
        have hb4 : Below w.heap.size (wb.alloc (.cells #[.int .i64 n1, .int .i64 n2] 43)) w4 := (Below.refl _ _).grown hg4 (by simp; omega) hlw
        have hb5 := (hBb.alloc hzb (.cells #[.int .i64 n1, .int .i64 n2] 43)).trans hb4
        have hsf5 := (hsb.alloc (.cells #[.int .i64 n1, .int .i64 n2] 43)).grown hg4 hvF
        have hvF5 := outF_of hvF (show w1.heap.size ≤ (wb.alloc (.cells #[.int .i64 n1, .int .i64 n2] 43)).heap.size by rw [World.size_alloc]; omega) hat
        have hM5 : w1.heap.size ≤ w4.heap.size := Nat.le_trans hMb (Nat.le_trans (by first | omega | (rw [World.size_alloc]; omega)) hg4.size)
        clear h4 hg4 hb4 hBb hBd hB2 hown hob hlw hat hsb hsd hsf2 p0 p1 q0 q1 r0 r1 s0 s1 hba hbb
        go_wp2
        go_roundw
        case rel => exact ⟨k + 1, by omega, by go_num, ho5, hvF5, hsf5, hb5, hM5⟩
        case measure => simp [intOf]; omega
    · have hi : ¬ (k : Int) < (W.length : Int) := by omega
      rw [List.take_of_length_le (by omega), ← HNL.out] at ho
      have hl2 : (setL S).length ≤ 4194304 := by rw [HNL.out, List.length_map]; omega
      obtain ⟨A2, c2, rfl, _, _, hs2⟩ := OwnS.form ho
      have HBK : Hid (prsSB S = setsB (setL S)) := hid rfl
      have HYS := hid (fun h => prsS_yes (s := S) h)
      have HNS := hid (fun h => prsS_no (s := S) h)
      obtain ⟨L, hL⟩ : ∃ L, L = setL S := ⟨_, rfl⟩
      rw [← hL] at ho hs2 hl2 HBK HYS HNS
      rw [← hL]
      clear hL HNL
      rcases hv : setsB L with _ | _
      · have HV := hid hv
        have E := hid (HNS.out hv)
        clear hv
        go_wp2_with fail
        with_reducible refine (svalidSettings_any A2 c2 L _ hs2 hl2).mono ?_
        rintro e w5 ⟨he, hb5⟩
        rw [HV.out] at he
        subst he
        go_wp2
        go_ret2
        refine ⟨_, by rw [HBK.out, HV.out]; rfl, ?_, hb.trans (hb5.mono hb.size)⟩
        rw [E.out]; exact OwnS.none_ _ _
      · have HV := hid hv
        have E := hid (HYS.out hv)
        clear hv
        go_wp2_with fail
        with_reducible refine (svalidSettings_any A2 c2 L _ hs2 hl2).mono ?_
        rintro e w5 ⟨he, hb5⟩
        rw [HV.out] at he
        subst he
        go_wp2
        go_ret2
        refine ⟨_, by rw [HBK.out, HV.out]; rfl, ?_, hb.trans (hb5.mono hb.size)⟩
        rw [E.out]; exact ho.below hb5

end Go.Proofs.Ytehdbllpiokbnac

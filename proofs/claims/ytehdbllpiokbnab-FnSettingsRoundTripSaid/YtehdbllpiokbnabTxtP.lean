/-
  What the model's functions answer that cut a text at a sign and that read a number. Condition: the text is at most 2^22 bytes long.
-/
import Derived.Test.YtehdbllpiokbnabTxtM
import Derived.Laws.Strings3

namespace Go.Proofs.Ytehdbllpiokbnab
open Go.RowKit Txt

theorem tail_take (S : List UInt8) (b : Nat) : (S.drop b).take (S.length - b) = S.drop b := List.take_of_length_le (by rw [List.length_drop]; exact Nat.le_refl _)
set_option maxHeartbeats 4000000 in
set_option maxRecDepth 16384 in
theorem splitAt_any (S : List UInt8) (c : UInt8) (cz : Int) (w : World) (hcz : cz = (c.toNat : Int)) (hS : S.length ≤ 4194304) :
    Calls Try.prog 38 #[tx S, .int .u8 cz] w fun e w' => ∃ v, e = .returned v ∧ OwnS 9 1 tcell w' w.heap.size v (spl c S) ∧ Below w.heap.size w w' := by
  obtain ⟨i0, hi0, hz0, hz1, hz2⟩ := info_parts strInfo
  have HSL := hid hS
  have HCZ := hid hcz
  clear hS hcz
  have hm0 : OwnS 9 1 tcell (w.alloc (.cells #[] 9)) w.heap.size (.slice (some ⟨w.heap.size, 0, none⟩) 0 0) [] := OwnS.made w (Nat.le_refl _)
  have hbm := (Below.refl w.heap.size w).alloc (Nat.le_refl _) (.cells #[] 9)
  unfold tx
  go_enter Try.func38, Try.ntmps38
  go_wp2
  go_loopw [5, 6, 7] (fun v f i wr => ∃ (k b : Nat) (P : List (List UInt8)), i = .int .i64 k ∧ f = .int .i64 b ∧ OwnS 9 1 tcell wr w.heap.size v P ∧ P.length ≤ k ∧ b ≤ k ∧ k ≤ S.length ∧ Hid (splF c P ((S.drop b).take (k - b)) (S.drop k) = spl c S) ∧ Below w.heap.size w wr) (fun _ _ i _ => S.length - (intOf i).toNat)
  case atStart => exact ⟨0, 0, [], rfl, rfl, hm0, Nat.zero_le _, Nat.le_refl _, Nat.zero_le _, hid (by simp [spl]), hbm⟩
  case round =>
    clear hm0 hbm
    obtain ⟨k, b, P, rfl, rfl, ho, hP, hbk, hk, HI, hb⟩ := hrel
    have hSL := HSL.out
    have hz := hb.size
    have hlow := ho.lt
    have ho2 := ho
    unfold OwnS at ho2
    have hb0 : (0 : Int) ≤ (b : Int) := by omega
    by_cases hlt : k < S.length
    · have hi : (k : Int) < (S.length : Int) := by omega
      have hk0 : (0 : Int) ≤ (k : Int) := by omega
      have hat := byte_at hlt
      by_cases hne : S[k] = c
      · have hnb : ((S[k].toNat : Int) == cz) = true := by rw [HCZ.out, hne]; simp
        have HN := hid (splF_cut (b := b) hlt hne HI.out)
        clear hne HI
        have hbi : (b : Int) ≤ (k : Int) := by omega
        have hki : (k : Int) ≤ (S.length : Int) := by omega
        obtain ⟨T, hT⟩ : ∃ T, T = (S.drop b).take (k - b) := ⟨_, rfl⟩
        have HT := hid (show (ByteArray.mk S.toArray).extract b k = ByteArray.mk T.toArray by rw [hT]; exact ByteArray.extract_mk S b k)
        rw [← hT] at HN
        obtain ⟨D, hD⟩ : ∃ D, D = (ByteArray.mk S.toArray).extract b k := ⟨_, rfl⟩
        have HTX := hid (show tcell T = [.string D] by rw [hD, HT.out]; rfl)
        have hD' := hD.symm
        clear hD HT hT
        go_wp2_with (at_builtin; refine wpList_append_own _ rfl _ _ 48 rfl w.heap.size 9 i0 (.string ⟨#[]⟩) 1 16 Try.underlying48 hi0 hz0 hz1 hz2 rfl (by decide) _ _ _ rfl (own_alloc ho2 _) ⟨wr.heap.size, 0, none⟩ 1 1 [.string D] rfl rfl (cell_one_new _ _ _) ?c2 ?c3 ?c4 ?c5 ?_)
        case c2 => simp [Value.oneCell']
        case c3 => unfold maxLen; omega
        case c4 => omega
        case c5 => first | omega | (simp; omega) | (simp; done)
        case _ =>
          intro v4 w4 h4 hg4 _
          have ho4 : OwnS 9 1 tcell w4 w.heap.size v4 (P ++ [T]) := by
            unfold OwnS
            rw [List.length_append, strip_snoc, HTX.out]
            exact h4
          have hb4 : Below w.heap.size (wr.alloc (.cells #[.string D] 9)) w4 := (Below.refl _ _).grown hg4 (by simp; omega) (fun q hq => (hlow q hq).1)
          have hb5 := (hb.alloc hz (.cells #[.string D] 9)).trans hb4
          clear h4 hg4 hb4 hb ho ho2 hlow
          go_wp2
          go_roundw
          case rel => exact ⟨k + 1, k + 1, P ++ [T], by go_num, by go_num, ho4, by rw [List.length_append, List.length_singleton]; omega, Nat.le_refl _, by omega, HN, hb5⟩
          case measure => simp [intOf]; omega
      · have hnb : ((S[k].toNat : Int) == cz) = false := by
          rw [HCZ.out]
          simp only [beq_eq_false_iff_ne, ne_eq]
          intro e
          exact hne (UInt8.toNat_inj.1 (by omega))
        have HN := hid (splF_at hlt hbk hne HI.out)
        clear hne HI hlow ho2
        go_wp2
        go_roundw
        case rel => exact ⟨k + 1, b, P, by go_num, rfl, ho, by omega, by omega, by omega, HN, hb⟩
        case measure => simp [intOf]; omega
    · have hi : ¬ (k : Int) < (S.length : Int) := by omega
      have hke : k = S.length := by omega
      have HE := hid (by have := HI.out; rw [hke] at this; exact splF_end this : P ++ [(S.drop b).take (S.length - b)] = spl c S)
      have hbi : (b : Int) ≤ (S.length : Int) := by omega
      have hPl : P.length ≤ 4194304 := by omega
      clear HI hke hk hP
      rw [tail_take] at HE
      obtain ⟨T, hT⟩ : ∃ T, T = S.drop b := ⟨_, rfl⟩
      have HT := hid (show (ByteArray.mk S.toArray).extract b S.length = ByteArray.mk T.toArray by rw [hT, ByteArray.extract_mk, tail_take])
      rw [← hT] at HE
      obtain ⟨D, hD⟩ : ∃ D, D = (ByteArray.mk S.toArray).extract b S.length := ⟨_, rfl⟩
      have HTX := hid (show tcell T = [.string D] by rw [hD, HT.out]; rfl)
      have hD' := hD.symm
      clear hD HT hT
      go_wp2_with (at_builtin; refine wpList_append_own _ rfl _ _ 48 rfl w.heap.size 9 i0 (.string ⟨#[]⟩) 1 16 Try.underlying48 hi0 hz0 hz1 hz2 rfl (by decide) _ _ _ rfl (own_alloc ho2 _) ⟨wr.heap.size, 0, none⟩ 1 1 [.string D] rfl rfl (cell_one_new _ _ _) ?d2 ?d3 ?d4 ?d5 ?_)
      case d2 => simp [Value.oneCell']
      case d3 => unfold maxLen; omega
      case d4 => omega
      case d5 => first | omega | (simp; omega) | (simp; done)
      case _ =>
        intro v4 w4 h4 hg4 _
        have ho4 : OwnS 9 1 tcell w4 w.heap.size v4 (P ++ [T]) := by
          unfold OwnS
          rw [List.length_append, strip_snoc, HTX.out]
          exact h4
        have hb4 : Below w.heap.size (wr.alloc (.cells #[.string D] 9)) w4 := (Below.refl _ _).grown hg4 (by simp; omega) (fun q hq => (hlow q hq).1)
        have hb5 := (hb.alloc hz (.cells #[.string D] 9)).trans hb4
        clear h4 hg4 hb4 hb ho ho2 hlow
        rw [HE.out] at ho4
        go_wp2
        go_ret
        exact ⟨_, rfl, ho4, hb5⟩

set_option maxHeartbeats 4000000 in
set_option maxRecDepth 16384 in
theorem parseInt_any (l : List UInt8) (w : World) (hl : l.length ≤ 4194304) :
    Calls Try.prog 41 #[tx l] w fun e w' => e = .returned (.int .i64 (num l)) ∧ Below w.heap.size w w' := by
  have HLN := hid hl
  clear hl
  unfold tx
  by_cases h1 : l.length < 1
  · have E := hid (num_short h1)
    have h2 : ((l.length : Int) == 0) = true := by simp only [beq_iff_eq]; omega
    clear h1
    go_enter Try.func41, Try.ntmps41
    go_wp2
    go_ret
    exact ⟨ret_int E.out.symm, Below.refl _ _⟩
  by_cases h4 : 4 < l.length
  · have E := hid (num_long h4)
    have h2 : ((l.length : Int) == 0) = false := by simp only [beq_eq_false_iff_ne, ne_eq]; omega
    have h3 : (l.length : Int) > 4 := by omega
    clear h1 h4
    go_enter Try.func41, Try.ntmps41
    go_wp2
    go_ret
    exact ⟨ret_int E.out.symm, Below.refl _ _⟩
  have h2 : ((l.length : Int) == 0) = false := by simp only [beq_eq_false_iff_ne, ne_eq]; omega
  have h3 : ¬ (l.length : Int) > 4 := by omega
  have hp : 1 ≤ l.length := by omega
  have hl4 : l.length ≤ 4 := by omega
  have HNO := hid (fun (hd : ∀ x ∈ l, Dig x) (e : dec (valN l) ≠ l) => (num_no (fun q => e ((dec_iff hp hd).2 q.2.2)) : num l = -1))
  have HYES := hid (fun (hd : ∀ x ∈ l, Dig x) (e : dec (valN l) = l) => (num_yes ⟨⟨hp, hl4⟩, hd, (dec_iff hp hd).1 e⟩ : num l = valN l))
  have HV := hid (fun k (hd : ∀ x ∈ l.take k, Dig x) => valN_small (l := l.take k) (by rw [List.length_take]; omega) hd)
  have HSG := hid (fun k hk h => num_sign (l := l) (k := k) hk h)
  clear h1 h4 HLN hp
  go_enter Try.func41, Try.ntmps41
  go_wp2
  go_loop [3, 4] (fun v i => ∃ k : Nat, k ≤ l.length ∧ i = .int .i64 k ∧ v = .int .i64 (valN (l.take k) : Int) ∧ Hid (∀ x ∈ l.take k, Dig x)) (fun _ i => l.length - (intOf i).toNat)
  case atStart => exact ⟨0, Nat.zero_le _, rfl, rfl, hid (by simp)⟩
  case round =>
    obtain ⟨k, hk, rfl, rfl, HD⟩ := hrel
    by_cases hlt : k < l.length
    · have hi : (k : Int) < (l.length : Int) := by omega
      have hk0 : (0 : Int) ≤ (k : Int) := by omega
      have hat := byte_at hlt
      have hwx : IntKind.i64.wrap (l[k].toNat : Int) = (l[k].toNat : Int) := by
        have := l[k].toNat_lt
        rw [IntKind.wrap_i64]; omega
      by_cases hd : Dig l[k]
      · have HD2 := hid (dig_succ hlt HD.out hd)
        have HT := hid (valN_take hlt)
        have hv := HV.out k HD.out
        have HIN := hid (inB_iff.2 ⟨by have := hd.1; omega, by have := hd.2; omega⟩ : inB (l[k].toNat : Int) 48 57 = true)
        have hdd := hd.2
        have hd1 := hd.1
        obtain ⟨V, hV⟩ : ∃ V : Nat, V = valN (l.take k) := ⟨_, rfl⟩
        rw [← hV] at hv HT ⊢
        have hw1 : IntKind.i64.wrap (10 * (V : Int)) = 10 * (V : Int) := by rw [IntKind.wrap_i64]; omega
        have hw2 : IntKind.i64.wrap (10 * (V : Int) + (l[k].toNat : Int)) = 10 * (V : Int) + (l[k].toNat : Int) := by rw [IntKind.wrap_i64]; omega
        have hw3 : IntKind.i64.wrap (10 * (V : Int) + (l[k].toNat : Int) - 48) = 10 * (V : Int) + (l[k].toNat : Int) - 48 := by rw [IntKind.wrap_i64]; omega
        have HR := hid (show 10 * (V : Int) + (l[k].toNat : Int) - 48 = ((valN (l.take (k + 1)) : Nat) : Int) by rw [HT.out]; omega)
        clear hd hV hdd hd1 HT
        go_wp2_with fail
        with_reducible refine (inRange_any _ _ _ _).mono ?_
        rintro e w' ⟨he, rfl⟩
        rw [HIN.out] at he
        subst he
        go_wp2
        go_round
        case rel => exact ⟨k + 1, by omega, by go_num, by rw [← HR.out], HD2⟩
        case measure => simp [intOf]; omega
      · have E := hid (HSG.out k hlt hd)
        have HIN := hid (Bool.eq_false_iff.2 fun e => hd ⟨by have := inB_iff.1 e; omega, by have := inB_iff.1 e; omega⟩ : inB (l[k].toNat : Int) 48 57 = false)
        clear hd
        go_wp2_with fail
        with_reducible refine (inRange_any _ _ _ _).mono ?_
        rintro e w' ⟨he, rfl⟩
        rw [HIN.out] at he
        subst he
        go_wp2
        go_ret
        exact ⟨ret_int E.out.symm, Below.refl _ _⟩
    · have hi : ¬ (k : Int) < (l.length : Int) := by omega
      have hd := HD.out
      have hv := HV.out k HD.out
      rw [List.take_of_length_le (by omega)] at hd hv ⊢
      have hv9 : valN l ≤ 1000000000 := by omega
      by_cases he : dec (valN l) = l
      · have E := hid (HYES.out hd he)
        have HEQ := hid he
        have hnb : (!(l == l)) = false := by simp
        clear hd he hv
        obtain ⟨V, hV⟩ : ∃ V : Nat, V = valN l := ⟨_, rfl⟩
        rw [← hV] at hv9 E HEQ ⊢
        clear hV
        go_wp2_with fail
        with_reducible refine (decimal_any V _ hv9).mono ?_
        rintro e w2 ⟨he, hb⟩
        rw [HEQ.out] at he
        subst he
        unfold tx
        go_wp2
        go_ret
        exact ⟨ret_int E.out.symm, hb⟩
      · have E := hid (HNO.out hd he)
        obtain ⟨V, hV⟩ : ∃ V : Nat, V = valN l := ⟨_, rfl⟩
        rw [← hV] at hv9 he ⊢
        obtain ⟨D, hD⟩ : ∃ D, D = dec V := ⟨_, rfl⟩
        have HEQ := hid hD.symm
        have hnb : (D == l) = false := by rw [hD]; simpa using he
        clear hd he hv hV hD
        go_wp2_with fail
        with_reducible refine (decimal_any V _ hv9).mono ?_
        rintro e w2 ⟨he, hb⟩
        rw [HEQ.out] at he
        subst he
        unfold tx
        go_wp2
        go_ret
        exact ⟨ret_int E.out.symm, hb⟩

end Go.Proofs.Ytehdbllpiokbnab

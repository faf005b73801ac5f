/-
  What the program's functions answer that cut a text at a sign and that read a number. Condition: the text is at most 2^22 bytes long.
-/
import Derived.Test.YtehdbllpiokbnabTxtC
import Derived.Test.YtehdbllpiokbnabTxtPMath

namespace Go.Proofs.Ytehdbllpiokbnab
open Go.RowKit Txt

def splB (S : List UInt8) (c : UInt8) (m : Nat) : Bool := decide (S = [] ∨ (spl c S).length ≤ m)
def splT (S : List UInt8) (c : UInt8) (m : Nat) : List (List UInt8) := if S = [] then [] else if (spl c S).length ≤ m then spl c S else []
theorem splT_nil (c : UInt8) (m : Nat) : splT [] c m = [] := if_pos rfl
theorem splB_nil (c : UInt8) (m : Nat) : splB [] c m = true := by simp [splB]
theorem splT_yes {S : List UInt8} {c : UInt8} {m : Nat} (h : S ≠ []) (hm : (spl c S).length ≤ m) : splT S c m = spl c S ∧ splB S c m = true := ⟨by rw [splT, if_neg h, if_pos hm], by simp [splB, hm]⟩
theorem splT_no {S : List UInt8} {c : UInt8} {m : Nat} (h : S ≠ []) (hm : ¬ (spl c S).length ≤ m) : splT S c m = [] ∧ splB S c m = false := ⟨by rw [splT, if_neg h, if_neg hm], by simp [splB, hm, h]⟩
/-- A byte of a text. -/
theorem byte_at {S : List UInt8} {k : Nat} (hk : k < S.length) : (ByteArray.mk S.toArray)[k]'(by simpa [ByteArray.size] using hk) = S[k] := rfl
set_option maxHeartbeats 4000000 in
set_option maxRecDepth 16384 in
theorem splitText_any (S : List UInt8) (c : UInt8) (cz : Int) (m : Nat) (w : World) (hcz : cz = (c.toNat : Int)) (hS : S.length ≤ 4194304) (hm : m ≤ 1000) :
    Calls Try.prog 29 #[tx S, .int .u8 cz, .int .i64 (m : Int)] w fun e w' => ∃ v, e = .returned (.tuple #[v, .bool (splB S c m)]) ∧ OwnS 9 1 tcell w' w.heap.size v (splT S c m) ∧ Below w.heap.size w w' := by
  obtain ⟨i0, hi0, hz0, hz1, hz2⟩ := info_parts strInfo
  by_cases h0 : S = []
  · subst h0
    have E := hid (splB_nil c m)
    have E2 := hid (splT_nil c m)
    unfold tx
    go_enter Try.func29, Try.ntmps29
    go_wp2
    go_ret2
    refine ⟨_, by rw [E.out]; rfl, ?_, Below.refl _ _⟩
    rw [E2.out]; exact OwnS.none_ _ _
  · have hS0 : (S == []) = false := by simpa using h0
    have HYES := hid (fun h => splT_yes (c := c) (m := m) h0 h)
    have HNO := hid (fun h => splT_no (c := c) (m := m) h0 h)
    have HL := hid (fun P cur l => splF_len c l P cur)
    have HSL := hid hS
    have HCZ := hid hcz
    clear h0 hS hcz
    unfold tx
    go_enter Try.func29, Try.ntmps29
    go_wp2
    go_loopw [8, 9, 10] (fun v f i wr => ∃ (k b : Nat) (P : List (List UInt8)), i = .int .i64 k ∧ f = .int .i64 b ∧ OwnS 9 1 tcell wr w.heap.size v P ∧ P.length ≤ m ∧ b ≤ k ∧ ((k ≤ S.length ∧ Hid (splF c P ((S.drop b).take (k - b)) (S.drop k) = spl c S)) ∨ (k = S.length + 1 ∧ Hid (P = spl c S))) ∧ Below w.heap.size w wr) (fun _ _ i _ => S.length + 1 - (intOf i).toNat)
    case atStart => exact ⟨0, 0, [], rfl, rfl, OwnS.none_ _ _, Nat.zero_le _, Nat.le_refl _, .inl ⟨Nat.zero_le _, hid (by simp [spl])⟩, Below.refl _ _⟩
    case round =>
      obtain ⟨k, b, P, rfl, rfl, ho, hP, hbk, hcase, hb⟩ := hrel
      have hSL := HSL.out
      rcases hcase with ⟨hk, HI⟩ | ⟨hk, HI⟩
      · have hi : (k : Int) ≤ (S.length : Int) := by omega
        by_cases hother : ∃ h : k < S.length, S[k] ≠ c
        · obtain ⟨hlt, hne⟩ := hother
          have hi2 : (k : Int) < (S.length : Int) := by omega
          have hk0 : (0 : Int) ≤ (k : Int) := by omega
          have HN := hid (splF_at hlt hbk hne HI.out)
          have hnb : ((S[k].toNat : Int) != cz) = true := by
            rw [HCZ.out]
            simp only [bne_iff_ne, ne_eq]
            intro e
            exact hne (UInt8.toNat_inj.1 (by omega))
          have hat := byte_at hlt
          clear hne
          go_wp2
          go_roundw
          case rel => exact ⟨k + 1, b, P, by go_num, rfl, ho, hP, by omega, .inl ⟨by omega, HN⟩, hb⟩
          case measure => simp [intOf]; omega
        · have hstop : ¬ ((k : Int) < (S.length : Int)) ∨ ∃ h : k < S.length, S[k] = c := by
            by_cases hlt : k < S.length
            · exact .inr ⟨hlt, Decidable.byContradiction fun e => hother ⟨hlt, e⟩⟩
            · exact .inl (by omega)
          clear hother
          by_cases hfull : P.length = m
          · have hfb : ((P.length : Int) == (m : Int)) = true := by rw [hfull]; simp
            have hbig : ¬ (spl c S).length ≤ m := by
              have := HL.out P ((S.drop b).take (k - b)) (S.drop k)
              rw [HI.out] at this
              omega
            have E := HNO.out hbig
            have E1 := hid E.1
            have E2 := hid E.2
            obtain ⟨A, c1, rfl, _, _, _⟩ := OwnS.form ho
            clear E hfull hbig HI
            rcases hstop with hi2 | ⟨hlt, heq⟩
            · go_wp2
              go_ret2
              refine ⟨_, by rw [E2.out]; rfl, ?_, hb⟩
              rw [E1.out]; exact OwnS.none_ _ _
            · have hi2 : (k : Int) < (S.length : Int) := by omega
              have hk0 : (0 : Int) ≤ (k : Int) := by omega
              have hnb : ((S[k].toNat : Int) != cz) = false := by
                rw [HCZ.out, heq]; simp
              have hat := byte_at hlt
              clear heq
              go_wp2
              go_ret2
              refine ⟨_, by rw [E2.out]; rfl, ?_, hb⟩
              rw [E1.out]; exact OwnS.none_ _ _
          · have hfb : ((P.length : Int) == (m : Int)) = false := by
              simp only [beq_eq_false_iff_ne, ne_eq]; omega
            obtain ⟨A, c1, rfl, _, _, _⟩ := OwnS.form ho
            have HNX : (k + 1 ≤ S.length ∧ Hid (splF c (P ++ [(S.drop b).take (k - b)]) ((S.drop (k + 1)).take (k + 1 - (k + 1))) (S.drop (k + 1)) = spl c S)) ∨ (k + 1 = S.length + 1 ∧ Hid (P ++ [(S.drop b).take (k - b)] = spl c S)) := by
              rcases hstop with e | ⟨hlt, heq⟩
              · have e2 : k = S.length := by omega
                exact .inr ⟨by omega, hid (by rw [e2]; exact splF_end (by rw [← e2]; rw [e2]; have := HI.out; rw [e2] at this; exact this))⟩
              · exact .inl ⟨hlt, hid (splF_cut hlt heq HI.out)⟩
            have hstop2 : ¬ ((k : Int) < (S.length : Int)) ∨ ∃ h : k < S.length, (S[k].toNat : Int) = cz := by
              rcases hstop with e | ⟨hlt, heq⟩
              · exact .inl e
              · exact .inr ⟨hlt, by rw [HCZ.out, heq]⟩
            clear hstop HI
            have HNX := hid HNX
            have HFB := hid hfb
            rcases hstop2 with hi2 | ⟨hlt, heq⟩
            · skip
              have hbi : (b : Int) ≤ (k : Int) := by omega
              have hb0 : (0 : Int) ≤ (b : Int) := by omega
              have hz := hb.size
              have hlow := ho.lt
              have hPm : P.length ≤ 1000 := by omega
              obtain ⟨T, hT⟩ : ∃ T, T = (S.drop b).take (k - b) := ⟨_, rfl⟩
              have HT := hid (show (ByteArray.mk S.toArray).extract b k = ByteArray.mk T.toArray by rw [hT]; exact ByteArray.extract_mk S b k)
              have ho2 := ho
              unfold OwnS at ho2
              have HPC := hid hT.symm
              clear hT
              obtain ⟨D, hD⟩ : ∃ D, D = (ByteArray.mk S.toArray).extract b k := ⟨_, rfl⟩
              have HTX := hid (show tcell T = [.string D] by rw [hD, HT.out]; rfl)
              have hD' := hD.symm
              clear hD HT
              go_wp2_with (at_builtin; refine wpList_append_own _ rfl _ _ 48 rfl w.heap.size 9 i0 (.string ⟨#[]⟩) 1 16 Try.underlying48 hi0 hz0 hz1 hz2 rfl (by decide) _ _ _ rfl (own_alloc ho2 _) ⟨wr.heap.size, 0, none⟩ 1 1 [.string D] rfl rfl (cell_one_new _ _ _) ?c2 ?c3 ?c4 ?c5 ?_)
              case c2 => simp [Value.oneCell']
              case c3 => unfold maxLen; omega
              case c4 => omega
              case c5 => first | omega | (simp; omega) | (simp; done)
              case _ =>
                intro v4 w4 h4 hg4 _
                have ho4 : OwnS 9 1 tcell w4 w.heap.size v4 (P ++ [T]) := by
                  unfold OwnS
                  rw [List.length_append, strip_snoc, HTX.out]
                  exact h4
                have hb4 : Below w.heap.size (wr.alloc (.cells #[.string D] 9)) w4 := (Below.refl _ _).grown hg4 (by simp; omega) (fun q hq => (hlow q hq).1)
                have hb5 := (hb.alloc hz (.cells #[.string D] 9)).trans hb4
                clear h4 hg4 hb4 hb ho ho2 hlow
                go_wp2
                go_roundw
                case rel => exact ⟨k + 1, k + 1, P ++ [T], by go_num, by go_num, ho4, by rw [List.length_append, List.length_singleton]; omega, Nat.le_refl _, (by rw [← HPC.out]; exact HNX.out), hb5⟩
                case measure => simp [intOf]; omega
            · have hi2 : (k : Int) < (S.length : Int) := by omega
              have hk0 : (0 : Int) ≤ (k : Int) := by omega
              have hnb : ((S[k].toNat : Int) != cz) = false := by
                rw [heq]; simp
              have hat := byte_at hlt
              clear heq
              have hbi : (b : Int) ≤ (k : Int) := by omega
              have hb0 : (0 : Int) ≤ (b : Int) := by omega
              have hz := hb.size
              have hlow := ho.lt
              have hPm : P.length ≤ 1000 := by omega
              obtain ⟨T, hT⟩ : ∃ T, T = (S.drop b).take (k - b) := ⟨_, rfl⟩
              have HT := hid (show (ByteArray.mk S.toArray).extract b k = ByteArray.mk T.toArray by rw [hT]; exact ByteArray.extract_mk S b k)
              have ho2 := ho
              unfold OwnS at ho2
              have HPC := hid hT.symm
              clear hT
              obtain ⟨D, hD⟩ : ∃ D, D = (ByteArray.mk S.toArray).extract b k := ⟨_, rfl⟩
              have HTX := hid (show tcell T = [.string D] by rw [hD, HT.out]; rfl)
              have hD' := hD.symm
              clear hD HT
              go_wp2_with (at_builtin; refine wpList_append_own _ rfl _ _ 48 rfl w.heap.size 9 i0 (.string ⟨#[]⟩) 1 16 Try.underlying48 hi0 hz0 hz1 hz2 rfl (by decide) _ _ _ rfl (own_alloc ho2 _) ⟨wr.heap.size, 0, none⟩ 1 1 [.string D] rfl rfl (cell_one_new _ _ _) ?c2 ?c3 ?c4 ?c5 ?_)
              case c2 => simp [Value.oneCell']
              case c3 => unfold maxLen; omega
              case c4 => omega
              case c5 => first | omega | (simp; omega) | (simp; done)
              case _ =>
                intro v4 w4 h4 hg4 _
                have ho4 : OwnS 9 1 tcell w4 w.heap.size v4 (P ++ [T]) := by
                  unfold OwnS
                  rw [List.length_append, strip_snoc, HTX.out]
                  exact h4
                have hb4 : Below w.heap.size (wr.alloc (.cells #[.string D] 9)) w4 := (Below.refl _ _).grown hg4 (by simp; omega) (fun q hq => (hlow q hq).1)
                have hb5 := (hb.alloc hz (.cells #[.string D] 9)).trans hb4
                clear h4 hg4 hb4 hb ho ho2 hlow
                go_wp2
                go_roundw
                case rel => exact ⟨k + 1, k + 1, P ++ [T], by go_num, by go_num, ho4, by rw [List.length_append, List.length_singleton]; omega, Nat.le_refl _, (by rw [← HPC.out]; exact HNX.out), hb5⟩
                case measure => simp [intOf]; omega
      · have hi : ¬ (k : Int) ≤ (S.length : Int) := by omega
        have E := HYES.out (by rw [← HI.out]; exact hP)
        have E1 := hid E.1
        have E2 := hid E.2
        clear E hk
        obtain ⟨A, c1, rfl, _, _, _⟩ := OwnS.form ho
        rw [show spl c S = P from HI.out.symm] at E1
        go_wp2
        go_ret2
        refine ⟨_, by rw [E2.out]; rfl, ?_, hb⟩
        rw [E1.out]; exact ho

theorem splitText_z (S : List UInt8) (c : UInt8) (cz mz : Int) (m : Nat) (w : World) (hcz : cz = (c.toNat : Int)) (hmz : mz = (m : Int)) (hS : S.length ≤ 4194304) (hm : m ≤ 1000) :
    Calls Try.prog 29 #[tx S, .int .u8 cz, .int .i64 mz] w fun e w' => ∃ v, e = .returned (.tuple #[v, .bool (splB S c m)]) ∧ OwnS 9 1 tcell w' w.heap.size v (splT S c m) ∧ Below w.heap.size w w' := by
  subst hmz; exact splitText_any S c cz m w hcz hS hm

end Go.Proofs.Ytehdbllpiokbnab

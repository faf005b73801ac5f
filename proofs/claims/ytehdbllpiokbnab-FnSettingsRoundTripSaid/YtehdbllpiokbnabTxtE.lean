/-
  What the model's FormatSettings answers. Condition: the settings lie in memory.
-/
import Derived.Test.YtehdbllpiokbnabTxtD
import Derived.Deep.RegionHeld3

namespace Go.Proofs.Ytehdbllpiokbnab
open Go.RowKit Txt Stt

set_option maxHeartbeats 4000000 in
set_option maxRecDepth 16384 in
theorem sFormatSettings_any (A : Option Addr) (c : Nat) (l : List Stg) (w : World) (h : Sees w w.heap.size A (strip stcl l)) (hn : l.length ≤ 4194304) :
    Calls Try.prog 18 #[.slice A l.length c] w fun e w' => e = .returned (tx (fmtS l)) ∧ Below w.heap.size w w' := by
  have HN := hid hn
  clear hn
  rcases hv : setsB l with _ | _
  · have E := hid (fmtS_no hv)
    have HV := hid hv
    clear hv
    go_enter Try.func18, Try.ntmps18
    go_wp2_with fail
    with_reducible refine (svalidSettings_any A c l _ h HN.out).mono ?_
    rintro e w1 ⟨he, hb1⟩
    rw [HV.out] at he
    subst he
    go_wp2
    go_ret
    exact ⟨by rw [E.out]; rfl, hb1⟩
  have E := hid (fmtS_yes hv)
  have HV := hid hv
  have HTL := hid (fun k => jn_len (setTs_len hv) k)
  have HOKS := hid ((setsB_iff.1 hv).1)
  clear hv
  go_enter Try.func18, Try.ntmps18
  go_wp2_with fail
  with_reducible refine (svalidSettings_any A c l _ h HN.out).mono ?_
  rintro e w1 ⟨he, hb1⟩
  rw [HV.out] at he
  subst he
  go_wp2
  go_loopw [3, 4] (fun v i wr => ∃ (k : Nat) (T : List UInt8), k ≤ l.length ∧ i = .int .i64 k ∧ v = .string (ByteArray.mk T.toArray) ∧ Hid (jn (setTs l) k = T) ∧ Below w.heap.size w wr) (fun _ i _ => l.length - (intOf i).toNat)
  case atStart => exact ⟨0, [], Nat.zero_le _, rfl, rfl, hid rfl, hb1⟩
  case round =>
    clear hb1
    obtain ⟨k, T, hk, rfl, rfl, HT, hb⟩ := hrel
    have hn := HN.out
    by_cases hlt : k < l.length
    · have hi : (k : Int) < (l.length : Int) := by omega
      have hi0 : (0 : Int) ≤ (k : Int) := by omega
      obtain ⟨b, o, rfl, hbl, e0, e1⟩ := (h.below hb).stg hlt
      have HAT := hid (setTs_at hlt)
      have hok := HOKS.out _ (List.getElem_mem hlt)
      obtain ⟨x, hx⟩ : ∃ x, x = l[k] := ⟨_, rfl⟩
      rw [← hx] at e0 e1 HAT hok
      obtain ⟨a, d, ea, ed, ha, hd, la, ld, es⟩ := setT_len hok
      rw [ea] at e0
      rw [ed] at e1
      rw [es] at HAT
      clear hx hok es ea ed
      obtain ⟨D1, hD1⟩ : ∃ D, D = dec a := ⟨_, rfl⟩
      obtain ⟨D2, hD2⟩ : ∃ D, D = dec d := ⟨_, rfl⟩
      have H1 := hid hD1
      have H2 := hid hD2
      rw [← hD1] at la HAT
      rw [← hD2] at ld HAT
      clear hD1 hD2
      have hT := HTL.out k
      rw [HT.out] at hT
      have ha9 : a ≤ 1000000000 := by omega
      have hd9 : d ≤ 1000000000 := by omega
      have hz := hb.size
      have hbd : Below w.heap.size w wr.drew := hb.drew
      have hlt1 : b < wr.drew.heap.size := Nat.lt_of_lt_of_le hbl hbd.size
      have hTl : T.length ≤ 25165830 := by omega
      obtain ⟨U, hU, hUl, HS⟩ : ∃ U, U = (if k = 0 then T else T ++ [44]) ∧ U.length ≤ 25165831 ∧ Hid (jn (setTs l) (k + 1) = U ++ D1 ++ [61] ++ D2) := by
        refine ⟨_, rfl, ?_, hid ?_⟩
        · split
          · omega
          · simp; omega
        · by_cases hk0 : k = 0
          · subst hk0
            rw [if_pos rfl, jn_one, HAT.out, ← HT.out, jn_zero]
            simp
          · rw [if_neg hk0, jn_succ _ hk0, HT.out, HAT.out]
            simp
      have hs1 : ¬ U.length + D1.length > 9223372036854775807 := by omega
      have hs2 : ¬ U.length + D1.length + 1 > 9223372036854775807 := by omega
      have hs3 : ¬ U.length + D1.length + 1 + D2.length > 9223372036854775807 := by omega
      have hs0 : ¬ T.length + 1 > 9223372036854775807 := by omega
      have HK := hid (fun (q : Unit) => hk)
      rcases Nat.eq_zero_or_pos k with hk0 | hk0
      · have hkg : ¬ (k : Int) > 0 := by omega
        rw [if_pos hk0] at hU
        subst hU
        clear hk0 hTl hT hs0
        go_wp2_with fail
        go_region_held3 (fun w' => w'.cell? ⟨b, o + k * 2, none⟩ = some (.int .i64 (a : Int)) ∧ w'.cell? ⟨b, o + k * 2 + 1, none⟩ = some (.int .i64 (d : Int)))
          (first | with_reducible exact ⟨e0, e1⟩ | with_reducible exact ⟨p0, p1⟩ | with_reducible exact ⟨q0, q1⟩ | go_keep)
          (first
            | (go_at_call 49; (with_reducible refine (decimal_any a wr.drew ha9).mono ?_); rintro e w2 ⟨he, hb2⟩; rw [← H1.out] at he; subst he; have hbw2 := hbd.trans (hb2.mono hbd.size); have p0 := ((below_cell hb2).1 b (o + k * 2) hlt1).trans e0; have p1 := ((below_cell hb2).1 b (o + k * 2 + 1) hlt1).trans e1; have hlt2 := Nat.lt_of_lt_of_le hlt1 hb2.size; unfold tx)
            | (go_at_call 49; (with_reducible refine (decimal_any d w2 hd9).mono ?_); rintro e w3 ⟨he, hb3⟩; rw [← H2.out] at he; subst he; have hbw3 := hbw2.trans (hb3.mono hbw2.size); have q0 := ((below_cell hb3).1 b (o + k * 2) hlt2).trans p0; have q1 := ((below_cell hb3).1 b (o + k * 2 + 1) hlt2).trans p1; unfold tx)
            | fail)
        all_goals
          clear p0 p1 q0 q1 e0 e1
          go_wp2
          go_roundw
          case rel => exact ⟨k + 1, U ++ D1 ++ [61] ++ D2, by omega, by go_num, by rw [← tx_app, ← tx_app, ← tx_app], HS, hbw3⟩
          case measure => simp [intOf]; omega
      · have hkg : (k : Int) > 0 := by omega
        rw [if_neg (by omega)] at hU
        clear hk0 hTl hT
        go_wp2_with fail
        rw [show (ByteArray.mk #[44]) = ByteArray.mk ([44] : List UInt8).toArray from rfl]
        simp only [tx_app, ← hU]
        have HU := hid hU
        clear hU
        go_region_held3 (fun w' => w'.cell? ⟨b, o + k * 2, none⟩ = some (.int .i64 (a : Int)) ∧ w'.cell? ⟨b, o + k * 2 + 1, none⟩ = some (.int .i64 (d : Int)))
          (first | with_reducible exact ⟨e0, e1⟩ | with_reducible exact ⟨p0, p1⟩ | with_reducible exact ⟨q0, q1⟩ | go_keep)
          (first
            | (go_at_call 49; (with_reducible refine (decimal_any a wr.drew ha9).mono ?_); rintro e w2 ⟨he, hb2⟩; rw [← H1.out] at he; subst he; have hbw2 := hbd.trans (hb2.mono hbd.size); have p0 := ((below_cell hb2).1 b (o + k * 2) hlt1).trans e0; have p1 := ((below_cell hb2).1 b (o + k * 2 + 1) hlt1).trans e1; have hlt2 := Nat.lt_of_lt_of_le hlt1 hb2.size; unfold tx)
            | (go_at_call 49; (with_reducible refine (decimal_any d w2 hd9).mono ?_); rintro e w3 ⟨he, hb3⟩; rw [← H2.out] at he; subst he; have hbw3 := hbw2.trans (hb3.mono hbw2.size); have q0 := ((below_cell hb3).1 b (o + k * 2) hlt2).trans p0; have q1 := ((below_cell hb3).1 b (o + k * 2 + 1) hlt2).trans p1; unfold tx)
            | fail)
        all_goals
          clear p0 p1 q0 q1 e0 e1
          go_wp2
          go_roundw
          case rel => exact ⟨k + 1, U ++ D1 ++ [61] ++ D2, by omega, by go_num, by rw [← tx_app, ← tx_app, ← tx_app], HS, hbw3⟩
          case measure => simp [intOf]; omega
    · have hi : ¬ (k : Int) < (l.length : Int) := by omega
      have hke : k = l.length := by omega
      subst hke
      go_wp2
      go_ret
      exact ⟨by rw [E.out, HT.out]; rfl, hb⟩

end Go.Proofs.Ytehdbllpiokbnab

/-
  The walk of the law FnSettingsText: at every code it returns true and changes nothing that was there. Conditions: none.
-/
import Derived.Test.YtehdbllpiokbnacLawTs
import Derived.Test.YtehdbllpiokbnacLawFrame
import Derived.BigQuiet
import Derived.Deep.RegionHeld3
namespace Go.Proofs.Ytehdbllpiokbnac
open Go.RowKit Txt Stt

set_option maxHeartbeats 8000000 in
set_option maxRecDepth 16384 in
theorem walkSettingsText (a : Option Addr) (len cap : Nat) (zs : List Int) (w : World) (hn : zs.length = len) (hc : len ≤ cap) (hcc : cap ≤ maxLen) (h : Sees w w.heap.size a (byts zs)) (hz : ∀ y ∈ zs, 0 ≤ y ∧ y ≤ 255) :
    Calls Try.prog 4 #[.slice a len cap] w fun e w' => e = .returned (.bool true) ∧ Below w.heap.size w w' := by
  have HE := hid hn
  have HC := hid hcc
  have HZ := hid hz
  clear hn hcc hz
  by_cases hbig : 1048576 < len
  · go_enter Try.func4, Try.ntmps4
    go_wp2
    go_ret
    exact ⟨rfl, Below.refl _ _⟩
  · go_enter Try.func4, Try.ntmps4
    go_wp2_with fail
    refine (drawFormatSettings_any _ _ _ _ _ h HZ.out HE.out hc (by omega) HC.out).mono ?_
    rintro e w2 ⟨A, c, l, rfl, dl⟩
    obtain ⟨T, hT⟩ : ∃ T, T = fmtS l := ⟨_, rfl⟩
    have HT := hid hT.symm
    have hTl : T.length ≤ 900 := by rw [hT]; exact fmtS_len l
    by_cases hne : T = []
    · skip
      have hTe : (T == []) = true := by simpa using hne
      clear hne hT
      go_wp2_with fail
      with_reducible refine (iFormatSettings_any A c l _ dl.sees dl.nT).mono ?_
      rintro e w3 ⟨he, hb⟩
      rw [HT.out] at he
      subst he
      unfold tx
      replace dl := dl.below hb
      clear hb
      go_wp2_with fail
      with_reducible refine (sFormatSettings_any A c l _ dl.sees dl.nT).mono ?_
      rintro e w4 ⟨he, hb⟩
      rw [HT.out] at he
      subst he
      unfold tx
      replace dl := dl.below hb
      clear hb
      go_wp2_with fail
      with_reducible refine (sFormatSettings_any A c l _ dl.sees dl.nT).mono ?_
      rintro e w5 ⟨he, hb⟩
      rw [HT.out] at he
      subst he
      unfold tx
      replace dl := dl.below hb
      clear hb
      go_wp2
      go_ret
      exact ⟨by first | rfl | (simp; done) | (simp; omega), dl.bel⟩
    · skip
      have hTe : (T == []) = false := by simpa using hne
      obtain ⟨hok, hl0⟩ := sfmt_ok (l := l) (by rw [← hT]; exact hne)
      have HC1 := hid (cnt_signs hok)
      have HC2 := hid (cnt_commas hok hl0)
      rw [← hT] at HC1 HC2
      have HSU := hid (fun k => cnt_le T k)
      have hln := dl.len
      have hwl : IntKind.i64.wrap ((l.length : Int) - 1) = (l.length : Int) - 1 := by rw [IntKind.wrap_i64]; omega
      clear hok hl0 hne hT
      go_wp2_with fail
      with_reducible refine (iFormatSettings_any A c l _ dl.sees dl.nT).mono ?_
      rintro e w3 ⟨he, hb⟩
      rw [HT.out] at he
      subst he
      unfold tx
      replace dl := dl.below hb
      clear hb
      go_wp2_with fail
      with_reducible refine (sFormatSettings_any A c l _ dl.sees dl.nT).mono ?_
      rintro e w4 ⟨he, hb⟩
      rw [HT.out] at he
      subst he
      unfold tx
      replace dl := dl.below hb
      clear hb
      go_wp2
      go_loop [5, 6, 7] (fun v1 v2 i => ∃ k : Nat, k ≤ T.length ∧ i = .int .i64 k ∧ v1 = .int .i64 (((T.take k).count 61 : Nat) : Int) ∧ v2 = .int .i64 (((T.take k).count 44 : Nat) : Int)) (fun _ _ i => T.length - (intOf i).toNat)
      case atStart => exact ⟨0, Nat.zero_le _, rfl, by simp, by simp⟩
      case round =>
        obtain ⟨k, hk, rfl, rfl, rfl⟩ := hrel
        by_cases hlt : k < T.length
        · skip
          have hi : (k : Int) < (T.length : Int) := by omega
          have hk0 : (0 : Int) ≤ (k : Int) := by omega
          have hat := byte_at hlt
          have n1 := HSU.out k 61
          have n2 := HSU.out k 44
          by_cases h61 : T[k] = 61
          · skip
            have hx := h61
            have b1 : ((T[k].toNat : Int) == 61) = true := byte_eq (c := 61) rfl hx
            have b2 : ((T[k].toNat : Int) == 44) = false := byte_ne (c := 44) rfl (by rw [hx]; decide)
            have D0 := hid (cnt_yes hlt hx)
            have D1 := hid (cnt_no hlt (c := 44) (by rw [hx]; decide))
            clear hx
            obtain ⟨q0, hq0⟩ : ∃ q, q = (T.take k).count 61 := ⟨_, rfl⟩
            rw [← hq0] at D0 n1 ⊢
            clear hq0
            have hw : IntKind.i64.wrap ((q0 : Int) + 1) = (q0 : Int) + 1 := by rw [IntKind.wrap_i64]; omega
            obtain ⟨q1, hq1⟩ : ∃ q, q = (T.take k).count 44 := ⟨_, rfl⟩
            rw [← hq1] at D1 n2 ⊢
            clear hq1
            go_wp2
            go_round
            case rel => exact ⟨k + 1, by omega, by go_num, by first | (rw [D0.out]; done) | (rw [D0.out]; simp), by first | (rw [D1.out]; done) | (rw [D1.out]; simp)⟩
            case measure => simp [intOf]; omega
          by_cases h44 : T[k] = 44
          · skip
            have hx := h44
            have b1 : ((T[k].toNat : Int) == 61) = false := byte_ne (c := 61) rfl (by rw [hx]; decide)
            have b2 : ((T[k].toNat : Int) == 44) = true := byte_eq (c := 44) rfl hx
            have D0 := hid (cnt_no hlt (c := 61) (by rw [hx]; decide))
            have D1 := hid (cnt_yes hlt hx)
            clear hx
            obtain ⟨q0, hq0⟩ : ∃ q, q = (T.take k).count 61 := ⟨_, rfl⟩
            rw [← hq0] at D0 n1 ⊢
            clear hq0
            obtain ⟨q1, hq1⟩ : ∃ q, q = (T.take k).count 44 := ⟨_, rfl⟩
            rw [← hq1] at D1 n2 ⊢
            clear hq1
            have hw : IntKind.i64.wrap ((q1 : Int) + 1) = (q1 : Int) + 1 := by rw [IntKind.wrap_i64]; omega
            go_wp2
            go_round
            case rel => exact ⟨k + 1, by omega, by go_num, by first | (rw [D0.out]; done) | (rw [D0.out]; simp), by first | (rw [D1.out]; done) | (rw [D1.out]; simp)⟩
            case measure => simp [intOf]; omega
          · skip
            have b1 : ((T[k].toNat : Int) == 61) = false := byte_ne (c := 61) rfl h61
            have b2 : ((T[k].toNat : Int) == 44) = false := byte_ne (c := 44) rfl h44
            have D0 := hid (cnt_no hlt h61)
            have D1 := hid (cnt_no hlt h44)
            clear h61 h44
            obtain ⟨q0, hq0⟩ : ∃ q, q = (T.take k).count 61 := ⟨_, rfl⟩
            rw [← hq0] at D0 n1 ⊢
            clear hq0
            obtain ⟨q1, hq1⟩ : ∃ q, q = (T.take k).count 44 := ⟨_, rfl⟩
            rw [← hq1] at D1 n2 ⊢
            clear hq1
            go_wp2
            go_round
            case rel => exact ⟨k + 1, by omega, by go_num, by first | (rw [D0.out]; done) | (rw [D0.out]; simp), by first | (rw [D1.out]; done) | (rw [D1.out]; simp)⟩
            case measure => simp [intOf]; omega
        · skip
          have hi : ¬ (k : Int) < (T.length : Int) := by omega
          rw [List.take_of_length_le (by omega), HC1.out, HC2.out]
          go_wp2
          go_ret
          exact ⟨by first | rfl | (simp; done) | (simp; omega), dl.bel⟩
end Go.Proofs.Ytehdbllpiokbnac

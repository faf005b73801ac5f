/-
  The walk of the law FnPoolText: at every code it returns true and changes nothing that was there. Conditions: none.
-/
import Derived.Test.YtehdbllpiokbnabLawTx
import Derived.Test.YtehdbllpiokbnabLawFrame
import Derived.BigQuiet
import Derived.Deep.RegionHeld3


namespace Go.Proofs.Ytehdbllpiokbnab
open Go.RowKit Txt Pol

set_option maxHeartbeats 8000000 in
set_option maxRecDepth 16384 in
theorem walkPoolText (a : Option Addr) (len cap : Nat) (zs : List Int) (w : World) (hn : zs.length = len) (hc : len ≤ cap) (hcc : cap ≤ maxLen) (h : Sees w w.heap.size a (byts zs)) (hz : ∀ y ∈ zs, 0 ≤ y ∧ y ≤ 255) :
    Calls Try.prog 5 #[.slice a len cap] w fun e w' => e = .returned (.bool true) ∧ Below w.heap.size w w' := by
  have HE := hid hn
  have HC := hid hcc
  have HZ := hid hz
  clear hn hcc hz
  by_cases hbig : 1048576 < len
  · go_enter Try.func5, Try.ntmps5
    go_wp2
    go_ret
    exact ⟨rfl, Below.refl _ _⟩
  · go_enter Try.func5, Try.ntmps5
    go_wp2_with fail
    refine (drawFormatPool_any _ _ _ _ _ h HZ.out HE.out hc (by omega) HC.out).mono ?_
    rintro e w2 ⟨A1, A2, A3, c1, c2, c3, p, rfl, dq⟩
    have dp := dq.ownk
    have hB : DB w w2 := dq.belw
    have hl7 := dq.2.2
    clear dq
    replace dp := dp.alloc (.cells #[.int .i64 p.mx, .slice A1 p.idle.length c1, .slice A2 p.held.length c2, .slice A3 p.wait.length c3] 26)
    replace hB := hB.alloc (.cells #[.int .i64 p.mx, .slice A1 p.idle.length c1, .slice A2 p.held.length c2, .slice A3 p.wait.length c3] 26)
    have ps := At.new w2 26 #[.int .i64 p.mx, .slice A1 p.idle.length c1, .slice A2 p.held.length c2, .slice A3 p.wait.length c3]
    obtain ⟨T, hT⟩ : ∃ T, T = fmtP p := ⟨_, rfl⟩
    have HT := hid hT.symm
    have hTl : T.length ≤ 900 := by rw [hT]; exact fmtP_len p
    by_cases hne : T = []
    · skip
      have hTe : (T == []) = true := by simpa using hne
      clear hne hT
      obtain ⟨ps0, ps1, ps2, ps3, psl, psf⟩ := ps.fourP
      go_wp2_with fail
      with_reducible refine (iFormatPool_any p A1 A2 A3 c1 c2 c3 _ dp.sees dp.i2 dp.h2 dp.w2).mono ?_
      rintro e w3 ⟨he, hb⟩
      rw [HT.out] at he
      subst he
      unfold tx
      replace dp := dp.below hb
      replace hB := hB.below hb
      replace ps := ps.below hb ps.lt
      clear hb
      clear ps0 ps1 ps2 ps3 psl psf
      obtain ⟨ps0, ps1, ps2, ps3, psl, psf⟩ := ps.fourP
      go_wp2_with fail
      with_reducible refine (sFormatPool_any p A1 A2 A3 c1 c2 c3 _ dp.sees dp.i2 dp.h2 dp.w2).mono ?_
      rintro e w4 ⟨he, hb⟩
      rw [HT.out] at he
      subst he
      unfold tx
      replace dp := dp.below hb
      replace hB := hB.below hb
      replace ps := ps.below hb ps.lt
      clear hb
      clear ps0 ps1 ps2 ps3 psl psf
      obtain ⟨ps0, ps1, ps2, ps3, psl, psf⟩ := ps.fourP
      go_wp2_with fail
      with_reducible refine (sFormatPool_any p A1 A2 A3 c1 c2 c3 _ dp.sees dp.i2 dp.h2 dp.w2).mono ?_
      rintro e w5 ⟨he, hb⟩
      rw [HT.out] at he
      subst he
      unfold tx
      replace dp := dp.below hb
      replace hB := hB.below hb
      replace ps := ps.below hb ps.lt
      clear hb
      clear ps0 ps1 ps2 ps3 psl psf
      obtain ⟨ps0, ps1, ps2, ps3, psl, psf⟩ := ps.fourP
      go_wp2
      go_ret
      exact ⟨by first | rfl | (simp; done) | (simp; omega), hB.bel⟩
    · skip
      have hTe : (T == []) = false := by simpa using hne
      have hok := fmt_ok (p := p) (by rw [← hT]; exact hne)
      have HC1 := hid (cnt_bars hok)
      have HC2 := hid (cnt_colons hok)
      have HC3 := hid (cnt_spaces hok)
      rw [← hT] at HC1 HC2 HC3
      have HSU := hid (fun k => cnt_le T k)
      clear hok hne hT
      obtain ⟨ps0, ps1, ps2, ps3, psl, psf⟩ := ps.fourP
      go_wp2_with fail
      with_reducible refine (iFormatPool_any p A1 A2 A3 c1 c2 c3 _ dp.sees dp.i2 dp.h2 dp.w2).mono ?_
      rintro e w3 ⟨he, hb⟩
      rw [HT.out] at he
      subst he
      unfold tx
      replace dp := dp.below hb
      replace hB := hB.below hb
      replace ps := ps.below hb ps.lt
      clear hb
      clear ps0 ps1 ps2 ps3 psl psf
      obtain ⟨ps0, ps1, ps2, ps3, psl, psf⟩ := ps.fourP
      go_wp2_with fail
      with_reducible refine (sFormatPool_any p A1 A2 A3 c1 c2 c3 _ dp.sees dp.i2 dp.h2 dp.w2).mono ?_
      rintro e w4 ⟨he, hb⟩
      rw [HT.out] at he
      subst he
      unfold tx
      replace dp := dp.below hb
      replace hB := hB.below hb
      replace ps := ps.below hb ps.lt
      clear hb
      clear ps0 ps1 ps2 ps3 psl psf
      obtain ⟨ps0, ps1, ps2, ps3, psl, psf⟩ := ps.fourP
      go_wp2
      go_loop [5, 6, 7, 8] (fun v1 v2 v3 i => ∃ k : Nat, k ≤ T.length ∧ i = .int .i64 k ∧ v1 = .int .i64 (((T.take k).count 124 : Nat) : Int) ∧ v2 = .int .i64 (((T.take k).count 58 : Nat) : Int) ∧ v3 = .int .i64 (((T.take k).count 32 : Nat) : Int)) (fun _ _ _ i => T.length - (intOf i).toNat)
      case atStart => exact ⟨0, Nat.zero_le _, rfl, by simp, by simp, by simp⟩
      case round =>
        obtain ⟨k, hk, rfl, rfl, rfl, rfl⟩ := hrel
        by_cases hlt : k < T.length
        · skip
          have hi : (k : Int) < (T.length : Int) := by omega
          have hk0 : (0 : Int) ≤ (k : Int) := by omega
          have hat := byte_at hlt
          have n1 := HSU.out k 124
          have n2 := HSU.out k 58
          have n3 := HSU.out k 32
          by_cases h124 : T[k] = 124
          · skip
            have hx := h124
            have b1 : ((T[k].toNat : Int) == 124) = true := byte_eq (c := 124) rfl hx
            have b2 : ((T[k].toNat : Int) == 58) = false := byte_ne (c := 58) rfl (by rw [hx]; decide)
            have b3 : ((T[k].toNat : Int) == 32) = false := byte_ne (c := 32) rfl (by rw [hx]; decide)
            have D0 := hid (cnt_yes hlt hx)
            have D1 := hid (cnt_no hlt (c := 58) (by rw [hx]; decide))
            have D2 := hid (cnt_no hlt (c := 32) (by rw [hx]; decide))
            clear hx
            obtain ⟨q0, hq0⟩ : ∃ q, q = (T.take k).count 124 := ⟨_, rfl⟩
            rw [← hq0] at D0 n1 ⊢
            clear hq0
            have hw : IntKind.i64.wrap ((q0 : Int) + 1) = (q0 : Int) + 1 := by rw [IntKind.wrap_i64]; omega
            obtain ⟨q1, hq1⟩ : ∃ q, q = (T.take k).count 58 := ⟨_, rfl⟩
            rw [← hq1] at D1 n2 ⊢
            clear hq1
            obtain ⟨q2, hq2⟩ : ∃ q, q = (T.take k).count 32 := ⟨_, rfl⟩
            rw [← hq2] at D2 n3 ⊢
            clear hq2
            go_wp2
            go_round
            case rel => exact ⟨k + 1, by omega, by go_num, by first | (rw [D0.out]; done) | (rw [D0.out]; simp), by first | (rw [D1.out]; done) | (rw [D1.out]; simp), by first | (rw [D2.out]; done) | (rw [D2.out]; simp)⟩
            case measure => simp [intOf]; omega
          by_cases h58 : T[k] = 58
          · skip
            have hx := h58
            have b1 : ((T[k].toNat : Int) == 124) = false := byte_ne (c := 124) rfl (by rw [hx]; decide)
            have b2 : ((T[k].toNat : Int) == 58) = true := byte_eq (c := 58) rfl hx
            have b3 : ((T[k].toNat : Int) == 32) = false := byte_ne (c := 32) rfl (by rw [hx]; decide)
            have D0 := hid (cnt_no hlt (c := 124) (by rw [hx]; decide))
            have D1 := hid (cnt_yes hlt hx)
            have D2 := hid (cnt_no hlt (c := 32) (by rw [hx]; decide))
            clear hx
            obtain ⟨q0, hq0⟩ : ∃ q, q = (T.take k).count 124 := ⟨_, rfl⟩
            rw [← hq0] at D0 n1 ⊢
            clear hq0
            obtain ⟨q1, hq1⟩ : ∃ q, q = (T.take k).count 58 := ⟨_, rfl⟩
            rw [← hq1] at D1 n2 ⊢
            clear hq1
            have hw : IntKind.i64.wrap ((q1 : Int) + 1) = (q1 : Int) + 1 := by rw [IntKind.wrap_i64]; omega
            obtain ⟨q2, hq2⟩ : ∃ q, q = (T.take k).count 32 := ⟨_, rfl⟩
            rw [← hq2] at D2 n3 ⊢
            clear hq2
            go_wp2
            go_round
            case rel => exact ⟨k + 1, by omega, by go_num, by first | (rw [D0.out]; done) | (rw [D0.out]; simp), by first | (rw [D1.out]; done) | (rw [D1.out]; simp), by first | (rw [D2.out]; done) | (rw [D2.out]; simp)⟩
            case measure => simp [intOf]; omega
          by_cases h32 : T[k] = 32
          · skip
            have hx := h32
            have b1 : ((T[k].toNat : Int) == 124) = false := byte_ne (c := 124) rfl (by rw [hx]; decide)
            have b2 : ((T[k].toNat : Int) == 58) = false := byte_ne (c := 58) rfl (by rw [hx]; decide)
            have b3 : ((T[k].toNat : Int) == 32) = true := byte_eq (c := 32) rfl hx
            have D0 := hid (cnt_no hlt (c := 124) (by rw [hx]; decide))
            have D1 := hid (cnt_no hlt (c := 58) (by rw [hx]; decide))
            have D2 := hid (cnt_yes hlt hx)
            clear hx
            obtain ⟨q0, hq0⟩ : ∃ q, q = (T.take k).count 124 := ⟨_, rfl⟩
            rw [← hq0] at D0 n1 ⊢
            clear hq0
            obtain ⟨q1, hq1⟩ : ∃ q, q = (T.take k).count 58 := ⟨_, rfl⟩
            rw [← hq1] at D1 n2 ⊢
            clear hq1
            obtain ⟨q2, hq2⟩ : ∃ q, q = (T.take k).count 32 := ⟨_, rfl⟩
            rw [← hq2] at D2 n3 ⊢
            clear hq2
            have hw : IntKind.i64.wrap ((q2 : Int) + 1) = (q2 : Int) + 1 := by rw [IntKind.wrap_i64]; omega
            go_wp2
            go_round
            case rel => exact ⟨k + 1, by omega, by go_num, by first | (rw [D0.out]; done) | (rw [D0.out]; simp), by first | (rw [D1.out]; done) | (rw [D1.out]; simp), by first | (rw [D2.out]; done) | (rw [D2.out]; simp)⟩
            case measure => simp [intOf]; omega
          · skip
            have b1 : ((T[k].toNat : Int) == 124) = false := byte_ne (c := 124) rfl h124
            have b2 : ((T[k].toNat : Int) == 58) = false := byte_ne (c := 58) rfl h58
            have b3 : ((T[k].toNat : Int) == 32) = false := byte_ne (c := 32) rfl h32
            have D0 := hid (cnt_no hlt h124)
            have D1 := hid (cnt_no hlt h58)
            have D2 := hid (cnt_no hlt h32)
            clear h124 h58 h32
            obtain ⟨q0, hq0⟩ : ∃ q, q = (T.take k).count 124 := ⟨_, rfl⟩
            rw [← hq0] at D0 n1 ⊢
            clear hq0
            obtain ⟨q1, hq1⟩ : ∃ q, q = (T.take k).count 58 := ⟨_, rfl⟩
            rw [← hq1] at D1 n2 ⊢
            clear hq1
            obtain ⟨q2, hq2⟩ : ∃ q, q = (T.take k).count 32 := ⟨_, rfl⟩
            rw [← hq2] at D2 n3 ⊢
            clear hq2
            go_wp2
            go_round
            case rel => exact ⟨k + 1, by omega, by go_num, by first | (rw [D0.out]; done) | (rw [D0.out]; simp), by first | (rw [D1.out]; done) | (rw [D1.out]; simp), by first | (rw [D2.out]; done) | (rw [D2.out]; simp)⟩
            case measure => simp [intOf]; omega
        · skip
          have hi : ¬ (k : Int) < (T.length : Int) := by omega
          rw [List.take_of_length_le (by omega), HC1.out, HC2.out, HC3.out]
          go_wp2
          go_ret
          exact ⟨by first | rfl | (simp; done) | (simp; omega), hB.bel⟩
end Go.Proofs.Ytehdbllpiokbnab

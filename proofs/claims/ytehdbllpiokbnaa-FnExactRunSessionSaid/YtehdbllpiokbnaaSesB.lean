/-
  What the model's functions answer that execute one command of a session. Condition: the desk's pool is valid and its lists lie in memory.
-/
import Derived.Test.YtehdbllpiokbnaaSesA
import Derived.Test.YtehdbllpiokbnaaTa
import Derived.Test.YtehdbllpiokbnaaPlR
import Derived.Test.YtehdbllpiokbnaaPlT
import Derived.Test.YtehdbllpiokbnaaPlQ
import Derived.Deep.RegionHeld3

namespace Go.Proofs.Ytehdbllpiokbnaa
open Go.RowKit Txt Pol Ses

/-- A desk after a step of a session, and what was said. -/
def DeskAns (F : Nat → Prop) (r : Pl × List UInt8) (D : Nat) (w : World) (e : Ending) (w' : World) : Prop := ∃ B1 B2 B3 d1 d2 d3, e = .returned (tx r.2) ∧ At w' D 84 #[.int .i64 r.1.mx, .slice B1 r.1.idle.length d1, .slice B2 r.1.held.length d2, .slice B3 r.1.wait.length d3] ∧ PolF w' F B1 B2 B3 d1 d2 d3 r.1 ∧ w.grownBy w' (some D)
set_option maxHeartbeats 8000000 in
set_option maxRecDepth 16384 in
theorem dAcquire_any (p : Pl) (A1 A2 A3 : Option Addr) (c1 c2 c3 : Nat) (D : Nat) (S : List UInt8) (F : Nat → Prop) (w : World) (hD : At w D 84 #[.int .i64 p.mx, .slice A1 p.idle.length c1, .slice A2 p.held.length c2, .slice A3 p.wait.length c3]) (hP : PolF w F A1 A2 A3 c1 c2 c3 p) (hF : ∀ b, F b → b < w.heap.size) (hFD : F D) (hok : Ok p) (hS : S.length ≤ 4194304) :
    Calls Try.prog 77 #[.pointer (some ⟨D, 0, none⟩), tx S] w (DeskAns F (rAcq p (num S)) D w) := by
  have h := hP.sees
  obtain ⟨k1, k2, k3⟩ := hP.2
  obtain ⟨L1, L2, L3⟩ := ok_2 hok
  obtain ⟨n, hn⟩ : ∃ n, n = num S := ⟨_, rfl⟩
  have HNS := hid hn.symm
  rw [← hn]
  clear hn
  obtain ⟨R, hR⟩ : ∃ R, R = acqR p n := ⟨_, rfl⟩
  have HR := hid hR.symm
  obtain ⟨V, hV⟩ : ∃ V, V = acqN p n := ⟨_, rfl⟩
  have HV := hid hV.symm
  obtain ⟨K, hK⟩ : ∃ K, K = acqB p n := ⟨_, rfl⟩
  have HK := hid hK.symm
  clear hK
  clear hR hV
  have c0 := fun w => parseInt_any S w hS
  unfold tx at c0
  rw [HNS.out] at c0
  have C0 := hid c0
  clear c0
  have hW0 := (Below.refl w.heap.size w).drew
  have hWz := ((Below.refl w.heap.size w).alloc (Nat.le_refl _) (.cells #[.int .i64 0, .slice none 0 0, .slice none 0 0, .slice none 0 0] 30)).drew
  have hDl := hD.lt
  have pz0 : At ((w.alloc (.cells #[.int .i64 0, .slice none 0 0, .slice none 0 0, .slice none 0 0] 30)).drew) w.heap.size 30 #[.int .i64 0, .slice none 0 0, .slice none 0 0, .slice none 0 0] := (At.newAt 30 #[.int .i64 0, .slice none 0 0, .slice none 0 0, .slice none 0 0] rfl).drew
  have nD : ¬ D = w.heap.size := Nat.ne_of_lt hDl
  have nD2 : ¬ w.heap.size = D := fun e => nD e.symm
  obtain ⟨a0, a1, a2, a3⟩ := four hD
  unfold tx
  go_enter Try.func77, Try.ntmps77
  go_upto_region 1 with fail
  go_cut [5, 6, 7] from 8 to 18 (fun v5 v6 v7 wx => ∃ (g8 : Nat) (B1 B2 B3 : Option Addr) (d1 d2 d3 : Nat), v5 = .pointer (some ⟨g8, 0, none⟩) ∧ v6 = .int .i64 V ∧ v7 = .bool K ∧ At wx g8 30 #[.int .i64 R.mx, .slice B1 R.idle.length d1, .slice B2 R.held.length d2, .slice B3 R.wait.length d3] ∧ OwnP wx w.heap.size B1 B2 B3 d1 d2 d3 R ∧ w.heap.size ≤ g8 ∧ Below w.heap.size w wx)
  case first =>
      go_region_held3 (fun w' => w'.cell? ⟨D, 0, none⟩ = some (.int .i64 p.mx) ∧ w'.cell? ⟨D, 1, none⟩ = some (.slice A1 p.idle.length c1) ∧ w'.cell? ⟨D, 2, none⟩ = some (.slice A2 p.held.length c2) ∧ w'.cell? ⟨D, 3, none⟩ = some (.slice A3 p.wait.length c3))
        (first | with_reducible exact ⟨a0, a1, a2, a3⟩ | with_reducible exact ⟨b0, b1, b2, b3⟩ | with_reducible exact ⟨e0, e1, e2, e3⟩ | go_keep)
        (first
          | (go_at_call 46; (with_reducible refine (C0.out _).mono ?_); rintro e wa ⟨rfl, hba⟩; have hWa := (by first | exact hW0.trans (hba.mono hW0.size) | exact hWz.trans (hba.mono hWz.size) : Below w.heap.size w wa); obtain ⟨b0, b1, b2, b3⟩ := four (hD.below hWa hDl); have nDa : ¬ D = wa.heap.size := Nat.ne_of_lt (Nat.lt_of_lt_of_le hDl hWa.size); have nDb : ¬ wa.heap.size = D := fun e => nDa e.symm; (try have pza := pz0.below hba (by simp)))
          | (go_at_call 86; refine (sAcquireConn_any p A1 A2 A3 c1 c2 c3 n _ (by first | exact h.on hWa | exact h.on (hWa.alloc hWa.size (.cells #[.int .i64 0, .slice none 0 0, .slice none 0 0, .slice none 0 0] 30))) k1 L1.out L2.out L3.out).mono ?_; rintro e wb ⟨B1, B2, B3, d1, d2, d3, he, ho, hbb⟩; rw [HR.out, HV.out, HK.out] at he; rw [HR.out] at ho; subst he; have hWb := (by first | exact hWa.trans (hbb.mono hWa.size) | exact (hWa.alloc hWa.size (.cells #[.int .i64 0, .slice none 0 0, .slice none 0 0, .slice none 0 0] 30)).trans (hbb.mono (hWa.alloc hWa.size (.cells #[.int .i64 0, .slice none 0 0, .slice none 0 0, .slice none 0 0] 30)).size) : Below w.heap.size w wb); have hob := (by first | exact ho.mono hWa.size | exact ho.mono (hWa.alloc hWa.size (.cells #[.int .i64 0, .slice none 0 0, .slice none 0 0, .slice none 0 0] 30)).size : OwnP wb w.heap.size B1 B2 B3 d1 d2 d3 R); obtain ⟨e0, e1, e2, e3⟩ := four (hD.below hWb hDl); (try (have pzb := pza.below hbb pza.lt; have pzc := pzb.cell; have pzf := pzb.frozen)); (try (have pzb := (At.newAt 30 #[.int .i64 0, .slice none 0 0, .slice none 0 0, .slice none 0 0] rfl : At (wa.alloc (.cells #[.int .i64 0, .slice none 0 0, .slice none 0 0, .slice none 0 0] 30)) wa.heap.size 30 #[.int .i64 0, .slice none 0 0, .slice none 0 0, .slice none 0 0]).below hbb (by simp); have hga := hWa.size; have pzc := pzb.cell; have pzf := pzb.frozen)))
          | fail)
      all_goals
        go_wp2_with fail
        go_meet
        first
          | exact ⟨_, B1, B2, B3, d1, d2, d3, rfl, rfl, rfl, (put4_at (.int .i64 R.mx) (.slice B1 R.idle.length d1) (.slice B2 R.held.length d2) (.slice B3 R.wait.length d3) pzb rfl).1, hob.past pzb (put4_at (.int .i64 R.mx) (.slice B1 R.idle.length d1) (.slice B2 R.held.length d2) (.slice B3 R.wait.length d3) pzb rfl).2, by first | exact Nat.le_refl _ | omega, below_put hWb (put4_at (.int .i64 R.mx) (.slice B1 R.idle.length d1) (.slice B2 R.held.length d2) (.slice B3 R.wait.length d3) pzb rfl).2 (by first | exact Nat.le_refl _ | omega) hWb.size⟩
          | exact ⟨wb.heap.size, B1, B2, B3, d1, d2, d3, rfl, rfl, rfl, At.new wb _ _, hob.alloc _, hWb.size, hWb.alloc hWb.size _⟩
  case rest =>
    obtain ⟨g8, B1, B2, B3, d1, d2, d3, rfl, rfl, rfl, pt, ho, hge, hBx⟩ := hcut
    have hDx := hD.below hBx hDl
    have hPx := hP.below hBx
    have hGx := grown_of_below hBx (some D)
    have hON := PolF.of_own ho hF
    clear hW0 hWz pz0 hD hP nD nD2 a0 a1 a2 a3 h C0
    obtain ⟨y0, y1, y2, y3, yl, yf⟩ := fourS hDx
    obtain ⟨t0, t1, t2, t3, tl, tf⟩ := fourS pt
    have n1 : ¬ D = g8 := by omega
    have n2 : ¬ g8 = D := by omega
    obtain ⟨hs, hgs⟩ := put4_at (.int .i64 R.mx) (.slice B1 R.idle.length d1) (.slice B2 R.held.length d2) (.slice B3 R.wait.length d3) hDx rfl
    have hGs := hGx.trans hgs
    have hONs := hON.grown hgs (fun b e => by injection e with e; subst e; exact hFD)

    cases K
    · have ER : Hid (rAcq p n = (p, tNo)) := hid (by unfold rAcq; rw [HK.out]; rfl)
      clear hs hgs hGs hON hONs ho pt
      go_wp2
      go_ret
      rw [ER.out]
      exact ⟨A1, A2, A3, c1, c2, c3, rfl, hDx, hPx, hGx⟩
    · have HRG := hid (acq_range HK.out)
      rw [HV.out] at HRG
      rcases HRG.out with hn | ⟨hn0, hn9⟩
      · have hneg : V < 0 := by omega
        have ER : Hid (rAcq p n = (R, tWait)) := hid (by unfold rAcq; rw [if_pos HK.out, HV.out, if_pos hn, HR.out])
        clear hn HRG hDx hON
        go_wp2
        go_ret
        rw [ER.out]
        exact ⟨B1, B2, B3, d1, d2, d3, rfl, hs, hONs, hGs⟩
      · obtain ⟨m, rfl, hm9, hml⟩ := text_at V hn0 hn9
        have hneg : ¬ (m : Int) < 0 := by omega
        have ER : Hid (rAcq p n = (R, dec m)) := hid (by unfold rAcq; rw [if_pos HK.out, HV.out, if_neg (by omega), HR.out, Int.toNat_natCast])
        obtain ⟨Q, hQ⟩ : ∃ Q, Q = dec m := ⟨_, rfl⟩
        rw [← hQ] at ER hml
        have HQ := hid hQ.symm
        have hs1 : ¬ 3 + Q.length > 9223372036854775807 := by omega
        clear hn0 hn9 HRG hON hQ
        go_wp2_with fail
        with_reducible refine (decimal_any m _ hm9).mono ?_
        rintro e wd ⟨he, hbd⟩
        rw [HQ.out] at he
        subst he
        unfold tx
        go_wp2
        go_ret
        rw [ER.out]
        exact ⟨B1, B2, B3, d1, d2, d3, rfl, hs.below hbd hs.lt, hONs.below hbd, hGs.trans (grown_of_below hbd (some D))⟩

set_option maxHeartbeats 8000000 in
set_option maxRecDepth 16384 in
theorem dRelease_any (p : Pl) (A1 A2 A3 : Option Addr) (c1 c2 c3 : Nat) (D : Nat) (S : List UInt8) (F : Nat → Prop) (w : World) (hD : At w D 84 #[.int .i64 p.mx, .slice A1 p.idle.length c1, .slice A2 p.held.length c2, .slice A3 p.wait.length c3]) (hP : PolF w F A1 A2 A3 c1 c2 c3 p) (hF : ∀ b, F b → b < w.heap.size) (hFD : F D) (hok : Ok p) (hS : S.length ≤ 4194304) :
    Calls Try.prog 78 #[.pointer (some ⟨D, 0, none⟩), tx S] w (DeskAns F (rRel p (num S)) D w) := by
  have h := hP.sees
  obtain ⟨k1, k2, k3⟩ := hP.2
  obtain ⟨L1, L2, L3⟩ := ok_2 hok
  obtain ⟨n, hn⟩ : ∃ n, n = num S := ⟨_, rfl⟩
  have HNS := hid hn.symm
  rw [← hn]
  clear hn
  obtain ⟨R, hR⟩ : ∃ R, R = relR p n := ⟨_, rfl⟩
  have HR := hid hR.symm
  obtain ⟨V, hV⟩ : ∃ V, V = relN p n := ⟨_, rfl⟩
  have HV := hid hV.symm
  obtain ⟨K, hK⟩ : ∃ K, K = relB p n := ⟨_, rfl⟩
  have HK := hid hK.symm
  clear hK
  clear hR hV
  have c0 := fun w => parseInt_any S w hS
  unfold tx at c0
  rw [HNS.out] at c0
  have C0 := hid c0
  clear c0
  have hW0 := (Below.refl w.heap.size w).drew
  have hWz := ((Below.refl w.heap.size w).alloc (Nat.le_refl _) (.cells #[.int .i64 0, .slice none 0 0, .slice none 0 0, .slice none 0 0] 30)).drew
  have hDl := hD.lt
  have pz0 : At ((w.alloc (.cells #[.int .i64 0, .slice none 0 0, .slice none 0 0, .slice none 0 0] 30)).drew) w.heap.size 30 #[.int .i64 0, .slice none 0 0, .slice none 0 0, .slice none 0 0] := (At.newAt 30 #[.int .i64 0, .slice none 0 0, .slice none 0 0, .slice none 0 0] rfl).drew
  have nD : ¬ D = w.heap.size := Nat.ne_of_lt hDl
  have nD2 : ¬ w.heap.size = D := fun e => nD e.symm
  obtain ⟨a0, a1, a2, a3⟩ := four hD
  unfold tx
  go_enter Try.func78, Try.ntmps78
  go_upto_region 1 with fail
  go_cut [5, 6, 7] from 8 to 18 (fun v5 v6 v7 wx => ∃ (g8 : Nat) (B1 B2 B3 : Option Addr) (d1 d2 d3 : Nat), v5 = .pointer (some ⟨g8, 0, none⟩) ∧ v6 = .int .i64 V ∧ v7 = .bool K ∧ At wx g8 30 #[.int .i64 R.mx, .slice B1 R.idle.length d1, .slice B2 R.held.length d2, .slice B3 R.wait.length d3] ∧ OwnP wx w.heap.size B1 B2 B3 d1 d2 d3 R ∧ w.heap.size ≤ g8 ∧ Below w.heap.size w wx)
  case first =>
      go_region_held3 (fun w' => w'.cell? ⟨D, 0, none⟩ = some (.int .i64 p.mx) ∧ w'.cell? ⟨D, 1, none⟩ = some (.slice A1 p.idle.length c1) ∧ w'.cell? ⟨D, 2, none⟩ = some (.slice A2 p.held.length c2) ∧ w'.cell? ⟨D, 3, none⟩ = some (.slice A3 p.wait.length c3))
        (first | with_reducible exact ⟨a0, a1, a2, a3⟩ | with_reducible exact ⟨b0, b1, b2, b3⟩ | with_reducible exact ⟨e0, e1, e2, e3⟩ | go_keep)
        (first
          | (go_at_call 46; (with_reducible refine (C0.out _).mono ?_); rintro e wa ⟨rfl, hba⟩; have hWa := (by first | exact hW0.trans (hba.mono hW0.size) | exact hWz.trans (hba.mono hWz.size) : Below w.heap.size w wa); obtain ⟨b0, b1, b2, b3⟩ := four (hD.below hWa hDl); have nDa : ¬ D = wa.heap.size := Nat.ne_of_lt (Nat.lt_of_lt_of_le hDl hWa.size); have nDb : ¬ wa.heap.size = D := fun e => nDa e.symm; (try have pza := pz0.below hba (by simp)))
          | (go_at_call 87; refine (sReleaseConn_any p A1 A2 A3 c1 c2 c3 n _ (by first | exact h.on hWa | exact h.on (hWa.alloc hWa.size (.cells #[.int .i64 0, .slice none 0 0, .slice none 0 0, .slice none 0 0] 30))) k3 k2 L1.out L2.out L3.out).mono ?_; rintro e wb ⟨B1, B2, B3, d1, d2, d3, he, ho, hbb⟩; rw [HR.out, HV.out, HK.out] at he; rw [HR.out] at ho; subst he; have hWb := (by first | exact hWa.trans (hbb.mono hWa.size) | exact (hWa.alloc hWa.size (.cells #[.int .i64 0, .slice none 0 0, .slice none 0 0, .slice none 0 0] 30)).trans (hbb.mono (hWa.alloc hWa.size (.cells #[.int .i64 0, .slice none 0 0, .slice none 0 0, .slice none 0 0] 30)).size) : Below w.heap.size w wb); have hob := (by first | exact ho.mono hWa.size | exact ho.mono (hWa.alloc hWa.size (.cells #[.int .i64 0, .slice none 0 0, .slice none 0 0, .slice none 0 0] 30)).size : OwnP wb w.heap.size B1 B2 B3 d1 d2 d3 R); obtain ⟨e0, e1, e2, e3⟩ := four (hD.below hWb hDl); (try (have pzb := pza.below hbb pza.lt; have pzc := pzb.cell; have pzf := pzb.frozen)); (try (have pzb := (At.newAt 30 #[.int .i64 0, .slice none 0 0, .slice none 0 0, .slice none 0 0] rfl : At (wa.alloc (.cells #[.int .i64 0, .slice none 0 0, .slice none 0 0, .slice none 0 0] 30)) wa.heap.size 30 #[.int .i64 0, .slice none 0 0, .slice none 0 0, .slice none 0 0]).below hbb (by simp); have hga := hWa.size; have pzc := pzb.cell; have pzf := pzb.frozen)))
          | fail)
      all_goals
        go_wp2_with fail
        go_meet
        first
          | exact ⟨_, B1, B2, B3, d1, d2, d3, rfl, rfl, rfl, (put4_at (.int .i64 R.mx) (.slice B1 R.idle.length d1) (.slice B2 R.held.length d2) (.slice B3 R.wait.length d3) pzb rfl).1, hob.past pzb (put4_at (.int .i64 R.mx) (.slice B1 R.idle.length d1) (.slice B2 R.held.length d2) (.slice B3 R.wait.length d3) pzb rfl).2, by first | exact Nat.le_refl _ | omega, below_put hWb (put4_at (.int .i64 R.mx) (.slice B1 R.idle.length d1) (.slice B2 R.held.length d2) (.slice B3 R.wait.length d3) pzb rfl).2 (by first | exact Nat.le_refl _ | omega) hWb.size⟩
          | exact ⟨wb.heap.size, B1, B2, B3, d1, d2, d3, rfl, rfl, rfl, At.new wb _ _, hob.alloc _, hWb.size, hWb.alloc hWb.size _⟩
  case rest =>
    obtain ⟨g8, B1, B2, B3, d1, d2, d3, rfl, rfl, rfl, pt, ho, hge, hBx⟩ := hcut
    have hDx := hD.below hBx hDl
    have hPx := hP.below hBx
    have hGx := grown_of_below hBx (some D)
    have hON := PolF.of_own ho hF
    clear hW0 hWz pz0 hD hP nD nD2 a0 a1 a2 a3 h C0
    obtain ⟨y0, y1, y2, y3, yl, yf⟩ := fourS hDx
    obtain ⟨t0, t1, t2, t3, tl, tf⟩ := fourS pt
    have n1 : ¬ D = g8 := by omega
    have n2 : ¬ g8 = D := by omega
    obtain ⟨hs, hgs⟩ := put4_at (.int .i64 R.mx) (.slice B1 R.idle.length d1) (.slice B2 R.held.length d2) (.slice B3 R.wait.length d3) hDx rfl
    have hGs := hGx.trans hgs
    have hONs := hON.grown hgs (fun b e => by injection e with e; subst e; exact hFD)

    cases K
    · have ER : Hid (rRel p n = (p, tNo)) := hid (by unfold rRel; rw [HK.out]; rfl)
      clear hs hgs hGs hON hONs ho pt
      go_wp2
      go_ret
      rw [ER.out]
      exact ⟨A1, A2, A3, c1, c2, c3, rfl, hDx, hPx, hGx⟩
    · have HRG := hid (rel_range HK.out)
      rw [HV.out] at HRG
      rcases HRG.out with hn | ⟨hn0, hn9⟩
      · have hneg : V < 0 := by omega
        have ER : Hid (rRel p n = (R, tIdle)) := hid (by unfold rRel; rw [if_pos HK.out, HV.out, if_pos hn, HR.out])
        clear hn HRG hDx hON
        go_wp2
        go_ret
        rw [ER.out]
        exact ⟨B1, B2, B3, d1, d2, d3, rfl, hs, hONs, hGs⟩
      · obtain ⟨m, rfl, hm9, hml⟩ := text_at V hn0 hn9
        have hneg : ¬ (m : Int) < 0 := by omega
        have ER : Hid (rRel p n = (R, tTo ++ dec m)) := hid (by unfold rRel; rw [if_pos HK.out, HV.out, if_neg (by omega), HR.out, Int.toNat_natCast])
        obtain ⟨Q, hQ⟩ : ∃ Q, Q = dec m := ⟨_, rfl⟩
        rw [← hQ] at ER hml
        have HQ := hid hQ.symm
        have hs1 : ¬ 3 + Q.length > 9223372036854775807 := by omega
        clear hn0 hn9 HRG hON hQ
        go_wp2_with fail
        with_reducible refine (decimal_any m _ hm9).mono ?_
        rintro e wd ⟨he, hbd⟩
        rw [HQ.out] at he
        subst he
        unfold tx
        go_wp2
        go_ret
        rw [ER.out]
        exact ⟨B1, B2, B3, d1, d2, d3, by unfold tx; rw [← ByteArray.mk_append_mk]; rfl, hs.below hbd hs.lt, hONs.below hbd, hGs.trans (grown_of_below hbd (some D))⟩

set_option maxHeartbeats 8000000 in
set_option maxRecDepth 16384 in
theorem dClose_any (p : Pl) (A1 A2 A3 : Option Addr) (c1 c2 c3 : Nat) (D : Nat) (S : List UInt8) (F : Nat → Prop) (w : World) (hD : At w D 84 #[.int .i64 p.mx, .slice A1 p.idle.length c1, .slice A2 p.held.length c2, .slice A3 p.wait.length c3]) (hP : PolF w F A1 A2 A3 c1 c2 c3 p) (hF : ∀ b, F b → b < w.heap.size) (hFD : F D) (hok : Ok p) (hS : S.length ≤ 4194304) :
    Calls Try.prog 79 #[.pointer (some ⟨D, 0, none⟩), tx S] w (DeskAns F (rCls p (num S)) D w) := by
  have h := hP.sees
  obtain ⟨k1, k2, k3⟩ := hP.2
  obtain ⟨L1, L2, L3⟩ := ok_2 hok
  obtain ⟨n, hn⟩ : ∃ n, n = num S := ⟨_, rfl⟩
  have HNS := hid hn.symm
  rw [← hn]
  clear hn
  obtain ⟨R, hR⟩ : ∃ R, R = clsR p n := ⟨_, rfl⟩
  have HR := hid hR.symm
  obtain ⟨V, hV⟩ : ∃ V, V = clsN p n := ⟨_, rfl⟩
  have HV := hid hV.symm
  clear hR hV
  have c0 := fun w => parseInt_any S w hS
  unfold tx at c0
  rw [HNS.out] at c0
  have C0 := hid c0
  clear c0
  have hW0 := (Below.refl w.heap.size w).drew
  have hWz := ((Below.refl w.heap.size w).alloc (Nat.le_refl _) (.cells #[.int .i64 0, .slice none 0 0, .slice none 0 0, .slice none 0 0] 30)).drew
  have hDl := hD.lt
  have pz0 : At ((w.alloc (.cells #[.int .i64 0, .slice none 0 0, .slice none 0 0, .slice none 0 0] 30)).drew) w.heap.size 30 #[.int .i64 0, .slice none 0 0, .slice none 0 0, .slice none 0 0] := (At.newAt 30 #[.int .i64 0, .slice none 0 0, .slice none 0 0, .slice none 0 0] rfl).drew
  have nD : ¬ D = w.heap.size := Nat.ne_of_lt hDl
  have nD2 : ¬ w.heap.size = D := fun e => nD e.symm
  obtain ⟨a0, a1, a2, a3⟩ := four hD
  unfold tx
  go_enter Try.func79, Try.ntmps79
  go_upto_region 1 with fail
  go_cut [5, 6] from 7 to 16 (fun v5 v6 wx => ∃ (g8 : Nat) (B1 B2 B3 : Option Addr) (d1 d2 d3 : Nat), v5 = .pointer (some ⟨g8, 0, none⟩) ∧ v6 = .int .i64 V ∧ At wx g8 30 #[.int .i64 R.mx, .slice B1 R.idle.length d1, .slice B2 R.held.length d2, .slice B3 R.wait.length d3] ∧ OwnP wx w.heap.size B1 B2 B3 d1 d2 d3 R ∧ w.heap.size ≤ g8 ∧ Below w.heap.size w wx)
  case first =>
      go_region_held3 (fun w' => w'.cell? ⟨D, 0, none⟩ = some (.int .i64 p.mx) ∧ w'.cell? ⟨D, 1, none⟩ = some (.slice A1 p.idle.length c1) ∧ w'.cell? ⟨D, 2, none⟩ = some (.slice A2 p.held.length c2) ∧ w'.cell? ⟨D, 3, none⟩ = some (.slice A3 p.wait.length c3))
        (first | with_reducible exact ⟨a0, a1, a2, a3⟩ | with_reducible exact ⟨b0, b1, b2, b3⟩ | with_reducible exact ⟨e0, e1, e2, e3⟩ | go_keep)
        (first
          | (go_at_call 46; (with_reducible refine (C0.out _).mono ?_); rintro e wa ⟨rfl, hba⟩; have hWa := (by first | exact hW0.trans (hba.mono hW0.size) | exact hWz.trans (hba.mono hWz.size) : Below w.heap.size w wa); obtain ⟨b0, b1, b2, b3⟩ := four (hD.below hWa hDl); have nDa : ¬ D = wa.heap.size := Nat.ne_of_lt (Nat.lt_of_lt_of_le hDl hWa.size); have nDb : ¬ wa.heap.size = D := fun e => nDa e.symm; (try have pza := pz0.below hba (by simp)))
          | (go_at_call 88; refine (sCloseIdle_any p A1 A2 A3 c1 c2 c3 n _ (by first | exact h.on hWa | exact h.on (hWa.alloc hWa.size (.cells #[.int .i64 0, .slice none 0 0, .slice none 0 0, .slice none 0 0] 30))) k1 L1.out L2.out L3.out).mono ?_; rintro e wb ⟨B1, B2, B3, d1, d2, d3, he, ho, hbb⟩; rw [HR.out, HV.out] at he; rw [HR.out] at ho; subst he; have hWb := (by first | exact hWa.trans (hbb.mono hWa.size) | exact (hWa.alloc hWa.size (.cells #[.int .i64 0, .slice none 0 0, .slice none 0 0, .slice none 0 0] 30)).trans (hbb.mono (hWa.alloc hWa.size (.cells #[.int .i64 0, .slice none 0 0, .slice none 0 0, .slice none 0 0] 30)).size) : Below w.heap.size w wb); have hob := (by first | exact ho.mono hWa.size | exact ho.mono (hWa.alloc hWa.size (.cells #[.int .i64 0, .slice none 0 0, .slice none 0 0, .slice none 0 0] 30)).size : OwnP wb w.heap.size B1 B2 B3 d1 d2 d3 R); obtain ⟨e0, e1, e2, e3⟩ := four (hD.below hWb hDl); (try (have pzb := pza.below hbb pza.lt; have pzc := pzb.cell; have pzf := pzb.frozen)); (try (have pzb := (At.newAt 30 #[.int .i64 0, .slice none 0 0, .slice none 0 0, .slice none 0 0] rfl : At (wa.alloc (.cells #[.int .i64 0, .slice none 0 0, .slice none 0 0, .slice none 0 0] 30)) wa.heap.size 30 #[.int .i64 0, .slice none 0 0, .slice none 0 0, .slice none 0 0]).below hbb (by simp); have hga := hWa.size; have pzc := pzb.cell; have pzf := pzb.frozen)))
          | fail)
      all_goals
        go_wp2_with fail
        go_meet
        first
          | exact ⟨_, B1, B2, B3, d1, d2, d3, rfl, rfl, (put4_at (.int .i64 R.mx) (.slice B1 R.idle.length d1) (.slice B2 R.held.length d2) (.slice B3 R.wait.length d3) pzb rfl).1, hob.past pzb (put4_at (.int .i64 R.mx) (.slice B1 R.idle.length d1) (.slice B2 R.held.length d2) (.slice B3 R.wait.length d3) pzb rfl).2, by first | exact Nat.le_refl _ | omega, below_put hWb (put4_at (.int .i64 R.mx) (.slice B1 R.idle.length d1) (.slice B2 R.held.length d2) (.slice B3 R.wait.length d3) pzb rfl).2 (by first | exact Nat.le_refl _ | omega) hWb.size⟩
          | exact ⟨wb.heap.size, B1, B2, B3, d1, d2, d3, rfl, rfl, At.new wb _ _, hob.alloc _, hWb.size, hWb.alloc hWb.size _⟩
  case rest =>
    obtain ⟨g8, B1, B2, B3, d1, d2, d3, rfl, rfl, pt, ho, hge, hBx⟩ := hcut
    have hDx := hD.below hBx hDl
    have hPx := hP.below hBx
    have hGx := grown_of_below hBx (some D)
    have hON := PolF.of_own ho hF
    clear hW0 hWz pz0 hD hP nD nD2 a0 a1 a2 a3 h C0
    obtain ⟨y0, y1, y2, y3, yl, yf⟩ := fourS hDx
    obtain ⟨t0, t1, t2, t3, tl, tf⟩ := fourS pt
    have n1 : ¬ D = g8 := by omega
    have n2 : ¬ g8 = D := by omega
    obtain ⟨hs, hgs⟩ := put4_at (.int .i64 R.mx) (.slice B1 R.idle.length d1) (.slice B2 R.held.length d2) (.slice B3 R.wait.length d3) hDx rfl
    have hGs := hGx.trans hgs
    have hONs := hON.grown hgs (fun b e => by injection e with e; subst e; exact hFD)

    rcases hb : clsB p n with _ | _
    · have ER : Hid (rCls p n = (p, tNo)) := hid (by unfold rCls; rw [hb]; rfl)
      have hVn : V < 0 := by rw [← HV.out, (cls_no hb).1]; decide
      clear hs hgs hGs hON hONs ho pt hb
      go_wp2
      go_ret
      rw [ER.out]
      exact ⟨A1, A2, A3, c1, c2, c3, rfl, hDx, hPx, hGx⟩
    · have HRG := hid (cls_range hb)
      rw [HV.out] at HRG
      obtain ⟨hn0, hn9⟩ := HRG.out
      obtain ⟨m, rfl, hm9, hml⟩ := text_at V hn0 hn9
      have hneg : ¬ (m : Int) < 0 := by omega
      have ER : Hid (rCls p n = (R, dec m)) := hid (by unfold rCls; rw [if_pos hb, HV.out, HR.out, Int.toNat_natCast])
      obtain ⟨Q, hQ⟩ : ∃ Q, Q = dec m := ⟨_, rfl⟩
      rw [← hQ] at ER hml
      have HQ := hid hQ.symm
      clear hn0 hn9 HRG hON hQ hb
      go_wp2_with fail
      with_reducible refine (decimal_any m _ hm9).mono ?_
      rintro e wd ⟨he, hbd⟩
      rw [HQ.out] at he
      subst he
      unfold tx
      go_wp2
      go_ret
      rw [ER.out]
      exact ⟨B1, B2, B3, d1, d2, d3, rfl, hs.below hbd hs.lt, hONs.below hbd, hGs.trans (grown_of_below hbd (some D))⟩

set_option maxHeartbeats 8000000 in
set_option maxRecDepth 16384 in
theorem dSize_any (p : Pl) (A1 A2 A3 : Option Addr) (c1 c2 c3 : Nat) (D : Nat) (S : List UInt8) (F : Nat → Prop) (w : World) (hD : At w D 84 #[.int .i64 p.mx, .slice A1 p.idle.length c1, .slice A2 p.held.length c2, .slice A3 p.wait.length c3]) (hP : PolF w F A1 A2 A3 c1 c2 c3 p) (hF : ∀ b, F b → b < w.heap.size) (hFD : F D) (hok : Ok p) (hS : S.length ≤ 4194304) :
    Calls Try.prog 80 #[.pointer (some ⟨D, 0, none⟩), tx S] w (DeskAns F (rSiz p (num S)) D w) := by
  have h := hP.sees
  obtain ⟨k1, k2, k3⟩ := hP.2
  obtain ⟨L1, L2, L3⟩ := ok_2 hok
  have LE4 : (2097152 : Nat) ≤ 4194304 := by decide
  have hDl := hD.lt
  obtain ⟨n, hn⟩ : ∃ n, n = num S := ⟨_, rfl⟩
  have HNS := hid hn.symm
  rw [← hn]
  clear hn
  have c0 := fun w => parseInt_any S w hS
  unfold tx at c0
  rw [HNS.out] at c0
  have C0 := hid c0
  clear c0
  unfold tx
  rcases hb : okB (sized p n) with _ | _
  · skip
    have ER : Hid (rSiz p n = (p, tNo)) := hid (by unfold rSiz; rw [hb]; rfl)
    have HK : Hid (okB ⟨n, p.idle, p.held, p.wait⟩ = false) := hid hb
    clear hb hok
    have hB1 := Below.refl w.heap.size w
    have dk2 := hD
    go_enter Try.func80, Try.ntmps80
    obtain ⟨a0, a1, a2, a3, al, af⟩ := fourS dk2
    go_wp2_with fail
    with_reducible refine (scopyPool_any p A1 A2 A3 c1 c2 c3 _ h (Nat.le_trans L1.out LE4) (Nat.le_trans L2.out LE4) (Nat.le_trans L3.out LE4)).mono ?_
    rintro e w1 ⟨B1, B2, B3, d1, d2, d3, rfl, ho, hb1⟩
    have sz1 : w.heap.size ≤ w1.heap.size := Nat.le_trans (by first | exact Nat.le_refl _ | (simp; done) | (simp; omega)) (hb1.size)
    have hB3 := hB1.trans (hb1.mono hB1.size)
    have dk4 := dk2.below hb1 dk2.lt
    clear hB1 dk2
    clear a0 a1 a2 a3 al af
    have o5 := ho
    clear ho
    obtain ⟨a0, a1, a2, a3, al, af⟩ := fourS dk4
    have hB6 := hB3.alloc hB3.size (.cells #[.int .i64 p.mx, .slice B1 p.idle.length d1, .slice B2 p.held.length d2, .slice B3 p.wait.length d3] 30)
    have dk7 := dk4.alloc (.cells #[.int .i64 p.mx, .slice B1 p.idle.length d1, .slice B2 p.held.length d2, .slice B3 p.wait.length d3] 30)
    have o8 := o5.alloc (.cells #[.int .i64 p.mx, .slice B1 p.idle.length d1, .slice B2 p.held.length d2, .slice B3 p.wait.length d3] 30)
    clear hB3 dk4 o5
    have t9 : At (w1.alloc (.cells #[.int .i64 p.mx, .slice B1 p.idle.length d1, .slice B2 p.held.length d2, .slice B3 p.wait.length d3] 30)) (w1.heap.size) 30 #[.int .i64 p.mx, .slice B1 p.idle.length d1, .slice B2 p.held.length d2, .slice B3 p.wait.length d3] := At.newAt _ _ (by first | rfl | (simp; done) | (simp; omega))
    go_wp2_with fail
    with_reducible refine (C0.out _).mono ?_
    rintro e w2 ⟨rfl, hb2⟩
    have sz2 : w1.heap.size + 1 ≤ w2.heap.size := Nat.le_trans (by first | exact Nat.le_refl _ | (simp; done) | (simp; omega)) (hb2.size)
    have hB10 := hB6.trans (hb2.mono hB6.size)
    have dk11 := dk7.below hb2 dk7.lt
    have o12 := o8.below hb2
    have t13 := t9.below hb2 t9.lt
    clear hB6 dk7 o8 t9
    clear a0 a1 a2 a3 al af
    obtain ⟨a0, a1, a2, a3, al, af⟩ := fourS dk11
    obtain ⟨t0, t1, t2, t3, tl, tf⟩ := fourS t13
    have ne_at : ¬ D = w1.heap.size := by omega
    have ne_ta : ¬ w1.heap.size = D := by omega
    have hB14 := below_put hB10 (grown_set w2 (w1.heap.size) 0 (.int .i64 n)) (by omega) (by have := hB10.size; omega)
    have dk15 := dk11.past (grown_set w2 (w1.heap.size) 0 (.int .i64 n)) (by omega)
    have o16 := o12.past t13 (grown_set w2 (w1.heap.size) 0 (.int .i64 n))
    have t17 : At (w2.setCell ⟨w1.heap.size, 0, none⟩ (.int .i64 n)) (w1.heap.size) 30 #[.int .i64 n, .slice B1 p.idle.length d1, .slice B2 p.held.length d2, .slice B3 p.wait.length d3] := by simpa using t13.set 0 (.int .i64 n)
    clear hB10 dk11 o12 t13
    have hsz : SeesP (w2.setCell ⟨w1.heap.size, 0, none⟩ (.int .i64 n)) ((w2.setCell ⟨w1.heap.size, 0, none⟩ (.int .i64 n))).heap.size B1 B2 B3 ⟨n, p.idle, p.held, p.wait⟩ := o16.sees
    go_wp2_with fail
    with_reducible refine (svalidPool_any ⟨n, p.idle, p.held, p.wait⟩ B1 B2 B3 d1 d2 d3 _ hsz L1.out L2.out (Nat.le_trans L3.out LE4)).mono ?_
    rintro e w3 ⟨he, hb3⟩
    rw [HK.out] at he
    subst he
    have sz3 : w2.heap.size ≤ w3.heap.size := Nat.le_trans (by first | exact Nat.le_refl _ | (simp; done) | (simp; omega)) (hb3.size)
    have hB18 := hB14.trans (hb3.mono hB14.size)
    have dk19 := dk15.below hb3 dk15.lt
    have o20 := o16.below hb3
    have t21 := t17.below hb3 t17.lt
    clear hB14 dk15 o16 t17
    clear a0 a1 a2 a3 al af t0 t1 t2 t3 tl tf ne_at ne_ta
    obtain ⟨a0, a1, a2, a3, al, af⟩ := fourS dk19
    obtain ⟨t0, t1, t2, t3, tl, tf⟩ := fourS t21
    have ne_at : ¬ D = w1.heap.size := by omega
    have ne_ta : ¬ w1.heap.size = D := by omega
    go_wp2
    go_ret
    rw [ER.out]
    exact ⟨A1, A2, A3, c1, c2, c3, rfl, dk19, hP.below hB18, grown_of_below hB18 (some D)⟩
  · skip
    have ER : Hid (rSiz p n = (sized p n, tOk)) := hid (by unfold rSiz; rw [if_pos hb])
    have HK : Hid (okB ⟨n, p.idle, p.held, p.wait⟩ = true) := hid hb
    clear hb hok
    have hB22 := Below.refl w.heap.size w
    have dk23 := hD
    go_enter Try.func80, Try.ntmps80
    obtain ⟨a0, a1, a2, a3, al, af⟩ := fourS dk23
    go_wp2_with fail
    with_reducible refine (scopyPool_any p A1 A2 A3 c1 c2 c3 _ h (Nat.le_trans L1.out LE4) (Nat.le_trans L2.out LE4) (Nat.le_trans L3.out LE4)).mono ?_
    rintro e w1 ⟨B1, B2, B3, d1, d2, d3, rfl, ho, hb1⟩
    have sz1 : w.heap.size ≤ w1.heap.size := Nat.le_trans (by first | exact Nat.le_refl _ | (simp; done) | (simp; omega)) (hb1.size)
    have hB24 := hB22.trans (hb1.mono hB22.size)
    have dk25 := dk23.below hb1 dk23.lt
    clear hB22 dk23
    clear a0 a1 a2 a3 al af
    have o26 := ho
    clear ho
    obtain ⟨a0, a1, a2, a3, al, af⟩ := fourS dk25
    have hB27 := hB24.alloc hB24.size (.cells #[.int .i64 p.mx, .slice B1 p.idle.length d1, .slice B2 p.held.length d2, .slice B3 p.wait.length d3] 30)
    have dk28 := dk25.alloc (.cells #[.int .i64 p.mx, .slice B1 p.idle.length d1, .slice B2 p.held.length d2, .slice B3 p.wait.length d3] 30)
    have o29 := o26.alloc (.cells #[.int .i64 p.mx, .slice B1 p.idle.length d1, .slice B2 p.held.length d2, .slice B3 p.wait.length d3] 30)
    clear hB24 dk25 o26
    have t30 : At (w1.alloc (.cells #[.int .i64 p.mx, .slice B1 p.idle.length d1, .slice B2 p.held.length d2, .slice B3 p.wait.length d3] 30)) (w1.heap.size) 30 #[.int .i64 p.mx, .slice B1 p.idle.length d1, .slice B2 p.held.length d2, .slice B3 p.wait.length d3] := At.newAt _ _ (by first | rfl | (simp; done) | (simp; omega))
    go_wp2_with fail
    with_reducible refine (C0.out _).mono ?_
    rintro e w2 ⟨rfl, hb2⟩
    have sz2 : w1.heap.size + 1 ≤ w2.heap.size := Nat.le_trans (by first | exact Nat.le_refl _ | (simp; done) | (simp; omega)) (hb2.size)
    have hB31 := hB27.trans (hb2.mono hB27.size)
    have dk32 := dk28.below hb2 dk28.lt
    have o33 := o29.below hb2
    have t34 := t30.below hb2 t30.lt
    clear hB27 dk28 o29 t30
    clear a0 a1 a2 a3 al af
    obtain ⟨a0, a1, a2, a3, al, af⟩ := fourS dk32
    obtain ⟨t0, t1, t2, t3, tl, tf⟩ := fourS t34
    have ne_at : ¬ D = w1.heap.size := by omega
    have ne_ta : ¬ w1.heap.size = D := by omega
    have hB35 := below_put hB31 (grown_set w2 (w1.heap.size) 0 (.int .i64 n)) (by omega) (by have := hB31.size; omega)
    have dk36 := dk32.past (grown_set w2 (w1.heap.size) 0 (.int .i64 n)) (by omega)
    have o37 := o33.past t34 (grown_set w2 (w1.heap.size) 0 (.int .i64 n))
    have t38 : At (w2.setCell ⟨w1.heap.size, 0, none⟩ (.int .i64 n)) (w1.heap.size) 30 #[.int .i64 n, .slice B1 p.idle.length d1, .slice B2 p.held.length d2, .slice B3 p.wait.length d3] := by simpa using t34.set 0 (.int .i64 n)
    clear hB31 dk32 o33 t34
    have hsz : SeesP (w2.setCell ⟨w1.heap.size, 0, none⟩ (.int .i64 n)) ((w2.setCell ⟨w1.heap.size, 0, none⟩ (.int .i64 n))).heap.size B1 B2 B3 ⟨n, p.idle, p.held, p.wait⟩ := o37.sees
    go_wp2_with fail
    with_reducible refine (svalidPool_any ⟨n, p.idle, p.held, p.wait⟩ B1 B2 B3 d1 d2 d3 _ hsz L1.out L2.out (Nat.le_trans L3.out LE4)).mono ?_
    rintro e w3 ⟨he, hb3⟩
    rw [HK.out] at he
    subst he
    have sz3 : w2.heap.size ≤ w3.heap.size := Nat.le_trans (by first | exact Nat.le_refl _ | (simp; done) | (simp; omega)) (hb3.size)
    have hB39 := hB35.trans (hb3.mono hB35.size)
    have dk40 := dk36.below hb3 dk36.lt
    have o41 := o37.below hb3
    have t42 := t38.below hb3 t38.lt
    clear hB35 dk36 o37 t38
    clear a0 a1 a2 a3 al af t0 t1 t2 t3 tl tf ne_at ne_ta
    have hON := PolF.of_own o41 hF
    have hGx := grown_of_below hB39 (some D)
    obtain ⟨a0, a1, a2, a3, al, af⟩ := fourS dk40
    obtain ⟨t0, t1, t2, t3, tl, tf⟩ := fourS t42
    have ne_at : ¬ D = w1.heap.size := by omega
    have ne_ta : ¬ w1.heap.size = D := by omega
    obtain ⟨hs, hgs⟩ := put4_at (.int .i64 n) (.slice B1 p.idle.length d1) (.slice B2 p.held.length d2) (.slice B3 p.wait.length d3) dk40 rfl
    have hONs := (hON.grown hgs (fun b e => by injection e with e; subst e; exact hFD)).sized n
    go_wp2
    go_ret
    rw [ER.out]
    exact ⟨B1, B2, B3, d1, d2, d3, rfl, hs, hONs, hGx.trans hgs⟩

end Go.Proofs.Ytehdbllpiokbnaa

/-
  What RunSession answers, the program's and the model's. Condition: the lines lie in memory, at most 2^20, each at most 2^20 bytes long.
-/
import Derived.Test.YtehdbllpiokbnaaSesD
import Derived.Test.YtehdbllpiokbnaaSesL

namespace Go.Proofs.Ytehdbllpiokbnaa
open Go.RowKit Txt Pol Ses

/-- The one block. -/
def FL (r : Nat) (b : Nat) : Prop := b = r
set_option maxHeartbeats 400000 in
theorem sesLess_any (a b : Int) (w : World) :
    Calls Try.prog 63 #[.int .i64 a, .int .i64 b] w fun e w' => e = .returned (.int .i64 (min a b)) ∧ w = w' := by
  obtain ⟨M, hM⟩ : ∃ M, M = min a b := ⟨_, rfl⟩
  rw [← hM]
  by_cases h1 : a < b
  · have E := hid (show M = a by omega)
    clear hM
    go_enter Try.func63, Try.ntmps63
    go_wp2
    go_ret
    exact ⟨ret_int E.out.symm, rfl⟩
  · have E := hid (show M = b by omega)
    clear hM
    go_enter Try.func63, Try.ntmps63
    go_wp2
    go_ret
    exact ⟨ret_int E.out.symm, rfl⟩

theorem rSt_step (ls : List (List UInt8)) {k : Nat} (hk : k < ls.length) {p Rp : Pl} {T Rt : List UInt8} (hp : (rSt ls k).1 = p) (hT : (rSt ls k).2 = T) (hR : rLin p ls[k] = (Rp, Rt)) : (rSt ls (k + 1)).1 = Rp ∧ (rSt ls (k + 1)).2 = T ++ (Rt ++ [10]) := by
  have e : ls.getD k [] = ls[k] := by simp [List.getD_eq_getElem?_getD, hk]
  constructor
  · show (rLin (rSt ls k).1 (ls.getD k [])).1 = Rp
    rw [hp, e, hR]
  · show (rSt ls k).2 ++ (rLin (rSt ls k).1 (ls.getD k [])).2 ++ [10] = T ++ (Rt ++ [10])
    rw [hp, hT, e, hR, List.append_assoc]
set_option maxHeartbeats 8000000 in
set_option maxRecDepth 16384 in
theorem iRunSession_any (A : Option Addr) (c : Nat) (ls : List (List UInt8)) (w : World) (h : Sees w w.heap.size A (strip tcell ls)) (hcap : ls.length ≤ c) (hc : c ≤ maxLen) (hn : ls.length ≤ 1048576) (hl : ∀ t ∈ ls, t.length ≤ 1048576) :
    Calls Try.prog 29 #[.slice A ls.length c] w fun e w' => e = .returned (tx (rSes ls)) ∧ Below w.heap.size w w' := by
  have HL := hid hl
  have HC := hid hc
  obtain ⟨m, hm⟩ : ∃ m, m = min ls.length 20 := ⟨_, rfl⟩
  have HMI := hid (show min (ls.length : Int) 20 = (m : Int) by omega)
  have hm0 : (0 : Int) ≤ (m : Int) := by omega
  have hm1 : (m : Int) ≤ (ls.length : Int) := by omega
  have hm2 : (ls.length : Int) ≤ (c : Int) := by omega
  have hm20 : m ≤ 20 := by omega
  have hmn : m ≤ ls.length := by omega
  have HSE := hid (show rSes ls = (rSt ls m).2 by rw [hm]; rfl)
  have px := At.new w 30 #[.int .i64 2, .slice none 0 0, .slice none 0 0, .slice none 0 0]
  have hbx := (Below.refl w.heap.size w).alloc (Nat.le_refl _) (.cells #[.int .i64 2, .slice none 0 0, .slice none 0 0, .slice none 0 0] 30)
  have hG := hid (rSt_good ls)
  clear hl hc hm hcap
  go_enter Try.func29, Try.ntmps29
  go_wp2_with fail
  with_reducible refine (sesLess_any _ _ _).mono ?_
  rintro e w' ⟨he, rfl⟩
  rw [HMI.out] at he
  subst he
  have hcm : (c : Int) ≤ 9223372036854775807 := by have := HC.out; unfold maxLen at this; omega
  go_wp2
  go_loopw [4, 16] (fun v i wr => ∃ (k : Nat) (T : List UInt8) (p : Pl) (A1 A2 A3 : Option Addr) (c1 c2 c3 : Nat), k ≤ m ∧ i = .int .i64 k ∧ v = .string (ByteArray.mk T.toArray) ∧ Hid ((rSt ls k).1 = p) ∧ Hid ((rSt ls k).2 = T) ∧ At wr w.heap.size 30 #[.int .i64 p.mx, .slice A1 p.idle.length c1, .slice A2 p.held.length c2, .slice A3 p.wait.length c3] ∧ PolF wr (FL w.heap.size) A1 A2 A3 c1 c2 c3 p ∧ Below w.heap.size w wr) (fun _ i _ => m - (intOf i).toNat)
  case atStart => exact ⟨0, [], ⟨2, [], [], []⟩, none, none, none, 0, 0, 0, Nat.zero_le _, rfl, rfl, hid rfl, hid rfl, px, ⟨⟨fun hx => absurd rfl hx, fun hx => absurd rfl hx, fun hx => absurd rfl hx⟩, Nat.le_refl _, Nat.le_refl _, Nat.le_refl _⟩, hbx⟩
  case round =>
    clear px hbx
    obtain ⟨k, T, p, A1, A2, A3, c1, c2, c3, hk, rfl, rfl, HP, HT, hx, hpf, hb⟩ := hrel
    by_cases hlt : k < m
    · have hi : (k : Int) < (m : Int) := by omega
      have hlk : k < ls.length := by omega
      obtain ⟨bk, o, rfl, hbl, e0⟩ := (h.below hb).word hlk
      have hxl := HL.out _ (List.getElem_mem hlk)
      obtain ⟨hok, hTl⟩ := hG.out k
      rw [HP.out] at hok
      rw [HT.out] at hTl
      obtain ⟨⟨Rp, Rt⟩, hR⟩ : ∃ R, R = rLin p ls[k] := ⟨_, rfl⟩
      obtain ⟨s1, s2⟩ := rSt_step ls hlk HP.out HT.out hR.symm
      have HS1 := hid s1
      have HS2 := hid s2
      have hRt : Rt.length ≤ 900 := by have := (rLin_good (l := ls[k]) hok).2; rw [← hR] at this; exact this
      obtain ⟨x, hxe⟩ : ∃ x, x = ls[k] := ⟨_, rfl⟩
      rw [← hxe] at e0 hxl hR
      have hz := hb.size
      have hxlt := hx.lt
      have hF : ∀ b, FL w.heap.size b → b < wr.heap.size := fun b e => by unfold FL at e; omega
      have cA := runLine_any p A1 A2 A3 c1 c2 c3 x (FL w.heap.size) wr hpf hF hok (by omega)
      rw [← hR] at cA
      unfold tx at cA
      have CA := hid cA
      clear cA hR hxe s1 s2 hok hF HP HT
      obtain ⟨y0, y1, y2, y3, yl, yf⟩ := fourS hx
      have hk20 : k ≤ 20 := by omega
      have hs1 : ¬ Rt.length + 1 > 9223372036854775807 := by omega
      have hs2 : ¬ T.length + (Rt.length + 1) > 9223372036854775807 := by omega
      go_wp2_with fail
      refine CA.out.mono ?_
      rintro e wa ⟨B1, B2, B3, d1, d2, d3, he, hpa, hba⟩
      replace he : e = .returned (.tuple #[.agg #[.int .i64 Rp.mx, .slice B1 Rp.idle.length d1, .slice B2 Rp.held.length d2, .slice B3 Rp.wait.length d3], .string (ByteArray.mk Rt.toArray)]) := he
      subst he
      clear y0 y1 y2 y3 yl yf CA
      have hxa := hx.below hba hx.lt
      have hbb := hb.trans (hba.mono hz)
      have hza := hba.size
      obtain ⟨y0, y1, y2, y3, yl, yf⟩ := fourS hxa
      obtain ⟨hs, hgs⟩ := put4_at (.int .i64 Rp.mx) (.slice B1 Rp.idle.length d1) (.slice B2 Rp.held.length d2) (.slice B3 Rp.wait.length d3) hxa rfl
      have hps := hpa.grown hgs (fun b e => by injection e with e; exact e.symm)
      have hbs := below_put hbb hgs (Nat.le_refl _) hbb.size
      have ne1 : ¬ w.heap.size = wa.heap.size := by omega
      have ne2 : ¬ wa.heap.size = w.heap.size := by omega
      clear hx hb hba hxa hpa hbb
      go_wp2
      go_roundw
      case rel => exact ⟨k + 1, T ++ (Rt ++ [10]), Rp, B1, B2, B3, d1, d2, d3, by omega, by go_num, by rw [← ByteArray.mk_append_mk, ← ByteArray.mk_append_mk], HS1, HS2, hs.alloc _, hps.below ((Below.refl _ _).alloc (Nat.le_refl _) _), hbs.alloc hbs.size _⟩
      case measure => simp [intOf]; omega
    · have hi : ¬ (k : Int) < (m : Int) := by omega
      have hke : k = m := by omega
      subst hke
      have E := hid (HSE.out.trans HT.out)
      go_wp2
      go_ret
      exact ⟨by rw [E.out]; rfl, hb⟩

set_option maxHeartbeats 8000000 in
set_option maxRecDepth 16384 in
theorem sRunSession_any (A : Option Addr) (c : Nat) (ls : List (List UInt8)) (w : World) (h : Sees w w.heap.size A (strip tcell ls)) (hn : ls.length ≤ 1048576) (hl : ∀ t ∈ ls, t.length ≤ 1048576) :
    Calls Try.prog 27 #[.slice A ls.length c] w fun e w' => e = .returned (tx (rSes ls)) ∧ Below w.heap.size w w' := by
  have HL := hid hl
  obtain ⟨m, hm⟩ : ∃ m, m = min ls.length 20 := ⟨_, rfl⟩
  have hm20 : m ≤ 20 := by omega
  have hmn : m ≤ ls.length := by omega
  have HM := hid hm
  have HSE := hid (show rSes ls = (rSt ls m).2 by rw [hm]; rfl)
  have hG := hid (rSt_good ls)
  clear hl hm
  obtain ⟨D, hD⟩ : ∃ D, D = w.heap.size + 3 := ⟨_, rfl⟩
  have hDw : w.heap.size ≤ D := by omega
  have hb1 := (((Below.refl w.heap.size w).alloc (Nat.le_refl _) (.cells #[] 3)).alloc (by simp) (.cells #[] 91)).alloc (by simp; omega) (.cells #[] 3)
  have hb2 := hb1.alloc hb1.size (.cells #[.int .i64 2, .slice (some ⟨w.heap.size, 0, none⟩) 0 0, .slice (some ⟨w.heap.size + 1, 0, none⟩) 0 0, .slice (some ⟨w.heap.size + 2, 0, none⟩) 0 0] 84)
  have hsz : (((w.alloc (.cells #[] 3)).alloc (.cells #[] 91)).alloc (.cells #[] 3)).heap.size = D := by simp [hD]
  have px := At.newAt (w := ((w.alloc (.cells #[] 3)).alloc (.cells #[] 91)).alloc (.cells #[] 3)) 84 #[.int .i64 2, .slice (some ⟨w.heap.size, 0, none⟩) 0 0, .slice (some ⟨w.heap.size + 1, 0, none⟩) 0 0, .slice (some ⟨w.heap.size + 2, 0, none⟩) 0 0] hsz
  have HD := hid hD
  clear hb1 hsz hD
  go_enter Try.func27, Try.ntmps27
  go_wp2
  rw [← HD.out]
  go_loopw [4, 5] (fun v i wr => ∃ (k : Nat) (T : List UInt8) (p : Pl) (A1 A2 A3 : Option Addr) (c1 c2 c3 : Nat), k ≤ m ∧ i = .int .i64 k ∧ v = .string (ByteArray.mk T.toArray) ∧ Hid ((rSt ls k).1 = p) ∧ Hid ((rSt ls k).2 = T) ∧ At wr D 84 #[.int .i64 p.mx, .slice A1 p.idle.length c1, .slice A2 p.held.length c2, .slice A3 p.wait.length c3] ∧ PolF wr (FL D) A1 A2 A3 c1 c2 c3 p ∧ Below w.heap.size w wr) (fun _ i _ => m - (intOf i).toNat)
  case atStart => exact ⟨0, [], ⟨2, [], [], []⟩, some ⟨w.heap.size, 0, none⟩, some ⟨w.heap.size + 1, 0, none⟩, some ⟨w.heap.size + 2, 0, none⟩, 0, 0, 0, Nat.zero_le _, rfl, rfl, hid rfl, hid rfl, px, ⟨⟨fun hx => absurd rfl hx, fun hx => absurd rfl hx, fun hx => absurd rfl hx⟩, Nat.le_refl _, Nat.le_refl _, Nat.le_refl _⟩, hb2⟩
  case round =>
    clear px hb2
    obtain ⟨k, T, p, A1, A2, A3, c1, c2, c3, hk, rfl, rfl, HP, HT, hx, hpf, hb⟩ := hrel
    by_cases hlt : k < m
    · have hlk : k < ls.length := by omega
      have hi : (k : Int) < (ls.length : Int) := by omega
      have hi2 : (k : Int) < 20 := by omega
      have hk0 : (0 : Int) ≤ (k : Int) := by omega
      obtain ⟨bk, o, rfl, hbl, e0⟩ := (h.below hb).word hlk
      have hxl := HL.out _ (List.getElem_mem hlk)
      obtain ⟨hok, hTl⟩ := hG.out k
      rw [HP.out] at hok
      rw [HT.out] at hTl
      obtain ⟨⟨Rp, Rt⟩, hR⟩ : ∃ R, R = rLin p ls[k] := ⟨_, rfl⟩
      obtain ⟨s1, s2⟩ := rSt_step ls hlk HP.out HT.out hR.symm
      rw [← List.append_assoc] at s2
      have HS1 := hid s1
      have HS2 := hid s2
      have hRt : Rt.length ≤ 900 := by have := (rLin_good (l := ls[k]) hok).2; rw [← hR] at this; exact this
      obtain ⟨x, hxe⟩ : ∃ x, x = ls[k] := ⟨_, rfl⟩
      rw [← hxe] at e0 hxl hR
      have hz := hb.size
      have hF : ∀ b, FL D b → b < wr.heap.size := fun b e => by unfold FL at e; rw [e]; exact hx.lt
      have cA := dLine_any p A1 A2 A3 c1 c2 c3 D x (FL D) wr hx hpf hF rfl hok (by omega)
      rw [← hR] at cA
      unfold tx at cA
      have CA := hid cA
      clear cA hR hxe s1 s2 hok hF HP HT
      have hk20 : k ≤ 20 := by omega
      have hs1 : ¬ T.length + Rt.length > 9223372036854775807 := by omega
      have hs2 : ¬ T.length + Rt.length + 1 > 9223372036854775807 := by omega
      go_wp2_with fail
      refine CA.out.mono ?_
      rintro e wa ⟨B1, B2, B3, d1, d2, d3, he, hxa, hpa, hga⟩
      replace he : e = .returned (.string (ByteArray.mk Rt.toArray)) := he
      subst he
      have hbb := hb.grown hga hz (fun q hq => by injection hq with hq; omega)
      clear CA hx hb hga hpf
      go_wp2
      go_roundw
      case rel => exact ⟨k + 1, T ++ Rt ++ [10], Rp, B1, B2, B3, d1, d2, d3, by omega, by go_num, by rw [← ByteArray.mk_append_mk, ← ByteArray.mk_append_mk], HS1, HS2, hxa, hpa, hbb⟩
      case measure => simp [intOf]; omega
    · have hke : k = m := by omega
      have hend : ¬ (k : Int) < (ls.length : Int) ∨ (k : Int) < (ls.length : Int) ∧ ¬ (k : Int) < 20 := by have := HM.out; omega
      subst hke
      have E := hid (HSE.out.trans HT.out)
      rcases hend with hi | ⟨hi, hi2⟩
      · go_wp2
        go_ret
        exact ⟨by rw [E.out]; rfl, hb⟩
      · go_wp2
        go_ret
        exact ⟨by rw [E.out]; rfl, hb⟩

end Go.Proofs.Ytehdbllpiokbnaa

/-
  What WaitUnder answers, the program's and the model's. Condition: the list lies in memory.
-/
import Derived.Test.YtiiieollemhjmabWaC
namespace Go.Proofs.Ytiiieollemhjmab
open Go.RowKit Wt

/-- What WaitUnder answers: a wait and a truth value; nothing has changed. -/
def WuAns (l : List Int) (p : Int) (w : World) (e : Ending) (w' : World) : Prop := e = .returned (.tuple #[.int .i64 (undV l p), .bool (undB l p)]) ∧ w = w'
theorem WuAns.no {l : List Int} {p : Int} {w : World} (h : undB l p = false) : WuAns l p w (.returned (.tuple #[.int .i64 0, .bool false])) w := by
  refine ⟨?_, rfl⟩
  rw [undV_no h, h]
theorem WuAns.yes {l : List Int} {p V : Int} {w : World} (h : undB l p = true) (hV : undV l p = V) : WuAns l p w (.returned (.tuple #[.int .i64 V, .bool true])) w := by
  subst hV
  exact ⟨by rw [h], rfl⟩
theorem und_no1 {l : List Int} {p : Int} (h : cntB l = false) : undB l p = false := by unfold undB; rw [h]; rfl
theorem und_no2 {l : List Int} {p : Int} (h : ¬ (0 ≤ p ∧ p ≤ 100)) : undB l p = false := by
  rw [Bool.eq_false_iff]
  exact fun e => h (undB_iff.1 e).2.1
theorem und_no3 {l : List Int} {p : Int} (h : l.sum = 0) : undB l p = false := by
  rw [Bool.eq_false_iff]
  exact fun e => (undB_iff.1 e).2.2 h
theorem mul_bd {p s : Int} (h0 : 0 ≤ p) (h1 : p ≤ 100) (s0 : 0 ≤ s) (s1 : s ≤ 800) : IntKind.i64.wrap (p * s) = p * s ∧ 0 ≤ p * s ∧ p * s ≤ 80000 := by
  have a := Int.mul_nonneg h0 s0
  have b := mul_le_100 h1 s0
  refine ⟨?_, a, by omega⟩
  rw [IntKind.wrap_i64]
  omega
set_option maxHeartbeats 4000000 in
theorem iWaitUnder_any (l : List Int) (p : Int) (A : Option Addr) (c : Nat) (w : World) (h : Sees w w.heap.size A (ints l)) (hc : l.length ≤ c) (hn : l.length ≤ 4194304) :
    Calls Try.prog 27 #[.slice A l.length c, .int .i64 p] w (WuAns l p w) := by
  have HN := hid hn
  rcases hv : cntB l with _ | _
  · have HV := hid hv
    have E := hid (und_no1 (p := p) hv)
    clear hv hn
    go_enter Try.func27, Try.ntmps27
    go_wp2_with fail
    with_reducible refine (iValidCounts_any A c l _ h HN.out).mono ?_
    rintro e w' ⟨he, rfl⟩
    rw [HV.out] at he
    subst he
    go_wp2
    go_ret2
    exact WuAns.no E.out
  have HV := hid hv
  by_cases p0 : p < 0
  · have E := hid (und_no2 (l := l) (p := p) (by omega))
    clear hv hn
    go_enter Try.func27, Try.ntmps27
    go_wp2_with fail
    with_reducible refine (iValidCounts_any A c l _ h HN.out).mono ?_
    rintro e w' ⟨he, rfl⟩
    rw [HV.out] at he
    subst he
    go_wp2
    go_ret2
    exact WuAns.no E.out
  by_cases p1 : p > 100
  · have E := hid (und_no2 (l := l) (p := p) (by omega))
    clear hv hn
    go_enter Try.func27, Try.ntmps27
    go_wp2_with fail
    with_reducible refine (iValidCounts_any A c l _ h HN.out).mono ?_
    rintro e w' ⟨he, rfl⟩
    rw [HV.out] at he
    subst he
    go_wp2
    go_ret2
    exact WuAns.no E.out
  have p1' : ¬ 100 < p := p1
  have HL := hid (cntB_iff.1 hv).1
  have HI := hid (cntB_iff.1 hv).2
  have HLs := hid (show l.length ≤ 100000 by rw [HL.out]; decide)
  by_cases hs : l.sum = 0
  · have E := hid (und_no3 (p := p) hs)
    have HS := hid hs
    clear hv hn hs
    go_enter Try.func27, Try.ntmps27
    go_wp2_with fail
    with_reducible refine (iValidCounts_any A c l _ h HN.out).mono ?_
    rintro e w' ⟨he, rfl⟩
    rw [HV.out] at he
    subst he
    go_wp2_with fail
    with_reducible refine (waSumOf_any A c l _ h HLs.out HI.out).mono ?_
    rintro e w' ⟨he, rfl⟩
    rw [HS.out] at he
    subst he
    go_wp2
    go_ret2
    exact WuAns.no E.out
  have E3 : undB l p = true := undB_iff.2 ⟨hv, by omega, hs⟩
  have E := hid E3
  have hsp := und_sum E3
  have hsr := (pre_range hv 0).2.2
  have HP := hid (fun k => pre_range hv k)
  have HLast := hid (isU_last E3)
  have HU := hid (fun (k : Nat) (a : IsU l p k) => undV_of E3 a)
  have HIU := hid (fun (k : Nat) (a : IsU l p k) => a)
  have hmb := mul_bd (show 0 ≤ p by omega) (show p ≤ 100 by omega) (show 0 ≤ l.sum by omega) hsr
  obtain ⟨S, hS⟩ : ∃ S, S = l.sum := ⟨_, rfl⟩
  have HS : Hid (l.sum = S) := hid hS.symm
  have HC := hid hc
  have h8 := HL.out
  have hc8 : 8 ≤ c := by omega
  rw [← hS] at hsp hsr hmb HLast hs
  obtain ⟨hpw, hq0, hq1⟩ := hmb
  have hs2 : (S == 0) = false := beq_eq_false_iff_ne.2 hs
  have HT := hid (fun k : Nat => (show (l.take (k + 1)).sum = pre l (k + 1) from rfl))
  clear hv hn hS E3 h8 hc hs
  go_enter Try.func27, Try.ntmps27
  go_wp2_with fail
  with_reducible refine (iValidCounts_any A c l _ h HN.out).mono ?_
  rintro e w' ⟨he, rfl⟩
  rw [HV.out] at he
  subst he
  go_wp2_with fail
  with_reducible refine (waSumOf_any A c l _ h HLs.out HI.out).mono ?_
  rintro e w' ⟨he, rfl⟩
  rw [HS.out] at he
  subst he
  go_wp2_with fail
  go_loop [7] (fun i => ∃ k : Nat, k ≤ 7 ∧ i = .int .i64 k ∧ Hid (∀ j, j < k → 100 * pre l (j + 1) < p * S)) (fun i => 7 - (intOf i).toNat)
  case atStart => exact ⟨0, by omega, rfl, hid (fun j hj => by omega)⟩
  case round =>
    obtain ⟨k, hk, rfl, HB⟩ := hrel
    have hp := HP.out (k + 1)
    rw [HS.out] at hp
    have hw1 : IntKind.i64.wrap ((k : Int) + 1) = (k : Int) + 1 := by rw [IntKind.wrap_i64]; omega
    have hki : ((k : Int) + 1).toNat = k + 1 := by omega
    have hk0 : (0 : Int) ≤ (k : Int) + 1 := by omega
    have hkc : (k : Int) + 1 ≤ (c : Int) := by omega
    have HTL := hid (show (l.take (k + 1)).length = k + 1 by rw [List.length_take, HL.out]; omega)
    have HTE := hid (HT.out k)
    have HN1 := hid (fun (hh : 100 * pre l (k + 1) < p * S) => (show ∀ j, j < k + 1 → 100 * pre l (j + 1) < p * S from fun j hj => by
      rcases Nat.lt_or_ge j k with e | e
      · exact HB.out j e
      · obtain rfl : j = k := by omega
        exact hh))
    have HX := hid (fun (hh : ¬ 100 * pre l (k + 1) < p * S) => HU.out k ⟨by omega, by rw [HS.out]; omega, by rw [HS.out]; exact HB.out⟩)
    have HK7 := hid (fun (hh : 100 * pre l (k + 1) < p * S) => (show k < 7 by
      rcases Nat.lt_or_ge k 7 with e | e
      · exact e
      · obtain rfl : k = 7 := by omega
        have h9 : 100 * pre l 8 < p * S := hh
        have := HLast.out
        omega))
    have HTS := h.take (k + 1)
    obtain ⟨P, hP⟩ : ∃ P, P = pre l (k + 1) := ⟨_, rfl⟩
    rw [← hP] at hp HTE HN1 HX HK7
    have hw2 : IntKind.i64.wrap (100 * P) = 100 * P := by rw [IntKind.wrap_i64]; omega
    have HTS2 := hid (show Sees w w.heap.size A (ints (l.take (k + 1))) by rw [show ints (l.take (k + 1)) = (ints l).take (k + 1) by simp [ints]]; exact HTS)
    clear hP HTS
    by_cases hlt : 100 * P < p * S
    · have hk7 := HK7.out hlt
      have HNX := hid (HN1.out hlt)
      clear HK7
      go_wp2_with fail
      with_reducible refine (waSumOf_len HTL.out HTS2.out (by rw [HTL.out]; omega) (inC_take HI.out _)).mono ?_
      rintro e w' ⟨he, rfl⟩
      rw [HTE.out] at he
      subst he
      go_wp2
      go_round
      case rel => exact ⟨k + 1, by omega, by go_num, HNX⟩
      case measure => simp [intOf]; omega
    · have HXX := hid (HX.out hlt)
      clear HK7
      go_wp2_with fail
      with_reducible refine (waSumOf_len HTL.out HTS2.out (by rw [HTL.out]; omega) (inC_take HI.out _)).mono ?_
      rintro e w' ⟨he, rfl⟩
      rw [HTE.out] at he
      subst he
      go_wp2_with fail
      with_reducible refine (iBinTop_any _ _).mono ?_
      rintro e w' ⟨rfl, rfl⟩
      go_wp2
      go_ret2
      exact WuAns.yes E.out HXX.out

theorem iWaitUnder_b (l : List Int) (p : Int) (A : Option Addr) (c : Nat) (w : World) (h : Sees w w.heap.size A (ints l)) (hc : l.length ≤ c) (hn : l.length ≤ 4194304) :
    Calls Try.prog 27 #[.slice A l.length c, .int .i64 p] w fun e w' => e = .returned (.tuple #[.int .i64 (undV l p), .bool (undB l p)]) ∧ Below w.heap.size w w' :=
  (iWaitUnder_any l p A c w h hc hn).mono fun _ _ h => ⟨h.1, h.2 ▸ Below.refl _ _⟩
set_option maxHeartbeats 4000000 in
theorem sWaitUnder_any (l : List Int) (p : Int) (A : Option Addr) (c : Nat) (w : World) (h : Sees w w.heap.size A (ints l)) (hn : l.length ≤ 4194304) :
    Calls Try.prog 28 #[.slice A l.length c, .int .i64 p] w (WuAns l p w) := by
  have HN := hid hn
  rcases hv : cntB l with _ | _
  · have HV := hid hv
    have E := hid (und_no1 (p := p) hv)
    clear hv hn
    go_enter Try.func28, Try.ntmps28
    go_wp2_with fail
    with_reducible refine (svalidCounts_any A c l _ h HN.out).mono ?_
    rintro e w' ⟨he, rfl⟩
    rw [HV.out] at he
    subst he
    go_wp2
    go_ret2
    exact WuAns.no E.out
  have HV := hid hv
  rcases hp : inB p 0 100 with _ | _
  · have HP := hid hp
    have E := hid (und_no2 (l := l) (p := p) (fun e => by rw [inB_iff.2 e] at hp; cases hp))
    clear hv hn hp
    go_enter Try.func28, Try.ntmps28
    go_wp2_with fail
    with_reducible refine (svalidCounts_any A c l _ h HN.out).mono ?_
    rintro e w' ⟨he, rfl⟩
    rw [HV.out] at he
    subst he
    go_wp2_with fail
    with_reducible refine (inRange_any p _ _ _).mono ?_
    rintro e w' ⟨he, rfl⟩
    rw [HP.out] at he
    subst he
    go_wp2
    go_ret2
    exact WuAns.no E.out
  have HPB := hid hp
  obtain ⟨p0, p1⟩ := inB_iff.1 hp
  have HL := hid (cntB_iff.1 hv).1
  have HI := hid (cntB_iff.1 hv).2
  have HLs := hid (show l.length ≤ 100000 by rw [HL.out]; decide)
  by_cases hs : l.sum = 0
  · have E := hid (und_no3 (p := p) hs)
    have HS := hid hs
    clear hv hn hs hp
    go_enter Try.func28, Try.ntmps28
    go_wp2_with fail
    with_reducible refine (svalidCounts_any A c l _ h HN.out).mono ?_
    rintro e w' ⟨he, rfl⟩
    rw [HV.out] at he
    subst he
    go_wp2_with fail
    with_reducible refine (inRange_any p _ _ _).mono ?_
    rintro e w' ⟨he, rfl⟩
    rw [HPB.out] at he
    subst he
    go_wp2_with fail
    with_reducible refine (waTotal_any A c l _ h HLs.out HI.out).mono ?_
    rintro e w' ⟨he, rfl⟩
    rw [HS.out] at he
    subst he
    go_wp2
    go_ret2
    exact WuAns.no E.out
  have E3 : undB l p = true := undB_iff.2 ⟨hv, ⟨p0, p1⟩, hs⟩
  have E := hid E3
  have hsp := und_sum E3
  have hsr := (pre_range hv 0).2.2
  have HP := hid (fun k => pre_range hv k)
  have HB8 := hid (fun (k : Nat) (hk : k ≤ 8) (a : ∀ j, j < k → 100 * pre l j < p * l.sum) (b : k = 8 ∨ p * l.sum ≤ 100 * pre l k) => undV_of E3 (isU_back E3 hk a b))
  have hmb := mul_bd p0 p1 (show 0 ≤ l.sum by omega) hsr
  obtain ⟨S, hS⟩ : ∃ S, S = l.sum := ⟨_, rfl⟩
  have HS : Hid (l.sum = S) := hid hS.symm
  rw [← hS] at hsp hsr hmb hs HB8
  obtain ⟨hpw, hq0, hq1⟩ := hmb
  have hs2 : (S == 0) = false := beq_eq_false_iff_ne.2 hs
  clear hv hn hS E3 hs hp
  go_enter Try.func28, Try.ntmps28
  go_wp2_with fail
  with_reducible refine (svalidCounts_any A c l _ h HN.out).mono ?_
  rintro e w' ⟨he, rfl⟩
  rw [HV.out] at he
  subst he
  go_wp2_with fail
  with_reducible refine (inRange_any p _ _ _).mono ?_
  rintro e w' ⟨he, rfl⟩
  rw [HPB.out] at he
  subst he
  go_wp2_with fail
  with_reducible refine (waTotal_any A c l _ h HLs.out HI.out).mono ?_
  rintro e w' ⟨he, rfl⟩
  rw [HS.out] at he
  subst he
  go_wp2_with fail
  go_loop [6, 7, 8] (fun n b i => ∃ k : Nat, k ≤ 8 ∧ i = .int .i64 k ∧ n = .int .i64 (pre l k) ∧ b = .int .i64 ((k - 1 : Nat) : Int) ∧ Hid (∀ j, j < k → 100 * pre l j < p * S)) (fun _ _ i => 8 - (intOf i).toNat)
  case atStart => exact ⟨0, by omega, rfl, by rw [pre_zero], rfl, hid (fun j hj => by omega)⟩
  case round =>
    obtain ⟨k, hk, rfl, rfl, rfl, HB⟩ := hrel
    by_cases hlt : k < 8
    · have hki : (k : Int) < 8 := by omega
      have hp := HP.out k
      rw [HS.out] at hp
      have hkl : k < l.length := by rw [HL.out]; exact hlt
      obtain ⟨g, o, rfl, _, hc⟩ := h.int hkl
      have hx := HI.out l[k] (List.getElem_mem hkl)
      have HPS := hid (pre_succ hkl)
      have HN1 := hid (fun (hh : 100 * pre l k < p * S) => (show ∀ j, j < k + 1 → 100 * pre l j < p * S from fun j hj => by
        rcases Nat.lt_or_ge j k with e | e
        · exact HB.out j e
        · obtain rfl : j = k := by omega
          exact hh))
      have HX := hid (fun (hh : ¬ 100 * pre l k < p * S) => HB8.out k (by omega) HB.out (.inr (by omega)))
      obtain ⟨x, hx2⟩ : ∃ x, x = l[k] := ⟨_, rfl⟩
      rw [← hx2] at hc hx HPS
      obtain ⟨P, hP⟩ : ∃ P, P = pre l k := ⟨_, rfl⟩
      rw [← hP] at hp HPS HN1 HX
      rw [← hP]
      have hw2 : IntKind.i64.wrap (P * 100) = P * 100 := by rw [IntKind.wrap_i64]; omega
      have hw3 : IntKind.i64.wrap (P + x) = P + x := by rw [IntKind.wrap_i64]; omega
      have hkl2 : (k : Int) < (l.length : Int) := by omega
      clear hx2 hP
      by_cases hq : 100 * P < p * S
      · have hq' : P * 100 < p * S := by omega
        have HNX := hid (HN1.out hq)
        go_wp2_with fail
        with_reducible refine (waTotal_any _ c l _ h HLs.out HI.out).mono ?_
        rintro e w' ⟨he, rfl⟩
        rw [HS.out] at he
        subst he
        go_wp2
        go_round
        case rel => exact ⟨k + 1, by omega, by go_num, by rw [HPS.out], by simp, HNX⟩
        case measure => simp [intOf]; omega
      · have hq' : ¬ P * 100 < p * S := by omega
        have HXX := hid (HX.out hq)
        go_wp2_with fail
        with_reducible refine (waTotal_any _ c l _ h HLs.out HI.out).mono ?_
        rintro e w' ⟨he, rfl⟩
        rw [HS.out] at he
        subst he
        go_wp2_with fail
        with_reducible refine (sBinTop_any _ _).mono ?_
        rintro e w' ⟨rfl, rfl⟩
        go_wp2
        go_ret2
        exact WuAns.yes E.out HXX.out
    · have hki : ¬ (k : Int) < 8 := by omega
      have HXX := hid (HB8.out k hk HB.out (.inl (by omega)))
      go_wp2_with fail
      with_reducible refine (sBinTop_any _ _).mono ?_
      rintro e w' ⟨rfl, rfl⟩
      go_wp2
      go_ret2
      exact WuAns.yes E.out HXX.out

theorem sWaitUnder_b (l : List Int) (p : Int) (A : Option Addr) (c : Nat) (w : World) (h : Sees w w.heap.size A (ints l)) (hn : l.length ≤ 4194304) :
    Calls Try.prog 28 #[.slice A l.length c, .int .i64 p] w fun e w' => e = .returned (.tuple #[.int .i64 (undV l p), .bool (undB l p)]) ∧ Below w.heap.size w w' :=
  (sWaitUnder_any l p A c w h hn).mono fun _ _ h => ⟨h.1, h.2 ▸ Below.refl _ _⟩
end Go.Proofs.Ytiiieollemhjmab

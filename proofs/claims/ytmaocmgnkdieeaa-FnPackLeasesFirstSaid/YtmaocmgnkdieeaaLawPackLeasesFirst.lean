/-
  The walk of the law FnPackLeasesFirst: at every code it returns true and changes nothing that was there. Conditions: none.
-/
import Derived.Test.YtmaocmgnkdieeaaSzN
import Derived.Test.YtmaocmgnkdieeaaLawLs
import Derived.BigQuiet
namespace Go.Proofs.Ytmaocmgnkdieeaa
open Go.RowKit Lse

theorem first_next {V : List L} {B B2 : Bool} {k : Nat} {hlt : k < V.length} {x : L} (HB : ∀ p, ∀ h : p < V.length, p < k → V[p].c = 0 → B = true) (hx : x = V[k]) (hB2 : B2 = (B || x.c == 0)) :
    ∀ p, ∀ h : p < V.length, p < k + 1 → V[p].c = 0 → B2 = true := fun p h hp e => by
  rw [hB2]
  by_cases hh : p < k
  · rw [HB p h hh e]; rfl
  · have hpk : p = k := by omega
    subst hpk
    rw [hx, e]; simp
theorem some_next {V : List L} {j : Nat} {hj : j < V.length} {x y : L} (HS : ∀ q, ∀ h : q < V.length, q < j → V[q].c = x.c - 1 → V[q].f ≤ x.f → x.f < V[q].u → false = true) (hy : y = V[j]) (hn : y.c = x.c - 1 → y.f ≤ x.f → x.f < y.u → False) :
    ∀ q, ∀ h : q < V.length, q < j + 1 → V[q].c = x.c - 1 → V[q].f ≤ x.f → x.f < V[q].u → false = true := fun q h hq e1 e2 e3 => by
  by_cases hh : q < j
  · exact HS q h hh e1 e2 e3
  · have hqj : q = j := by omega
    subst hqj
    rw [← hy] at e1 e2 e3
    exact absurd e3 (fun _ => hn e1 e2 e3)

set_option maxHeartbeats 16000000 in
set_option maxRecDepth 16384 in
theorem walkPackLeasesFirst (a : Option Addr) (len cap : Nat) (zs : List Int) (w : World) (hn : zs.length = len) (hc : len ≤ cap) (hcc : cap ≤ maxLen) (h : Sees w w.heap.size a (byts zs)) (hz : ∀ y ∈ zs, 0 ≤ y ∧ y ≤ 255) :
    Calls Try.prog 5 #[.slice a len cap] w fun e w' => e = .returned (.bool true) ∧ Below w.heap.size w w' := by
  have HE := hid hn
  have HC := hid hcc
  have HZ := hid hz
  clear hn hcc hz
  by_cases hbig : 1048576 < len
  · go_enter Try.func5, Try.ntmps5
    go_wp2
    go_ret
    exact ⟨rfl, Below.refl _ _⟩
  · go_enter Try.func5, Try.ntmps5
    go_wp2_with fail
    refine (drawPackLeases_any _ _ _ _ _ h HZ.out HE.out hc (by omega) HC.out).mono ?_
    rintro e w1 ⟨A, c, l, rfl, dl⟩
    have HLAW := hid (pack_law (l := l))
    have HFST := hid (pack_first (l := l))
    have HTW := hid (pack_twice (l := l))
    obtain ⟨K, hK⟩ : ∃ K, K = validB l := ⟨_, rfl⟩
    have EK : Hid (validB l = K) := hid hK.symm
    obtain ⟨V, hV⟩ : ∃ V, V = packE l := ⟨_, rfl⟩
    have EV : Hid (packE l = V) := hid hV.symm
    have HVn : Hid (V.length ≤ 13) := hid (by rw [hV]; have := packE_len l; have := dl.2.2.1; omega)
    have HMN := hid (show mostOf l ≤ l.length by have := most_le l; unfold mostOf; split <;> omega)
    obtain ⟨N, hN⟩ : ∃ N, N = mostOf l := ⟨_, rfl⟩
    have EN : Hid (mostOf l = N) := hid hN.symm
    rw [← hV, ← hN] at HLAW
    rw [← hV] at HTW HFST
    rw [← hN] at HMN
    clear hK hV hN
    go_wp2_with fail
    refine (iPackLeases_x A c l _ dl.sees dl.cap dl.n4).mono ?_
    rintro e w2 ⟨vw2, he, how2, hb⟩
    rw [EK.out] at he
    subst he
    rw [EV.out] at how2
    replace dl := dl.below hb
    clear hb
    obtain ⟨A2, c2, rfl, hc2, _, _⟩ := how2.form
    have HC2 := hid hc2
    clear hc2
    go_wp2_with fail
    refine (sPackLeases_x A c l _ dl.sees dl.n4).mono ?_
    rintro e w3 ⟨vw3, he, how3, hb⟩
    rw [EK.out] at he
    subst he
    rw [EV.out] at how3
    replace dl := dl.below hb
    replace how2 := how2.below hb
    clear hb
    obtain ⟨A3, c3, rfl, _, _, _⟩ := how3.form
    go_wp2_with fail
    refine (equalLeases_same rfl how2.sees how3.sees (Nat.le_trans HVn.out (by decide))).mono ?_
    rintro e w4 ⟨rfl, hb⟩
    replace dl := dl.below hb
    replace how2 := how2.below hb
    replace how3 := how3.below hb
    clear hb
    rcases K with _ | _
    · skip
      go_wp2_with fail
      refine (equalLeases_same rfl how2.sees how3.sees (Nat.le_trans HVn.out (by decide))).mono ?_
      rintro e w4 ⟨rfl, hb⟩
      replace dl := dl.below hb
      replace how2 := how2.below hb
      replace how3 := how3.below hb
      clear hb
      go_wp2
      go_ret
      exact ⟨by first | rfl | (simp; done) | (simp; omega), dl.bel⟩
    · by_cases h0 : V.length = 0
      · have h0b : ((V.length : Int) == 0) = true := by simp [h0]
        have H0 := hid h0
        clear h0
        go_wp2_with fail
        refine (equalLeases_same rfl how2.sees how3.sees (Nat.le_trans HVn.out (by decide))).mono ?_
        rintro e w4 ⟨rfl, hb⟩
        replace dl := dl.below hb
        replace how2 := how2.below hb
        replace how3 := how3.below hb
        clear hb
        go_wp2
        go_ret
        exact ⟨by first | rfl | (simp; done) | (simp; omega), dl.bel⟩
      · have h0b : ((V.length : Int) == 0) = false := beq_eq_false_iff_ne.2 (by omega)
        obtain ⟨h1, h2⟩ := HFST.out EK.out
        have HF1 := hid (h1 (by omega))
        have HF2 := hid h2
        clear h1 h2 how3 h0
        go_wp2_with fail
        go_loopw [8, 9] (fun v i wr => ∃ (k : Nat) (B : Bool), Hid (k ≤ V.length) ∧ i = .int .i64 k ∧ v = .bool B ∧ Hid (∀ p, ∀ h : p < V.length, p < k → V[p].c = 0 → B = true) ∧ DL w wr A c l ∧ OwnS 30 4 lcells wr w1.heap.size (.slice A2 V.length c2) V) (fun _ i _ => V.length - (intOf i).toNat)
        case atStart => exact ⟨0, false, hid (Nat.zero_le _), rfl, rfl, hid (fun p _ h => absurd h (by omega)), dl, how2⟩
        case round =>
          clear dl how2
          obtain ⟨k, B, HK, rfl, rfl, HB, dl, how2⟩ := hrel
          have hsV := how2.sees
          have hl13 := HVn.out
          have hk13 : k ≤ 13 := Nat.le_trans HK.out hl13
          by_cases hlt : k < V.length
          · have hi : (k : Int) < (V.length : Int) := by omega
            have hk0 : (0 : Int) ≤ (k : Int) := by omega
            obtain ⟨⟨g1, g2⟩, g3⟩ := HF2.out k hlt
            obtain ⟨b, o, rfl, hbl, e0, e1, e2, e3⟩ := hsV.lease hlt
            obtain ⟨x, hx⟩ : ∃ x, x = V[k]'hlt := ⟨_, rfl⟩
            rw [← hx] at e0 e1 e2 e3 g1 g2 g3
            have HX := hid hx
            have HG3 := hid g3
            have hw1 : IntKind.i64.wrap (x.c - 1) = x.c - 1 := by rw [IntKind.wrap_i64]; omega
            have HLT := hid hlt
            clear hx g3 e1 e3
            obtain ⟨B2, hB2⟩ : ∃ B2 : Bool, B2 = (B || x.c == 0) := ⟨_, rfl⟩
            have HB2 := hid hB2
            have HBN := hid (first_next HB.out HX.out hB2)
            clear hB2
            rcases B with _ | _
            · by_cases c0 : x.c = 0
              · have c0b : (x.c == 0) = true := by simp [c0]
                have HC0 := hid c0
                clear c0
                go_wp2_with fail
                go_loopw [10, 11] (fun v i wr => ∃ (j : Nat) (S : Bool), Hid (j ≤ V.length) ∧ i = .int .i64 j ∧ v = .bool S ∧ Hid (x.c = 0 → S = true) ∧ Hid (∀ q, ∀ h : q < V.length, q < j → V[q].c = x.c - 1 → V[q].f ≤ x.f → x.f < V[q].u → S = true) ∧ DL w wr A c l ∧ OwnS 30 4 lcells wr w1.heap.size (.slice (some ⟨b, o, none⟩) V.length c2) V) (fun _ i _ => V.length - (intOf i).toNat)
                case atStart => exact ⟨0, true, hid (Nat.zero_le _), rfl, rfl, hid (fun h => by first | rfl | exact absurd h HC0.out), hid (fun q _ h => absurd h (by omega)), dl, how2⟩
                case round =>
                  clear e0 e2 hsV dl how2 hbl
                  obtain ⟨j, S, HJ, rfl, rfl, HS0, HS, dl, how2⟩ := hrel
                  have hsV := how2.sees
                  obtain ⟨b2, o2, he, hbl, e0, e1, e2, e3⟩ := hsV.lease HLT.out
                  injection he with he
                  injection he with he1 he2
                  subst he1 he2
                  rw [← HX.out] at e0 e2
                  clear e1 e3
                  have hj13 : j ≤ 13 := Nat.le_trans HJ.out hl13
                  by_cases hjl : j < V.length
                  · have hji : (j : Int) < (V.length : Int) := by omega
                    have hj0 : (0 : Int) ≤ (j : Int) := by omega
                    obtain ⟨b2, o2, he, _, f0, f1, f2, f3⟩ := hsV.lease hjl
                    injection he with he
                    injection he with he1 he2
                    subst he1 he2
                    obtain ⟨y, hy⟩ : ∃ y, y = V[j]'hjl := ⟨_, rfl⟩
                    rw [← hy] at f0 f1 f2 f3
                    have HY := hid hy
                    have HJL := hid hjl
                    clear hy f1
                    rcases S with _ | _
                    · by_cases c1 : y.c = x.c - 1
                      · have c1b : (y.c == x.c - 1) = true := by simp [c1]
                        have C1 := hid c1
                        clear c1
                        by_cases c2 : y.f ≤ x.f
                        · have c2b : decide (y.f ≤ x.f) = true := decide_eq_true c2
                          by_cases c3 : x.f < y.u
                          · have c3b : decide (x.f < y.u) = true := decide_eq_true c3
                            clear c2 c3
                            go_wp2
                            go_quiet (fail)
                            go_wp2
                            go_roundw
                            case rel => exact ⟨j + 1, true, hid (by have := HJL.out; omega), by go_num, rfl, hid (fun _ => rfl), hid (fun _ _ _ _ _ _ => rfl), dl.drewN _, how2.below (below_drewN (Below.refl _ _) _)⟩
                            case measure => have := HJL.out; simp [intOf]; omega
                          · have c3b : decide (x.f < y.u) = false := decide_eq_false c3
                            have C3 := hid c3
                            clear c2 c3
                            go_wp2
                            go_quiet (fail)
                            go_wp2
                            go_roundw
                            case rel => exact ⟨j + 1, false, hid (by have := HJL.out; omega), by go_num, rfl, HS0, hid (some_next HS.out HY.out (fun g1 g2 g3 => by have := C3.out; omega)), dl.drewN _, how2.below (below_drewN (Below.refl _ _) _)⟩
                            case measure => have := HJL.out; simp [intOf]; omega
                        · have c2b : decide (y.f ≤ x.f) = false := decide_eq_false c2
                          have C2 := hid c2
                          clear c2
                          go_wp2
                          go_quiet (fail)
                          go_wp2
                          go_roundw
                          case rel => exact ⟨j + 1, false, hid (by have := HJL.out; omega), by go_num, rfl, HS0, hid (some_next HS.out HY.out (fun g1 g2 g3 => by have := C2.out; omega)), dl.drewN _, how2.below (below_drewN (Below.refl _ _) _)⟩
                          case measure => have := HJL.out; simp [intOf]; omega
                      · have c1b : (y.c == x.c - 1) = false := beq_eq_false_iff_ne.2 c1
                        have C1 := hid c1
                        clear c1
                        go_wp2
                        go_quiet (fail)
                        go_wp2
                        go_roundw
                        case rel => exact ⟨j + 1, false, hid (by have := HJL.out; omega), by go_num, rfl, HS0, hid (some_next HS.out HY.out (fun g1 g2 g3 => by have := C1.out; omega)), dl.drewN _, how2.below (below_drewN (Below.refl _ _) _)⟩
                        case measure => have := HJL.out; simp [intOf]; omega
                    · skip
                      go_wp2
                      go_quiet (fail)
                      go_wp2
                      go_roundw
                      case rel => exact ⟨j + 1, true, hid (by have := HJL.out; omega), by go_num, rfl, hid (fun _ => rfl), hid (fun _ _ _ _ _ _ => rfl), dl.drewN _, how2.below (below_drewN (Below.refl _ _) _)⟩
                      case measure => have := HJL.out; simp [intOf]; omega
                  · have hji : ¬ (j : Int) < (V.length : Int) := by omega
                    have hjj : j = V.length := by have := HJ.out; omega
                    have hS : S = true := by
                      rcases HG3.out with h | ⟨q, hq, q1, q2, q3⟩
                      · exact HS0.out h
                      · exact HS.out q hq (by omega) q1 q2 q3
                    subst hS
                    clear hjj
                    go_wp2
                    go_roundw
                    case rel => exact ⟨k + 1, B2, hid (by have := HLT.out; omega), by go_num, by rw [HB2.out]; first | rfl | simp [HC0.out], HBN, dl, how2⟩
                    case measure => have := HLT.out; simp [intOf]; omega
              · have c0b : (x.c == 0) = false := beq_eq_false_iff_ne.2 c0
                have HC0 := hid c0
                clear c0
                go_wp2_with fail
                go_loopw [10, 11] (fun v i wr => ∃ (j : Nat) (S : Bool), Hid (j ≤ V.length) ∧ i = .int .i64 j ∧ v = .bool S ∧ Hid (x.c = 0 → S = true) ∧ Hid (∀ q, ∀ h : q < V.length, q < j → V[q].c = x.c - 1 → V[q].f ≤ x.f → x.f < V[q].u → S = true) ∧ DL w wr A c l ∧ OwnS 30 4 lcells wr w1.heap.size (.slice (some ⟨b, o, none⟩) V.length c2) V) (fun _ i _ => V.length - (intOf i).toNat)
                case atStart => exact ⟨0, false, hid (Nat.zero_le _), rfl, rfl, hid (fun h => by first | rfl | exact absurd h HC0.out), hid (fun q _ h => absurd h (by omega)), dl, how2⟩
                case round =>
                  clear e0 e2 hsV dl how2 hbl
                  obtain ⟨j, S, HJ, rfl, rfl, HS0, HS, dl, how2⟩ := hrel
                  have hsV := how2.sees
                  obtain ⟨b2, o2, he, hbl, e0, e1, e2, e3⟩ := hsV.lease HLT.out
                  injection he with he
                  injection he with he1 he2
                  subst he1 he2
                  rw [← HX.out] at e0 e2
                  clear e1 e3
                  have hj13 : j ≤ 13 := Nat.le_trans HJ.out hl13
                  by_cases hjl : j < V.length
                  · have hji : (j : Int) < (V.length : Int) := by omega
                    have hj0 : (0 : Int) ≤ (j : Int) := by omega
                    obtain ⟨b2, o2, he, _, f0, f1, f2, f3⟩ := hsV.lease hjl
                    injection he with he
                    injection he with he1 he2
                    subst he1 he2
                    obtain ⟨y, hy⟩ : ∃ y, y = V[j]'hjl := ⟨_, rfl⟩
                    rw [← hy] at f0 f1 f2 f3
                    have HY := hid hy
                    have HJL := hid hjl
                    clear hy f1
                    rcases S with _ | _
                    · by_cases c1 : y.c = x.c - 1
                      · have c1b : (y.c == x.c - 1) = true := by simp [c1]
                        have C1 := hid c1
                        clear c1
                        by_cases c2 : y.f ≤ x.f
                        · have c2b : decide (y.f ≤ x.f) = true := decide_eq_true c2
                          by_cases c3 : x.f < y.u
                          · have c3b : decide (x.f < y.u) = true := decide_eq_true c3
                            clear c2 c3
                            go_wp2
                            go_quiet (fail)
                            go_wp2
                            go_roundw
                            case rel => exact ⟨j + 1, true, hid (by have := HJL.out; omega), by go_num, rfl, hid (fun _ => rfl), hid (fun _ _ _ _ _ _ => rfl), dl.drewN _, how2.below (below_drewN (Below.refl _ _) _)⟩
                            case measure => have := HJL.out; simp [intOf]; omega
                          · have c3b : decide (x.f < y.u) = false := decide_eq_false c3
                            have C3 := hid c3
                            clear c2 c3
                            go_wp2
                            go_quiet (fail)
                            go_wp2
                            go_roundw
                            case rel => exact ⟨j + 1, false, hid (by have := HJL.out; omega), by go_num, rfl, HS0, hid (some_next HS.out HY.out (fun g1 g2 g3 => by have := C3.out; omega)), dl.drewN _, how2.below (below_drewN (Below.refl _ _) _)⟩
                            case measure => have := HJL.out; simp [intOf]; omega
                        · have c2b : decide (y.f ≤ x.f) = false := decide_eq_false c2
                          have C2 := hid c2
                          clear c2
                          go_wp2
                          go_quiet (fail)
                          go_wp2
                          go_roundw
                          case rel => exact ⟨j + 1, false, hid (by have := HJL.out; omega), by go_num, rfl, HS0, hid (some_next HS.out HY.out (fun g1 g2 g3 => by have := C2.out; omega)), dl.drewN _, how2.below (below_drewN (Below.refl _ _) _)⟩
                          case measure => have := HJL.out; simp [intOf]; omega
                      · have c1b : (y.c == x.c - 1) = false := beq_eq_false_iff_ne.2 c1
                        have C1 := hid c1
                        clear c1
                        go_wp2
                        go_quiet (fail)
                        go_wp2
                        go_roundw
                        case rel => exact ⟨j + 1, false, hid (by have := HJL.out; omega), by go_num, rfl, HS0, hid (some_next HS.out HY.out (fun g1 g2 g3 => by have := C1.out; omega)), dl.drewN _, how2.below (below_drewN (Below.refl _ _) _)⟩
                        case measure => have := HJL.out; simp [intOf]; omega
                    · skip
                      go_wp2
                      go_quiet (fail)
                      go_wp2
                      go_roundw
                      case rel => exact ⟨j + 1, true, hid (by have := HJL.out; omega), by go_num, rfl, hid (fun _ => rfl), hid (fun _ _ _ _ _ _ => rfl), dl.drewN _, how2.below (below_drewN (Below.refl _ _) _)⟩
                      case measure => have := HJL.out; simp [intOf]; omega
                  · have hji : ¬ (j : Int) < (V.length : Int) := by omega
                    have hjj : j = V.length := by have := HJ.out; omega
                    have hS : S = true := by
                      rcases HG3.out with h | ⟨q, hq, q1, q2, q3⟩
                      · exact HS0.out h
                      · exact HS.out q hq (by omega) q1 q2 q3
                    subst hS
                    clear hjj
                    go_wp2
                    go_roundw
                    case rel => exact ⟨k + 1, B2, hid (by have := HLT.out; omega), by go_num, by rw [HB2.out]; first | rfl | simp [HC0.out], HBN, dl, how2⟩
                    case measure => have := HLT.out; simp [intOf]; omega
            · by_cases c0 : x.c = 0
              · have c0b : (x.c == 0) = true := by simp [c0]
                have HC0 := hid c0
                clear c0
                go_wp2_with fail
                go_loopw [10, 11] (fun v i wr => ∃ (j : Nat) (S : Bool), Hid (j ≤ V.length) ∧ i = .int .i64 j ∧ v = .bool S ∧ Hid (x.c = 0 → S = true) ∧ Hid (∀ q, ∀ h : q < V.length, q < j → V[q].c = x.c - 1 → V[q].f ≤ x.f → x.f < V[q].u → S = true) ∧ DL w wr A c l ∧ OwnS 30 4 lcells wr w1.heap.size (.slice (some ⟨b, o, none⟩) V.length c2) V) (fun _ i _ => V.length - (intOf i).toNat)
                case atStart => exact ⟨0, true, hid (Nat.zero_le _), rfl, rfl, hid (fun h => by first | rfl | exact absurd h HC0.out), hid (fun q _ h => absurd h (by omega)), dl, how2⟩
                case round =>
                  clear e0 e2 hsV dl how2 hbl
                  obtain ⟨j, S, HJ, rfl, rfl, HS0, HS, dl, how2⟩ := hrel
                  have hsV := how2.sees
                  obtain ⟨b2, o2, he, hbl, e0, e1, e2, e3⟩ := hsV.lease HLT.out
                  injection he with he
                  injection he with he1 he2
                  subst he1 he2
                  rw [← HX.out] at e0 e2
                  clear e1 e3
                  have hj13 : j ≤ 13 := Nat.le_trans HJ.out hl13
                  by_cases hjl : j < V.length
                  · have hji : (j : Int) < (V.length : Int) := by omega
                    have hj0 : (0 : Int) ≤ (j : Int) := by omega
                    obtain ⟨b2, o2, he, _, f0, f1, f2, f3⟩ := hsV.lease hjl
                    injection he with he
                    injection he with he1 he2
                    subst he1 he2
                    obtain ⟨y, hy⟩ : ∃ y, y = V[j]'hjl := ⟨_, rfl⟩
                    rw [← hy] at f0 f1 f2 f3
                    have HY := hid hy
                    have HJL := hid hjl
                    clear hy f1
                    rcases S with _ | _
                    · by_cases c1 : y.c = x.c - 1
                      · have c1b : (y.c == x.c - 1) = true := by simp [c1]
                        have C1 := hid c1
                        clear c1
                        by_cases c2 : y.f ≤ x.f
                        · have c2b : decide (y.f ≤ x.f) = true := decide_eq_true c2
                          by_cases c3 : x.f < y.u
                          · have c3b : decide (x.f < y.u) = true := decide_eq_true c3
                            clear c2 c3
                            go_wp2
                            go_quiet (fail)
                            go_wp2
                            go_roundw
                            case rel => exact ⟨j + 1, true, hid (by have := HJL.out; omega), by go_num, rfl, hid (fun _ => rfl), hid (fun _ _ _ _ _ _ => rfl), dl.drewN _, how2.below (below_drewN (Below.refl _ _) _)⟩
                            case measure => have := HJL.out; simp [intOf]; omega
                          · have c3b : decide (x.f < y.u) = false := decide_eq_false c3
                            have C3 := hid c3
                            clear c2 c3
                            go_wp2
                            go_quiet (fail)
                            go_wp2
                            go_roundw
                            case rel => exact ⟨j + 1, false, hid (by have := HJL.out; omega), by go_num, rfl, HS0, hid (some_next HS.out HY.out (fun g1 g2 g3 => by have := C3.out; omega)), dl.drewN _, how2.below (below_drewN (Below.refl _ _) _)⟩
                            case measure => have := HJL.out; simp [intOf]; omega
                        · have c2b : decide (y.f ≤ x.f) = false := decide_eq_false c2
                          have C2 := hid c2
                          clear c2
                          go_wp2
                          go_quiet (fail)
                          go_wp2
                          go_roundw
                          case rel => exact ⟨j + 1, false, hid (by have := HJL.out; omega), by go_num, rfl, HS0, hid (some_next HS.out HY.out (fun g1 g2 g3 => by have := C2.out; omega)), dl.drewN _, how2.below (below_drewN (Below.refl _ _) _)⟩
                          case measure => have := HJL.out; simp [intOf]; omega
                      · have c1b : (y.c == x.c - 1) = false := beq_eq_false_iff_ne.2 c1
                        have C1 := hid c1
                        clear c1
                        go_wp2
                        go_quiet (fail)
                        go_wp2
                        go_roundw
                        case rel => exact ⟨j + 1, false, hid (by have := HJL.out; omega), by go_num, rfl, HS0, hid (some_next HS.out HY.out (fun g1 g2 g3 => by have := C1.out; omega)), dl.drewN _, how2.below (below_drewN (Below.refl _ _) _)⟩
                        case measure => have := HJL.out; simp [intOf]; omega
                    · skip
                      go_wp2
                      go_quiet (fail)
                      go_wp2
                      go_roundw
                      case rel => exact ⟨j + 1, true, hid (by have := HJL.out; omega), by go_num, rfl, hid (fun _ => rfl), hid (fun _ _ _ _ _ _ => rfl), dl.drewN _, how2.below (below_drewN (Below.refl _ _) _)⟩
                      case measure => have := HJL.out; simp [intOf]; omega
                  · have hji : ¬ (j : Int) < (V.length : Int) := by omega
                    have hjj : j = V.length := by have := HJ.out; omega
                    have hS : S = true := by
                      rcases HG3.out with h | ⟨q, hq, q1, q2, q3⟩
                      · exact HS0.out h
                      · exact HS.out q hq (by omega) q1 q2 q3
                    subst hS
                    clear hjj
                    go_wp2
                    go_roundw
                    case rel => exact ⟨k + 1, B2, hid (by have := HLT.out; omega), by go_num, by rw [HB2.out]; first | rfl | simp [HC0.out], HBN, dl, how2⟩
                    case measure => have := HLT.out; simp [intOf]; omega
              · have c0b : (x.c == 0) = false := beq_eq_false_iff_ne.2 c0
                have HC0 := hid c0
                clear c0
                go_wp2_with fail
                go_loopw [10, 11] (fun v i wr => ∃ (j : Nat) (S : Bool), Hid (j ≤ V.length) ∧ i = .int .i64 j ∧ v = .bool S ∧ Hid (x.c = 0 → S = true) ∧ Hid (∀ q, ∀ h : q < V.length, q < j → V[q].c = x.c - 1 → V[q].f ≤ x.f → x.f < V[q].u → S = true) ∧ DL w wr A c l ∧ OwnS 30 4 lcells wr w1.heap.size (.slice (some ⟨b, o, none⟩) V.length c2) V) (fun _ i _ => V.length - (intOf i).toNat)
                case atStart => exact ⟨0, false, hid (Nat.zero_le _), rfl, rfl, hid (fun h => by first | rfl | exact absurd h HC0.out), hid (fun q _ h => absurd h (by omega)), dl, how2⟩
                case round =>
                  clear e0 e2 hsV dl how2 hbl
                  obtain ⟨j, S, HJ, rfl, rfl, HS0, HS, dl, how2⟩ := hrel
                  have hsV := how2.sees
                  obtain ⟨b2, o2, he, hbl, e0, e1, e2, e3⟩ := hsV.lease HLT.out
                  injection he with he
                  injection he with he1 he2
                  subst he1 he2
                  rw [← HX.out] at e0 e2
                  clear e1 e3
                  have hj13 : j ≤ 13 := Nat.le_trans HJ.out hl13
                  by_cases hjl : j < V.length
                  · have hji : (j : Int) < (V.length : Int) := by omega
                    have hj0 : (0 : Int) ≤ (j : Int) := by omega
                    obtain ⟨b2, o2, he, _, f0, f1, f2, f3⟩ := hsV.lease hjl
                    injection he with he
                    injection he with he1 he2
                    subst he1 he2
                    obtain ⟨y, hy⟩ : ∃ y, y = V[j]'hjl := ⟨_, rfl⟩
                    rw [← hy] at f0 f1 f2 f3
                    have HY := hid hy
                    have HJL := hid hjl
                    clear hy f1
                    rcases S with _ | _
                    · by_cases c1 : y.c = x.c - 1
                      · have c1b : (y.c == x.c - 1) = true := by simp [c1]
                        have C1 := hid c1
                        clear c1
                        by_cases c2 : y.f ≤ x.f
                        · have c2b : decide (y.f ≤ x.f) = true := decide_eq_true c2
                          by_cases c3 : x.f < y.u
                          · have c3b : decide (x.f < y.u) = true := decide_eq_true c3
                            clear c2 c3
                            go_wp2
                            go_quiet (fail)
                            go_wp2
                            go_roundw
                            case rel => exact ⟨j + 1, true, hid (by have := HJL.out; omega), by go_num, rfl, hid (fun _ => rfl), hid (fun _ _ _ _ _ _ => rfl), dl.drewN _, how2.below (below_drewN (Below.refl _ _) _)⟩
                            case measure => have := HJL.out; simp [intOf]; omega
                          · have c3b : decide (x.f < y.u) = false := decide_eq_false c3
                            have C3 := hid c3
                            clear c2 c3
                            go_wp2
                            go_quiet (fail)
                            go_wp2
                            go_roundw
                            case rel => exact ⟨j + 1, false, hid (by have := HJL.out; omega), by go_num, rfl, HS0, hid (some_next HS.out HY.out (fun g1 g2 g3 => by have := C3.out; omega)), dl.drewN _, how2.below (below_drewN (Below.refl _ _) _)⟩
                            case measure => have := HJL.out; simp [intOf]; omega
                        · have c2b : decide (y.f ≤ x.f) = false := decide_eq_false c2
                          have C2 := hid c2
                          clear c2
                          go_wp2
                          go_quiet (fail)
                          go_wp2
                          go_roundw
                          case rel => exact ⟨j + 1, false, hid (by have := HJL.out; omega), by go_num, rfl, HS0, hid (some_next HS.out HY.out (fun g1 g2 g3 => by have := C2.out; omega)), dl.drewN _, how2.below (below_drewN (Below.refl _ _) _)⟩
                          case measure => have := HJL.out; simp [intOf]; omega
                      · have c1b : (y.c == x.c - 1) = false := beq_eq_false_iff_ne.2 c1
                        have C1 := hid c1
                        clear c1
                        go_wp2
                        go_quiet (fail)
                        go_wp2
                        go_roundw
                        case rel => exact ⟨j + 1, false, hid (by have := HJL.out; omega), by go_num, rfl, HS0, hid (some_next HS.out HY.out (fun g1 g2 g3 => by have := C1.out; omega)), dl.drewN _, how2.below (below_drewN (Below.refl _ _) _)⟩
                        case measure => have := HJL.out; simp [intOf]; omega
                    · skip
                      go_wp2
                      go_quiet (fail)
                      go_wp2
                      go_roundw
                      case rel => exact ⟨j + 1, true, hid (by have := HJL.out; omega), by go_num, rfl, hid (fun _ => rfl), hid (fun _ _ _ _ _ _ => rfl), dl.drewN _, how2.below (below_drewN (Below.refl _ _) _)⟩
                      case measure => have := HJL.out; simp [intOf]; omega
                  · have hji : ¬ (j : Int) < (V.length : Int) := by omega
                    have hjj : j = V.length := by have := HJ.out; omega
                    have hS : S = true := by
                      rcases HG3.out with h | ⟨q, hq, q1, q2, q3⟩
                      · exact HS0.out h
                      · exact HS.out q hq (by omega) q1 q2 q3
                    subst hS
                    clear hjj
                    go_wp2
                    go_roundw
                    case rel => exact ⟨k + 1, B2, hid (by have := HLT.out; omega), by go_num, by rw [HB2.out]; first | rfl | simp [HC0.out], HBN, dl, how2⟩
                    case measure => have := HLT.out; simp [intOf]; omega
          · have hi : ¬ (k : Int) < (V.length : Int) := by omega
            have hkk : k = V.length := by have := HK.out; omega
            obtain ⟨p, hp, e⟩ := HF1.out
            have hBt : B = true := HB.out p hp (by omega) e
            subst hBt
            clear hkk e
            go_wp2
            go_ret
            exact ⟨by first | rfl | (simp; done) | (simp; omega), dl.bel⟩
end Go.Proofs.Ytmaocmgnkdieeaa

/-
  The walk of the law FnRouteReads: at every code it returns true and changes nothing that was there. Conditions: none.
-/
import Derived.Test.YtbgpdpmijlhkkabLawHo
import Derived.Test.YtbgpdpmijlhkkabHoDrawR
import Derived.Test.YtbgpdpmijlhkkabLawFrame
import Derived.BigQuiet
import Derived.Deep.RegionHeldLaw
namespace Go.Proofs.Ytbgpdpmijlhkkab
open Go.RowKit Hos

set_option maxHeartbeats 8000000 in
set_option maxRecDepth 16384 in
theorem walkRouteReads (a : Option Addr) (len cap : Nat) (zs : List Int) (w : World) (hn : zs.length = len) (hc : len ≤ cap) (hcc : cap ≤ maxLen) (h : Sees w w.heap.size a (byts zs)) (hz : ∀ y ∈ zs, 0 ≤ y ∧ y ≤ 255) :
    Calls Try.prog 7 #[.slice a len cap] w fun e w' => e = .returned (.bool true) ∧ Below w.heap.size w w' := by
  have HE := hid hn
  have HC := hid hcc
  have HZ := hid hz
  clear hn hcc hz
  by_cases hbig : 1048576 < len
  · go_enter Try.func7, Try.ntmps7
    go_wp2
    go_ret
    exact ⟨rfl, Below.refl _ _⟩
  · go_enter Try.func7, Try.ntmps7
    go_wp2_with fail
    refine (drawRouteReads_any _ _ _ _ _ h HZ.out HE.out hc (by omega) HC.out).mono ?_
    rintro e w1 ⟨A, c, l, AG, cG, gs, rfl, dl⟩
    obtain ⟨_, _, _, hl6, hlc, hg14, hgc⟩ := id dl
    obtain ⟨T, hT⟩ : ∃ T, T = readsL l gs := ⟨_, rfl⟩
    have E : Hid (readsL l gs = T) := hid hT.symm
    have HT := hid hT
    have HN := hid (show T.length ≤ 14 by rw [hT]; have := readsL_len l gs; omega)
    clear hT
    go_wp2_with fail
    refine (iRouteReads_any A AG c cG l gs _ dl.sees dl.lags dl.n1 dl.n2).mono ?_
    rintro e w2 ⟨v1, rfl, ho1, hb⟩
    rw [E.out] at ho1
    replace dl := dl.below hb
    clear hb
    obtain ⟨A1, c1, rfl, _⟩ := ho1.form
    go_wp2_with fail
    refine (sRouteReads_any A AG c cG l gs _ dl.sees dl.lags dl.n1 dl.n2).mono ?_
    rintro e w2 ⟨v2, rfl, ho2, hb⟩
    rw [E.out] at ho2
    replace dl := dl.below hb
    replace ho1 := ho1.below hb
    clear hb
    obtain ⟨A2, c2, rfl, _⟩ := ho2.form
    go_wp2_with fail
    refine (hEq_same A1 A2 c1 c2 T _ (Sees.of_own ho1.out) (Sees.of_own ho2.out) (Nat.le_trans HN.out (by decide))).mono ?_
    rintro e w2 ⟨rfl, hb⟩
    replace dl := dl.below hb
    replace ho1 := ho1.below hb
    replace ho2 := ho2.below hb
    clear hb
    clear ho2
    by_cases hq0 : T.length = 0
    · skip
      have hqb : ((T.length : Int) == 0) = true := by simpa using hq0
      have HQ := hid hq0
      clear hq0
      go_wp2_with fail
      refine (sRouteReads_any A AG c cG l gs _ dl.sees dl.lags dl.n1 dl.n2).mono ?_
      rintro e w2 ⟨v3, rfl, ho3, hb⟩
      rw [E.out] at ho3
      replace dl := dl.below hb
      replace ho1 := ho1.below hb
      clear hb
      obtain ⟨A3, c3, rfl, _⟩ := ho3.form
      go_wp2_with fail
      refine (hEq_same A1 A3 c1 c3 T _ (Sees.of_own ho1.out) (Sees.of_own ho3.out) (Nat.le_trans HN.out (by decide))).mono ?_
      rintro e w2 ⟨rfl, hb⟩
      replace dl := dl.below hb
      replace ho1 := ho1.below hb
      replace ho3 := ho3.below hb
      clear hb
      clear ho3
      go_wp2
      go_ret
      exact ⟨by simp, dl.bel⟩
    · skip
      have hqb : ((T.length : Int) == 0) = false := beq_eq_false_iff_ne.2 (by omega)
      have hT0 : 0 < T.length := by omega
      have hpos := readsL_pos (l := l) (gs := gs) (by rw [← HT.out]; omega)
      have hg0 : 0 < gs.length := by have := readsL_len l gs; rw [← HT.out] at this; omega
      have HF1 : Hid (T[0] = routeH l gs[0] ∧ readsL (bump l (routeH l gs[0])) (gs.drop 1) = T.drop 1) := hid (by simpa only [← HT.out] using readsL_first (l := l) (gs := gs) (by rw [← HT.out]; omega) hg0)
      have HOK := hid (fun k (h : k < l.length) => Hst.ok_iff.1 (hosts_ok hpos.1 h))
      have HVD := hid hpos.1
      clear hpos hq0
      obtain ⟨b1, o1, rfl, hl1, e0⟩ := (Sees.of_own ho1.out).int hT0
      obtain ⟨b2, o2, rfl, hl2, f0⟩ := dl.lags.int hg0
      obtain ⟨y, hy⟩ : ∃ y, y = gs[0] := ⟨_, rfl⟩
      obtain ⟨hV1, hV2⟩ := HF1.out
      rw [← hy] at f0 hV1 hV2
      have hvl := routeH_lt l y
      obtain ⟨V, hV⟩ : ∃ V, V = routeH l y := ⟨_, rfl⟩
      rw [← hV] at hV1 hV2 hvl
      have EV : Hid (routeH l y = V) := hid hV.symm
      rw [hV1] at e0
      have ER := hid hV2
      obtain ⟨v0, v1⟩ := hvl
      clear hy hV hV1 hV2 HF1
      have hs1b : Sees w2 w2.heap.size (some ⟨b1, o1 + 1, none⟩) (ints (T.drop 1)) := sees_next (Sees.of_own ho1.out)
      have hs2b : Sees w2 w2.heap.size (some ⟨b2, o2 + 1, none⟩) (ints (gs.drop 1)) := sees_next dl.lags
      simp only [Nat.add_zero] at e0 f0
      have hcp1 : T.length ≤ c1 := by obtain ⟨_, _, e, r1, _⟩ := own_form ho1.out; injection e with _ _ e; omega
      have hN := HN.out
      have p1 : (1 : Int) ≤ (T.length : Int) := by omega
      have p2 : (1 : Int) ≤ (c1 : Int) := by omega
      have p3 : (1 : Int) ≤ (gs.length : Int) := by omega
      have p4 : (1 : Int) ≤ (cG : Int) := by omega
      have p5 : (T.length : Int) ≤ (c1 : Int) := by omega
      have p6 : (gs.length : Int) ≤ (cG : Int) := by omega
      have p7 : (0 : Int) < (T.length : Int) := by omega
      have p8 : (0 : Int) < (gs.length : Int) := by omega
      have HD1 := hid (show (T.drop 1).length = T.length - 1 from List.length_drop)
      have HD2 := hid (show (gs.drop 1).length = gs.length - 1 from List.length_drop)
      by_cases hv0 : V < 0
      · skip
        have hv0b : decide (V ≥ 0) = false := decide_eq_false (by omega)
        have hv0c : ¬ V ≥ 0 := by omega
        have ERB : Hid (readsL l (gs.drop 1) = T.drop 1) := hid (by have h := ER.out; rwa [show V = -1 by omega, bump_none] at h)
        have hw2 := dl.sees
        by_cases hc1 : c1 = 1
        · skip
          have hn1 : Sees w2 w2.heap.size (some ⟨b1, o1, none⟩) (ints (T.drop 1)) := sees_none (by omega)
          subst hc1
          by_cases hc2 : cG = 1
          · skip
            have hn2 : Sees w2 w2.heap.size (some ⟨b2, o2, none⟩) (ints (gs.drop 1)) := sees_none (by omega)
            subst hc2
            have HZ1 := hid (show (T.drop 1).length = 0 by rw [List.length_drop]; omega)
            have HZ2 := hid (show (gs.drop 1).length = 0 by rw [List.length_drop]; omega)
            go_wp2_with fail
            go_region_held3 (fun w' => w'.cell? ⟨b1, o1, none⟩ = some (.int .i64 V) ∧ w'.cell? ⟨b2, o2, none⟩ = some (.int .i64 y))
              (first | with_reducible exact ⟨e0, f0⟩ | with_reducible exact ⟨p0a, p0b⟩ | with_reducible exact ⟨q0a, q0b⟩ | with_reducible exact ⟨r0a, r0b⟩ | go_keep)
              (first
                | (go_at_call 11; (refine (iRouteRead_any _ c l y _ dl.drew.sees dl.n1).mono ?_); rintro e w3 ⟨he, hb3⟩; rw [EV.out] at he; subst he; have hd3 := dl.drew.below hb3; have hs3 := (hn1.drew.below hb3).more hb3.size; have hg3 := (hn2.drew.below hb3).more hb3.size; have hw3 := (hw2.drew.below hb3).more hb3.size; have p0a := ((hb3.cell (p := ⟨b1, o1, none⟩) hl1).trans e0); have p0b := ((hb3.cell (p := ⟨b2, o2, none⟩) hl2).trans f0); have k3 := hb3.size)
                | (go_at_call 20; (refine (iRouteReads_len rfl HZ2.out hw3 hg3 dl.n1 (by have := HZ2.out; omega)).mono ?_); rintro e w4 ⟨v4, rfl, ho4, hb4⟩; rw [ERB.out] at ho4; obtain ⟨A4, c4, hv4, _⟩ := ho4.form; rw [HZ1.out] at hv4; subst hv4; have hd4 := hd3.below hb4; have hs4 := (hs3.below hb4).more hb4.size; have q0a := ((hb4.cell (p := ⟨b1, o1, none⟩) (Nat.lt_of_lt_of_le hl1 k3)).trans p0a); have q0b := ((hb4.cell (p := ⟨b2, o2, none⟩) (Nat.lt_of_lt_of_le hl2 k3)).trans p0b); have k4 := hb4.size)
                | (go_at_call 21; (refine (hEq_len (Q := T.drop 1) HZ1.out (Sees.of_own (show World.ownsRow _ _ _ _ (.slice _ (0) _) (0) _ by have hh := ho4.out; rw [HZ1.out] at hh; exact hh)) hs4 (by have := HZ1.out; omega)).mono ?_); rintro e w5 ⟨rfl, hb5⟩; have hd5 := hd4.below hb5; have r0a := ((hb5.cell (p := ⟨b1, o1, none⟩) (Nat.lt_of_lt_of_le hl1 (Nat.le_trans k3 k4))).trans q0a); have r0b := ((hb5.cell (p := ⟨b2, o2, none⟩) (Nat.lt_of_lt_of_le hl2 (Nat.le_trans k3 k4))).trans q0b))
                | fail)
            all_goals
              go_wp2
              go_ret
              exact ⟨rfl, hd5.bel⟩
          · skip
            have hc2n : ¬ 1 = cG := fun e => hc2 e.symm
            have HZ1 := hid (show (T.drop 1).length = 0 by rw [List.length_drop]; omega)
            go_wp2_with fail
            go_region_held3 (fun w' => w'.cell? ⟨b1, o1, none⟩ = some (.int .i64 V) ∧ w'.cell? ⟨b2, o2, none⟩ = some (.int .i64 y))
              (first | with_reducible exact ⟨e0, f0⟩ | with_reducible exact ⟨p0a, p0b⟩ | with_reducible exact ⟨q0a, q0b⟩ | with_reducible exact ⟨r0a, r0b⟩ | go_keep)
              (first
                | (go_at_call 11; (refine (iRouteRead_any _ c l y _ dl.drew.sees dl.n1).mono ?_); rintro e w3 ⟨he, hb3⟩; rw [EV.out] at he; subst he; have hd3 := dl.drew.below hb3; have hs3 := (hn1.drew.below hb3).more hb3.size; have hg3 := (hs2b.drew.below hb3).more hb3.size; have hw3 := (hw2.drew.below hb3).more hb3.size; have p0a := ((hb3.cell (p := ⟨b1, o1, none⟩) hl1).trans e0); have p0b := ((hb3.cell (p := ⟨b2, o2, none⟩) hl2).trans f0); have k3 := hb3.size)
                | (go_at_call 20; (refine (iRouteReads_len rfl HD2.out hw3 hg3 dl.n1 (by have := HD2.out; omega)).mono ?_); rintro e w4 ⟨v4, rfl, ho4, hb4⟩; rw [ERB.out] at ho4; obtain ⟨A4, c4, hv4, _⟩ := ho4.form; rw [HZ1.out] at hv4; subst hv4; have hd4 := hd3.below hb4; have hs4 := (hs3.below hb4).more hb4.size; have q0a := ((hb4.cell (p := ⟨b1, o1, none⟩) (Nat.lt_of_lt_of_le hl1 k3)).trans p0a); have q0b := ((hb4.cell (p := ⟨b2, o2, none⟩) (Nat.lt_of_lt_of_le hl2 k3)).trans p0b); have k4 := hb4.size)
                | (go_at_call 21; (refine (hEq_len (Q := T.drop 1) HZ1.out (Sees.of_own (show World.ownsRow _ _ _ _ (.slice _ (0) _) (0) _ by have hh := ho4.out; rw [HZ1.out] at hh; exact hh)) hs4 (by have := HZ1.out; omega)).mono ?_); rintro e w5 ⟨rfl, hb5⟩; have hd5 := hd4.below hb5; have r0a := ((hb5.cell (p := ⟨b1, o1, none⟩) (Nat.lt_of_lt_of_le hl1 (Nat.le_trans k3 k4))).trans q0a); have r0b := ((hb5.cell (p := ⟨b2, o2, none⟩) (Nat.lt_of_lt_of_le hl2 (Nat.le_trans k3 k4))).trans q0b))
                | fail)
            all_goals
              go_wp2
              go_ret
              exact ⟨rfl, hd5.bel⟩
        · skip
          have hc1n : ¬ 1 = c1 := fun e => hc1 e.symm
          have hc1i : ¬ (1 : Int) = (c1 : Int) := by omega
          by_cases hc2 : cG = 1
          · skip
            have hn2 : Sees w2 w2.heap.size (some ⟨b2, o2, none⟩) (ints (gs.drop 1)) := sees_none (by omega)
            subst hc2
            have HZ2 := hid (show (gs.drop 1).length = 0 by rw [List.length_drop]; omega)
            go_wp2_with fail
            go_region_held3 (fun w' => w'.cell? ⟨b1, o1, none⟩ = some (.int .i64 V) ∧ w'.cell? ⟨b2, o2, none⟩ = some (.int .i64 y))
              (first | with_reducible exact ⟨e0, f0⟩ | with_reducible exact ⟨p0a, p0b⟩ | with_reducible exact ⟨q0a, q0b⟩ | with_reducible exact ⟨r0a, r0b⟩ | go_keep)
              (first
                | (go_at_call 11; (refine (iRouteRead_any _ c l y _ dl.drew.sees dl.n1).mono ?_); rintro e w3 ⟨he, hb3⟩; rw [EV.out] at he; subst he; have hd3 := dl.drew.below hb3; have hs3 := (hs1b.drew.below hb3).more hb3.size; have hg3 := (hn2.drew.below hb3).more hb3.size; have hw3 := (hw2.drew.below hb3).more hb3.size; have p0a := ((hb3.cell (p := ⟨b1, o1, none⟩) hl1).trans e0); have p0b := ((hb3.cell (p := ⟨b2, o2, none⟩) hl2).trans f0); have k3 := hb3.size)
                | (go_at_call 20; (refine (iRouteReads_len rfl HZ2.out hw3 hg3 dl.n1 (by have := HZ2.out; omega)).mono ?_); rintro e w4 ⟨v4, rfl, ho4, hb4⟩; rw [ERB.out] at ho4; obtain ⟨A4, c4, hv4, _⟩ := ho4.form; rw [HD1.out] at hv4; subst hv4; have hd4 := hd3.below hb4; have hs4 := (hs3.below hb4).more hb4.size; have q0a := ((hb4.cell (p := ⟨b1, o1, none⟩) (Nat.lt_of_lt_of_le hl1 k3)).trans p0a); have q0b := ((hb4.cell (p := ⟨b2, o2, none⟩) (Nat.lt_of_lt_of_le hl2 k3)).trans p0b); have k4 := hb4.size)
                | (go_at_call 21; (refine (hEq_len (Q := T.drop 1) HD1.out (Sees.of_own (show World.ownsRow _ _ _ _ (.slice _ (T.length - 1) _) (T.length - 1) _ by have hh := ho4.out; rw [HD1.out] at hh; exact hh)) hs4 (by have := HD1.out; omega)).mono ?_); rintro e w5 ⟨rfl, hb5⟩; have hd5 := hd4.below hb5; have r0a := ((hb5.cell (p := ⟨b1, o1, none⟩) (Nat.lt_of_lt_of_le hl1 (Nat.le_trans k3 k4))).trans q0a); have r0b := ((hb5.cell (p := ⟨b2, o2, none⟩) (Nat.lt_of_lt_of_le hl2 (Nat.le_trans k3 k4))).trans q0b))
                | fail)
            all_goals
              go_wp2
              go_ret
              exact ⟨rfl, hd5.bel⟩
          · skip
            have hc2n : ¬ 1 = cG := fun e => hc2 e.symm
            go_wp2_with fail
            go_region_held3 (fun w' => w'.cell? ⟨b1, o1, none⟩ = some (.int .i64 V) ∧ w'.cell? ⟨b2, o2, none⟩ = some (.int .i64 y))
              (first | with_reducible exact ⟨e0, f0⟩ | with_reducible exact ⟨p0a, p0b⟩ | with_reducible exact ⟨q0a, q0b⟩ | with_reducible exact ⟨r0a, r0b⟩ | go_keep)
              (first
                | (go_at_call 11; (refine (iRouteRead_any _ c l y _ dl.drew.sees dl.n1).mono ?_); rintro e w3 ⟨he, hb3⟩; rw [EV.out] at he; subst he; have hd3 := dl.drew.below hb3; have hs3 := (hs1b.drew.below hb3).more hb3.size; have hg3 := (hs2b.drew.below hb3).more hb3.size; have hw3 := (hw2.drew.below hb3).more hb3.size; have p0a := ((hb3.cell (p := ⟨b1, o1, none⟩) hl1).trans e0); have p0b := ((hb3.cell (p := ⟨b2, o2, none⟩) hl2).trans f0); have k3 := hb3.size)
                | (go_at_call 20; (refine (iRouteReads_len rfl HD2.out hw3 hg3 dl.n1 (by have := HD2.out; omega)).mono ?_); rintro e w4 ⟨v4, rfl, ho4, hb4⟩; rw [ERB.out] at ho4; obtain ⟨A4, c4, hv4, _⟩ := ho4.form; rw [HD1.out] at hv4; subst hv4; have hd4 := hd3.below hb4; have hs4 := (hs3.below hb4).more hb4.size; have q0a := ((hb4.cell (p := ⟨b1, o1, none⟩) (Nat.lt_of_lt_of_le hl1 k3)).trans p0a); have q0b := ((hb4.cell (p := ⟨b2, o2, none⟩) (Nat.lt_of_lt_of_le hl2 k3)).trans p0b); have k4 := hb4.size)
                | (go_at_call 21; (refine (hEq_len (Q := T.drop 1) HD1.out (Sees.of_own (show World.ownsRow _ _ _ _ (.slice _ (T.length - 1) _) (T.length - 1) _ by have hh := ho4.out; rw [HD1.out] at hh; exact hh)) hs4 (by have := HD1.out; omega)).mono ?_); rintro e w5 ⟨rfl, hb5⟩; have hd5 := hd4.below hb5; have r0a := ((hb5.cell (p := ⟨b1, o1, none⟩) (Nat.lt_of_lt_of_le hl1 (Nat.le_trans k3 k4))).trans q0a); have r0b := ((hb5.cell (p := ⟨b2, o2, none⟩) (Nat.lt_of_lt_of_le hl2 (Nat.le_trans k3 k4))).trans q0b))
                | fail)
            all_goals
              go_wp2
              go_ret
              exact ⟨rfl, hd5.bel⟩
      · skip
        obtain ⟨k, rfl⟩ : ∃ k : Nat, V = k := ⟨V.toNat, by omega⟩
        have hk : k < l.length := by omega
        have hk2 : (k : Int) < (l.length : Int) := by omega
        have hk0 : (0 : Int) ≤ (k : Int) := by omega
        have hkg : (k : Int) ≥ 0 := hk0
        obtain ⟨b, o, rfl, hbl, g0, g1, g2⟩ := dl.sees.host hk
        have hok := HOK.out k hk
        have hlb := load_at HVD.out hk (d := 1) (by omega)
        obtain ⟨x, hx⟩ : ∃ x, x = l[k].l := ⟨_, rfl⟩
        rw [← hx] at g0 hok hlb
        clear hx
        by_cases hx1 : x < 100
        · skip
          have hlt : loadB l k 1 = true := by rw [hlb]; exact decide_eq_true (by omega)
          have ELB := hid hlt
          have ELL := hid (loadL_yes hlt)
          have ERB : Hid (readsL (addTo l k 1) (gs.drop 1) = T.drop 1) := hid (by have h := ER.out; rwa [show bump l (k : Int) = addTo l k 1 by unfold bump; rw [if_pos hlt, Int.toNat_natCast]] at h)
          have HAL := hid (addTo_len l k 1)
          clear hlb hlt hok
          go_wp2_with fail
          refine (iAddLoad_any _ c l k 1 _ dl.sees dl.n1).mono ?_
          rintro e w9 ⟨v9, he, ho9, hb⟩
          rw [ELB.out] at he
          subst he
          rw [ELL.out] at ho9
          obtain ⟨A9, c9, hv9, _, _, _⟩ := ho9.form
          rw [HAL.out] at hv9
          subst hv9
          replace dl := dl.below hb
          have e1 := (hb.cell (p := ⟨b1, o1, none⟩) hl1).trans e0
          have f1 := (hb.cell (p := ⟨b2, o2, none⟩) hl2).trans f0
          have hs1c := (hs1b.below hb).more hb.size
          have hs2c := (hs2b.below hb).more hb.size
          have hl1c := Nat.lt_of_lt_of_le hl1 hb.size
          have hl2c := Nat.lt_of_lt_of_le hl2 hb.size
          clear hs1b hs2b hl1 hl2 e0 f0 g0 g1 g2 hb ho1 hbl
          obtain ⟨hs1b, hs2b, hl1, hl2, e0, f0⟩ := And.intro hs1c (And.intro hs2c (And.intro hl1c (And.intro hl2c (And.intro e1 f1))))
          clear hs1c hs2c hl1c hl2c e1 f1
          have hw2 : Sees w9 w9.heap.size A9 (strip hcl (addTo l k 1)) := OwnS.sees ho9
          rename World => w2
          by_cases hc1 : c1 = 1
          · skip
            have hn1 : Sees w2 w2.heap.size (some ⟨b1, o1, none⟩) (ints (T.drop 1)) := sees_none (by omega)
            subst hc1
            by_cases hc2 : cG = 1
            · skip
              have hn2 : Sees w2 w2.heap.size (some ⟨b2, o2, none⟩) (ints (gs.drop 1)) := sees_none (by omega)
              subst hc2
              have HZ1 := hid (show (T.drop 1).length = 0 by rw [List.length_drop]; omega)
              have HZ2 := hid (show (gs.drop 1).length = 0 by rw [List.length_drop]; omega)
              go_wp2_with fail
              go_region_held3 (fun w' => w'.cell? ⟨b1, o1, none⟩ = some (.int .i64 (k : Int)) ∧ w'.cell? ⟨b2, o2, none⟩ = some (.int .i64 y))
                (first | with_reducible exact ⟨e0, f0⟩ | with_reducible exact ⟨p0a, p0b⟩ | with_reducible exact ⟨q0a, q0b⟩ | with_reducible exact ⟨r0a, r0b⟩ | go_keep)
                (first
                  | (go_at_call 11; (refine (iRouteRead_any _ c l y _ dl.drew.sees dl.n1).mono ?_); rintro e w3 ⟨he, hb3⟩; rw [EV.out] at he; subst he; have hd3 := dl.drew.below hb3; have hs3 := (hn1.drew.below hb3).more hb3.size; have hg3 := (hn2.drew.below hb3).more hb3.size; have hw3 := (hw2.drew.below hb3).more hb3.size; have p0a := ((hb3.cell (p := ⟨b1, o1, none⟩) hl1).trans e0); have p0b := ((hb3.cell (p := ⟨b2, o2, none⟩) hl2).trans f0); have k3 := hb3.size)
                  | (go_at_call 20; (refine (iRouteReads_len HAL.out HZ2.out hw3 hg3 (by rw [HAL.out]; exact dl.n1) (by have := HZ2.out; omega)).mono ?_); rintro e w4 ⟨v4, rfl, ho4, hb4⟩; rw [ERB.out] at ho4; obtain ⟨A4, c4, hv4, _⟩ := ho4.form; rw [HZ1.out] at hv4; subst hv4; have hd4 := hd3.below hb4; have hs4 := (hs3.below hb4).more hb4.size; have q0a := ((hb4.cell (p := ⟨b1, o1, none⟩) (Nat.lt_of_lt_of_le hl1 k3)).trans p0a); have q0b := ((hb4.cell (p := ⟨b2, o2, none⟩) (Nat.lt_of_lt_of_le hl2 k3)).trans p0b); have k4 := hb4.size)
                  | (go_at_call 21; (refine (hEq_len (Q := T.drop 1) HZ1.out (Sees.of_own (show World.ownsRow _ _ _ _ (.slice _ (0) _) (0) _ by have hh := ho4.out; rw [HZ1.out] at hh; exact hh)) hs4 (by have := HZ1.out; omega)).mono ?_); rintro e w5 ⟨rfl, hb5⟩; have hd5 := hd4.below hb5; have r0a := ((hb5.cell (p := ⟨b1, o1, none⟩) (Nat.lt_of_lt_of_le hl1 (Nat.le_trans k3 k4))).trans q0a); have r0b := ((hb5.cell (p := ⟨b2, o2, none⟩) (Nat.lt_of_lt_of_le hl2 (Nat.le_trans k3 k4))).trans q0b))
                  | fail)
              all_goals
                go_wp2
                go_ret
                exact ⟨rfl, hd5.bel⟩
            · skip
              have hc2n : ¬ 1 = cG := fun e => hc2 e.symm
              have HZ1 := hid (show (T.drop 1).length = 0 by rw [List.length_drop]; omega)
              go_wp2_with fail
              go_region_held3 (fun w' => w'.cell? ⟨b1, o1, none⟩ = some (.int .i64 (k : Int)) ∧ w'.cell? ⟨b2, o2, none⟩ = some (.int .i64 y))
                (first | with_reducible exact ⟨e0, f0⟩ | with_reducible exact ⟨p0a, p0b⟩ | with_reducible exact ⟨q0a, q0b⟩ | with_reducible exact ⟨r0a, r0b⟩ | go_keep)
                (first
                  | (go_at_call 11; (refine (iRouteRead_any _ c l y _ dl.drew.sees dl.n1).mono ?_); rintro e w3 ⟨he, hb3⟩; rw [EV.out] at he; subst he; have hd3 := dl.drew.below hb3; have hs3 := (hn1.drew.below hb3).more hb3.size; have hg3 := (hs2b.drew.below hb3).more hb3.size; have hw3 := (hw2.drew.below hb3).more hb3.size; have p0a := ((hb3.cell (p := ⟨b1, o1, none⟩) hl1).trans e0); have p0b := ((hb3.cell (p := ⟨b2, o2, none⟩) hl2).trans f0); have k3 := hb3.size)
                  | (go_at_call 20; (refine (iRouteReads_len HAL.out HD2.out hw3 hg3 (by rw [HAL.out]; exact dl.n1) (by have := HD2.out; omega)).mono ?_); rintro e w4 ⟨v4, rfl, ho4, hb4⟩; rw [ERB.out] at ho4; obtain ⟨A4, c4, hv4, _⟩ := ho4.form; rw [HZ1.out] at hv4; subst hv4; have hd4 := hd3.below hb4; have hs4 := (hs3.below hb4).more hb4.size; have q0a := ((hb4.cell (p := ⟨b1, o1, none⟩) (Nat.lt_of_lt_of_le hl1 k3)).trans p0a); have q0b := ((hb4.cell (p := ⟨b2, o2, none⟩) (Nat.lt_of_lt_of_le hl2 k3)).trans p0b); have k4 := hb4.size)
                  | (go_at_call 21; (refine (hEq_len (Q := T.drop 1) HZ1.out (Sees.of_own (show World.ownsRow _ _ _ _ (.slice _ (0) _) (0) _ by have hh := ho4.out; rw [HZ1.out] at hh; exact hh)) hs4 (by have := HZ1.out; omega)).mono ?_); rintro e w5 ⟨rfl, hb5⟩; have hd5 := hd4.below hb5; have r0a := ((hb5.cell (p := ⟨b1, o1, none⟩) (Nat.lt_of_lt_of_le hl1 (Nat.le_trans k3 k4))).trans q0a); have r0b := ((hb5.cell (p := ⟨b2, o2, none⟩) (Nat.lt_of_lt_of_le hl2 (Nat.le_trans k3 k4))).trans q0b))
                  | fail)
              all_goals
                go_wp2
                go_ret
                exact ⟨rfl, hd5.bel⟩
          · skip
            have hc1n : ¬ 1 = c1 := fun e => hc1 e.symm
            have hc1i : ¬ (1 : Int) = (c1 : Int) := by omega
            by_cases hc2 : cG = 1
            · skip
              have hn2 : Sees w2 w2.heap.size (some ⟨b2, o2, none⟩) (ints (gs.drop 1)) := sees_none (by omega)
              subst hc2
              have HZ2 := hid (show (gs.drop 1).length = 0 by rw [List.length_drop]; omega)
              go_wp2_with fail
              go_region_held3 (fun w' => w'.cell? ⟨b1, o1, none⟩ = some (.int .i64 (k : Int)) ∧ w'.cell? ⟨b2, o2, none⟩ = some (.int .i64 y))
                (first | with_reducible exact ⟨e0, f0⟩ | with_reducible exact ⟨p0a, p0b⟩ | with_reducible exact ⟨q0a, q0b⟩ | with_reducible exact ⟨r0a, r0b⟩ | go_keep)
                (first
                  | (go_at_call 11; (refine (iRouteRead_any _ c l y _ dl.drew.sees dl.n1).mono ?_); rintro e w3 ⟨he, hb3⟩; rw [EV.out] at he; subst he; have hd3 := dl.drew.below hb3; have hs3 := (hs1b.drew.below hb3).more hb3.size; have hg3 := (hn2.drew.below hb3).more hb3.size; have hw3 := (hw2.drew.below hb3).more hb3.size; have p0a := ((hb3.cell (p := ⟨b1, o1, none⟩) hl1).trans e0); have p0b := ((hb3.cell (p := ⟨b2, o2, none⟩) hl2).trans f0); have k3 := hb3.size)
                  | (go_at_call 20; (refine (iRouteReads_len HAL.out HZ2.out hw3 hg3 (by rw [HAL.out]; exact dl.n1) (by have := HZ2.out; omega)).mono ?_); rintro e w4 ⟨v4, rfl, ho4, hb4⟩; rw [ERB.out] at ho4; obtain ⟨A4, c4, hv4, _⟩ := ho4.form; rw [HD1.out] at hv4; subst hv4; have hd4 := hd3.below hb4; have hs4 := (hs3.below hb4).more hb4.size; have q0a := ((hb4.cell (p := ⟨b1, o1, none⟩) (Nat.lt_of_lt_of_le hl1 k3)).trans p0a); have q0b := ((hb4.cell (p := ⟨b2, o2, none⟩) (Nat.lt_of_lt_of_le hl2 k3)).trans p0b); have k4 := hb4.size)
                  | (go_at_call 21; (refine (hEq_len (Q := T.drop 1) HD1.out (Sees.of_own (show World.ownsRow _ _ _ _ (.slice _ (T.length - 1) _) (T.length - 1) _ by have hh := ho4.out; rw [HD1.out] at hh; exact hh)) hs4 (by have := HD1.out; omega)).mono ?_); rintro e w5 ⟨rfl, hb5⟩; have hd5 := hd4.below hb5; have r0a := ((hb5.cell (p := ⟨b1, o1, none⟩) (Nat.lt_of_lt_of_le hl1 (Nat.le_trans k3 k4))).trans q0a); have r0b := ((hb5.cell (p := ⟨b2, o2, none⟩) (Nat.lt_of_lt_of_le hl2 (Nat.le_trans k3 k4))).trans q0b))
                  | fail)
              all_goals
                go_wp2
                go_ret
                exact ⟨rfl, hd5.bel⟩
            · skip
              have hc2n : ¬ 1 = cG := fun e => hc2 e.symm
              go_wp2_with fail
              go_region_held3 (fun w' => w'.cell? ⟨b1, o1, none⟩ = some (.int .i64 (k : Int)) ∧ w'.cell? ⟨b2, o2, none⟩ = some (.int .i64 y))
                (first | with_reducible exact ⟨e0, f0⟩ | with_reducible exact ⟨p0a, p0b⟩ | with_reducible exact ⟨q0a, q0b⟩ | with_reducible exact ⟨r0a, r0b⟩ | go_keep)
                (first
                  | (go_at_call 11; (refine (iRouteRead_any _ c l y _ dl.drew.sees dl.n1).mono ?_); rintro e w3 ⟨he, hb3⟩; rw [EV.out] at he; subst he; have hd3 := dl.drew.below hb3; have hs3 := (hs1b.drew.below hb3).more hb3.size; have hg3 := (hs2b.drew.below hb3).more hb3.size; have hw3 := (hw2.drew.below hb3).more hb3.size; have p0a := ((hb3.cell (p := ⟨b1, o1, none⟩) hl1).trans e0); have p0b := ((hb3.cell (p := ⟨b2, o2, none⟩) hl2).trans f0); have k3 := hb3.size)
                  | (go_at_call 20; (refine (iRouteReads_len HAL.out HD2.out hw3 hg3 (by rw [HAL.out]; exact dl.n1) (by have := HD2.out; omega)).mono ?_); rintro e w4 ⟨v4, rfl, ho4, hb4⟩; rw [ERB.out] at ho4; obtain ⟨A4, c4, hv4, _⟩ := ho4.form; rw [HD1.out] at hv4; subst hv4; have hd4 := hd3.below hb4; have hs4 := (hs3.below hb4).more hb4.size; have q0a := ((hb4.cell (p := ⟨b1, o1, none⟩) (Nat.lt_of_lt_of_le hl1 k3)).trans p0a); have q0b := ((hb4.cell (p := ⟨b2, o2, none⟩) (Nat.lt_of_lt_of_le hl2 k3)).trans p0b); have k4 := hb4.size)
                  | (go_at_call 21; (refine (hEq_len (Q := T.drop 1) HD1.out (Sees.of_own (show World.ownsRow _ _ _ _ (.slice _ (T.length - 1) _) (T.length - 1) _ by have hh := ho4.out; rw [HD1.out] at hh; exact hh)) hs4 (by have := HD1.out; omega)).mono ?_); rintro e w5 ⟨rfl, hb5⟩; have hd5 := hd4.below hb5; have r0a := ((hb5.cell (p := ⟨b1, o1, none⟩) (Nat.lt_of_lt_of_le hl1 (Nat.le_trans k3 k4))).trans q0a); have r0b := ((hb5.cell (p := ⟨b2, o2, none⟩) (Nat.lt_of_lt_of_le hl2 (Nat.le_trans k3 k4))).trans q0b))
                  | fail)
              all_goals
                go_wp2
                go_ret
                exact ⟨rfl, hd5.bel⟩
        · skip
          have hlf : loadB l k 1 = false := by rw [hlb]; exact decide_eq_false (by omega)
          have ERB : Hid (readsL l (gs.drop 1) = T.drop 1) := hid (by have h := ER.out; rwa [show bump l (k : Int) = l by unfold bump; rw [if_neg (by simp [hlf])]] at h)
          clear hlb hlf hok
          have hxb : decide (x < 100) = false := decide_eq_false hx1
          have hw2 := dl.sees
          by_cases hc1 : c1 = 1
          · skip
            have hn1 : Sees w2 w2.heap.size (some ⟨b1, o1, none⟩) (ints (T.drop 1)) := sees_none (by omega)
            subst hc1
            by_cases hc2 : cG = 1
            · skip
              have hn2 : Sees w2 w2.heap.size (some ⟨b2, o2, none⟩) (ints (gs.drop 1)) := sees_none (by omega)
              subst hc2
              have HZ1 := hid (show (T.drop 1).length = 0 by rw [List.length_drop]; omega)
              have HZ2 := hid (show (gs.drop 1).length = 0 by rw [List.length_drop]; omega)
              go_wp2_with fail
              go_region_held3 (fun w' => w'.cell? ⟨b1, o1, none⟩ = some (.int .i64 (k : Int)) ∧ w'.cell? ⟨b2, o2, none⟩ = some (.int .i64 y))
                (first | with_reducible exact ⟨e0, f0⟩ | with_reducible exact ⟨p0a, p0b⟩ | with_reducible exact ⟨q0a, q0b⟩ | with_reducible exact ⟨r0a, r0b⟩ | go_keep)
                (first
                  | (go_at_call 11; (refine (iRouteRead_any _ c l y _ dl.drew.sees dl.n1).mono ?_); rintro e w3 ⟨he, hb3⟩; rw [EV.out] at he; subst he; have hd3 := dl.drew.below hb3; have hs3 := (hn1.drew.below hb3).more hb3.size; have hg3 := (hn2.drew.below hb3).more hb3.size; have hw3 := (hw2.drew.below hb3).more hb3.size; have p0a := ((hb3.cell (p := ⟨b1, o1, none⟩) hl1).trans e0); have p0b := ((hb3.cell (p := ⟨b2, o2, none⟩) hl2).trans f0); have k3 := hb3.size)
                  | (go_at_call 20; (refine (iRouteReads_len rfl HZ2.out hw3 hg3 dl.n1 (by have := HZ2.out; omega)).mono ?_); rintro e w4 ⟨v4, rfl, ho4, hb4⟩; rw [ERB.out] at ho4; obtain ⟨A4, c4, hv4, _⟩ := ho4.form; rw [HZ1.out] at hv4; subst hv4; have hd4 := hd3.below hb4; have hs4 := (hs3.below hb4).more hb4.size; have q0a := ((hb4.cell (p := ⟨b1, o1, none⟩) (Nat.lt_of_lt_of_le hl1 k3)).trans p0a); have q0b := ((hb4.cell (p := ⟨b2, o2, none⟩) (Nat.lt_of_lt_of_le hl2 k3)).trans p0b); have k4 := hb4.size)
                  | (go_at_call 21; (refine (hEq_len (Q := T.drop 1) HZ1.out (Sees.of_own (show World.ownsRow _ _ _ _ (.slice _ (0) _) (0) _ by have hh := ho4.out; rw [HZ1.out] at hh; exact hh)) hs4 (by have := HZ1.out; omega)).mono ?_); rintro e w5 ⟨rfl, hb5⟩; have hd5 := hd4.below hb5; have r0a := ((hb5.cell (p := ⟨b1, o1, none⟩) (Nat.lt_of_lt_of_le hl1 (Nat.le_trans k3 k4))).trans q0a); have r0b := ((hb5.cell (p := ⟨b2, o2, none⟩) (Nat.lt_of_lt_of_le hl2 (Nat.le_trans k3 k4))).trans q0b))
                  | fail)
              all_goals
                go_wp2
                go_ret
                exact ⟨rfl, hd5.bel⟩
            · skip
              have hc2n : ¬ 1 = cG := fun e => hc2 e.symm
              have HZ1 := hid (show (T.drop 1).length = 0 by rw [List.length_drop]; omega)
              go_wp2_with fail
              go_region_held3 (fun w' => w'.cell? ⟨b1, o1, none⟩ = some (.int .i64 (k : Int)) ∧ w'.cell? ⟨b2, o2, none⟩ = some (.int .i64 y))
                (first | with_reducible exact ⟨e0, f0⟩ | with_reducible exact ⟨p0a, p0b⟩ | with_reducible exact ⟨q0a, q0b⟩ | with_reducible exact ⟨r0a, r0b⟩ | go_keep)
                (first
                  | (go_at_call 11; (refine (iRouteRead_any _ c l y _ dl.drew.sees dl.n1).mono ?_); rintro e w3 ⟨he, hb3⟩; rw [EV.out] at he; subst he; have hd3 := dl.drew.below hb3; have hs3 := (hn1.drew.below hb3).more hb3.size; have hg3 := (hs2b.drew.below hb3).more hb3.size; have hw3 := (hw2.drew.below hb3).more hb3.size; have p0a := ((hb3.cell (p := ⟨b1, o1, none⟩) hl1).trans e0); have p0b := ((hb3.cell (p := ⟨b2, o2, none⟩) hl2).trans f0); have k3 := hb3.size)
                  | (go_at_call 20; (refine (iRouteReads_len rfl HD2.out hw3 hg3 dl.n1 (by have := HD2.out; omega)).mono ?_); rintro e w4 ⟨v4, rfl, ho4, hb4⟩; rw [ERB.out] at ho4; obtain ⟨A4, c4, hv4, _⟩ := ho4.form; rw [HZ1.out] at hv4; subst hv4; have hd4 := hd3.below hb4; have hs4 := (hs3.below hb4).more hb4.size; have q0a := ((hb4.cell (p := ⟨b1, o1, none⟩) (Nat.lt_of_lt_of_le hl1 k3)).trans p0a); have q0b := ((hb4.cell (p := ⟨b2, o2, none⟩) (Nat.lt_of_lt_of_le hl2 k3)).trans p0b); have k4 := hb4.size)
                  | (go_at_call 21; (refine (hEq_len (Q := T.drop 1) HZ1.out (Sees.of_own (show World.ownsRow _ _ _ _ (.slice _ (0) _) (0) _ by have hh := ho4.out; rw [HZ1.out] at hh; exact hh)) hs4 (by have := HZ1.out; omega)).mono ?_); rintro e w5 ⟨rfl, hb5⟩; have hd5 := hd4.below hb5; have r0a := ((hb5.cell (p := ⟨b1, o1, none⟩) (Nat.lt_of_lt_of_le hl1 (Nat.le_trans k3 k4))).trans q0a); have r0b := ((hb5.cell (p := ⟨b2, o2, none⟩) (Nat.lt_of_lt_of_le hl2 (Nat.le_trans k3 k4))).trans q0b))
                  | fail)
              all_goals
                go_wp2
                go_ret
                exact ⟨rfl, hd5.bel⟩
          · skip
            have hc1n : ¬ 1 = c1 := fun e => hc1 e.symm
            have hc1i : ¬ (1 : Int) = (c1 : Int) := by omega
            by_cases hc2 : cG = 1
            · skip
              have hn2 : Sees w2 w2.heap.size (some ⟨b2, o2, none⟩) (ints (gs.drop 1)) := sees_none (by omega)
              subst hc2
              have HZ2 := hid (show (gs.drop 1).length = 0 by rw [List.length_drop]; omega)
              go_wp2_with fail
              go_region_held3 (fun w' => w'.cell? ⟨b1, o1, none⟩ = some (.int .i64 (k : Int)) ∧ w'.cell? ⟨b2, o2, none⟩ = some (.int .i64 y))
                (first | with_reducible exact ⟨e0, f0⟩ | with_reducible exact ⟨p0a, p0b⟩ | with_reducible exact ⟨q0a, q0b⟩ | with_reducible exact ⟨r0a, r0b⟩ | go_keep)
                (first
                  | (go_at_call 11; (refine (iRouteRead_any _ c l y _ dl.drew.sees dl.n1).mono ?_); rintro e w3 ⟨he, hb3⟩; rw [EV.out] at he; subst he; have hd3 := dl.drew.below hb3; have hs3 := (hs1b.drew.below hb3).more hb3.size; have hg3 := (hn2.drew.below hb3).more hb3.size; have hw3 := (hw2.drew.below hb3).more hb3.size; have p0a := ((hb3.cell (p := ⟨b1, o1, none⟩) hl1).trans e0); have p0b := ((hb3.cell (p := ⟨b2, o2, none⟩) hl2).trans f0); have k3 := hb3.size)
                  | (go_at_call 20; (refine (iRouteReads_len rfl HZ2.out hw3 hg3 dl.n1 (by have := HZ2.out; omega)).mono ?_); rintro e w4 ⟨v4, rfl, ho4, hb4⟩; rw [ERB.out] at ho4; obtain ⟨A4, c4, hv4, _⟩ := ho4.form; rw [HD1.out] at hv4; subst hv4; have hd4 := hd3.below hb4; have hs4 := (hs3.below hb4).more hb4.size; have q0a := ((hb4.cell (p := ⟨b1, o1, none⟩) (Nat.lt_of_lt_of_le hl1 k3)).trans p0a); have q0b := ((hb4.cell (p := ⟨b2, o2, none⟩) (Nat.lt_of_lt_of_le hl2 k3)).trans p0b); have k4 := hb4.size)
                  | (go_at_call 21; (refine (hEq_len (Q := T.drop 1) HD1.out (Sees.of_own (show World.ownsRow _ _ _ _ (.slice _ (T.length - 1) _) (T.length - 1) _ by have hh := ho4.out; rw [HD1.out] at hh; exact hh)) hs4 (by have := HD1.out; omega)).mono ?_); rintro e w5 ⟨rfl, hb5⟩; have hd5 := hd4.below hb5; have r0a := ((hb5.cell (p := ⟨b1, o1, none⟩) (Nat.lt_of_lt_of_le hl1 (Nat.le_trans k3 k4))).trans q0a); have r0b := ((hb5.cell (p := ⟨b2, o2, none⟩) (Nat.lt_of_lt_of_le hl2 (Nat.le_trans k3 k4))).trans q0b))
                  | fail)
              all_goals
                go_wp2
                go_ret
                exact ⟨rfl, hd5.bel⟩
            · skip
              have hc2n : ¬ 1 = cG := fun e => hc2 e.symm
              go_wp2_with fail
              go_region_held3 (fun w' => w'.cell? ⟨b1, o1, none⟩ = some (.int .i64 (k : Int)) ∧ w'.cell? ⟨b2, o2, none⟩ = some (.int .i64 y))
                (first | with_reducible exact ⟨e0, f0⟩ | with_reducible exact ⟨p0a, p0b⟩ | with_reducible exact ⟨q0a, q0b⟩ | with_reducible exact ⟨r0a, r0b⟩ | go_keep)
                (first
                  | (go_at_call 11; (refine (iRouteRead_any _ c l y _ dl.drew.sees dl.n1).mono ?_); rintro e w3 ⟨he, hb3⟩; rw [EV.out] at he; subst he; have hd3 := dl.drew.below hb3; have hs3 := (hs1b.drew.below hb3).more hb3.size; have hg3 := (hs2b.drew.below hb3).more hb3.size; have hw3 := (hw2.drew.below hb3).more hb3.size; have p0a := ((hb3.cell (p := ⟨b1, o1, none⟩) hl1).trans e0); have p0b := ((hb3.cell (p := ⟨b2, o2, none⟩) hl2).trans f0); have k3 := hb3.size)
                  | (go_at_call 20; (refine (iRouteReads_len rfl HD2.out hw3 hg3 dl.n1 (by have := HD2.out; omega)).mono ?_); rintro e w4 ⟨v4, rfl, ho4, hb4⟩; rw [ERB.out] at ho4; obtain ⟨A4, c4, hv4, _⟩ := ho4.form; rw [HD1.out] at hv4; subst hv4; have hd4 := hd3.below hb4; have hs4 := (hs3.below hb4).more hb4.size; have q0a := ((hb4.cell (p := ⟨b1, o1, none⟩) (Nat.lt_of_lt_of_le hl1 k3)).trans p0a); have q0b := ((hb4.cell (p := ⟨b2, o2, none⟩) (Nat.lt_of_lt_of_le hl2 k3)).trans p0b); have k4 := hb4.size)
                  | (go_at_call 21; (refine (hEq_len (Q := T.drop 1) HD1.out (Sees.of_own (show World.ownsRow _ _ _ _ (.slice _ (T.length - 1) _) (T.length - 1) _ by have hh := ho4.out; rw [HD1.out] at hh; exact hh)) hs4 (by have := HD1.out; omega)).mono ?_); rintro e w5 ⟨rfl, hb5⟩; have hd5 := hd4.below hb5; have r0a := ((hb5.cell (p := ⟨b1, o1, none⟩) (Nat.lt_of_lt_of_le hl1 (Nat.le_trans k3 k4))).trans q0a); have r0b := ((hb5.cell (p := ⟨b2, o2, none⟩) (Nat.lt_of_lt_of_le hl2 (Nat.le_trans k3 k4))).trans q0b))
                  | fail)
              all_goals
                go_wp2
                go_ret
                exact ⟨rfl, hd5.bel⟩
end Go.Proofs.Ytbgpdpmijlhkkab

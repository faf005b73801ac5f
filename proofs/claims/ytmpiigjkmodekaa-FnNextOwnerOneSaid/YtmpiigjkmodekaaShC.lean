/-
  What the program's askLevels, givingOrder, NextOwner and GiveAll answer. Condition: the lists lie in memory.
-/
import Derived.Test.YtmpiigjkmodekaaShB
import Derived.Test.YtmpiigjkmodekaaOrdP
import Derived.BigQuiet
namespace Go.Proofs.Ytmpiigjkmodekaa
open Go.RowKit Sha Lse

theorem row_int {w : World} {base g n c : Nat} {K : List Int} (h : w.ownsRow base 3 1 (.slice (some ⟨g, 0, none⟩) n c) n (ints K)) {i : Nat} (hi : i < K.length) : w.cell? ⟨g, i, none⟩ = some (.int .i64 K[i]) := by
  obtain ⟨b, o, e, _, hc⟩ := (Sees.of_own h).int hi
  injection e with e
  injection e with e1 e2
  subst e1 e2
  simpa using hc
theorem ints_set (l : List Int) (i : Nat) (x : Int) : (ints l).set i (.int .i64 x) = ints (l.set i x) := by simp [ints, List.map_set]
set_option maxHeartbeats 4000000 in
theorem askLevels_any (s : Shr) (asks : List Int) (A1 A2 A3 : Option Addr) (c1 c2 c3 : Nat) (w : World) (h : SeesR w w.heap.size A1 A2 s) (h3 : Sees w w.heap.size A3 (ints asks)) (hv : shareB s = true) (ha : okA asks) :
    Calls Try.prog 26 #[.agg #[.int .i64 s.t, .slice A1 s.m.length c1, .slice A2 s.h.length c2], .slice A3 asks.length c3] w fun e w' => ∃ v, e = .returned v ∧ Own w' w.heap.size v (lev s.h asks) ∧ Below w.heap.size w w' := by
  obtain ⟨i0, hi0, hz0, hz1, hz2⟩ := info_parts intInfo
  have HH := hid (share_h hv)
  have HA := hid ha
  have HBD := hid (fun o h0 h5 => (show 0 ≤ nth s.h o ∧ nth s.h o ≤ 20 by have := share_und hv (o := o) h0 h5; have := share_most hv (o := o) h0 h5; omega))
  have px0 := At.new w 25 #[.int .i64 s.t, .slice A1 s.m.length c1, .slice A2 s.h.length c2]
  have hB0 := (Below.refl w.heap.size w).alloc (Nat.le_refl _) (.cells #[.int .i64 s.t, .slice A1 s.m.length c1, .slice A2 s.h.length c2] 25)
  have hs0 := h.on hB0
  obtain ⟨p0, p1, p2, pl, pf⟩ := px0.three
  have HL := hid (show s.h.length ≤ 4194304 by have := HH.out; omega)
  clear hv ha
  go_enter Try.func26, Try.ntmps26
  go_wp2_with fail
  with_reducible refine (copyNumbers_any A2 c2 s.h _ hs0.has HL.out).mono ?_
  rintro e w1 ⟨v1, rfl, ho1, hb1⟩
  obtain ⟨g, cc, rfl, hcc⟩ := own_rowS ho1 (by have := HH.out; omega)
  have hB1 := hB0.trans (hb1.mono hB0.size)
  have hr0 : w1.ownsRow w.heap.size 3 1 (.slice (some ⟨g, 0, none⟩) s.h.length cc) s.h.length (ints s.h) := own_mono ho1.out hB0.size
  obtain ⟨hg1, hg2⟩ := row_base hr0
  clear px0 hs0 hb1 ho1 p0 p1 p2 pl pf hB0
  go_wp2
  go_loopw [6, 14] (fun v i wr => ∃ k : Nat, k ≤ asks.length ∧ i = .int .i64 k ∧ Own wr w1.heap.size v (lev s.h (asks.take k)) ∧ wr.ownsRow w.heap.size 3 1 (.slice (some ⟨g, 0, none⟩) s.h.length cc) s.h.length (ints (lvH s.h (asks.take k))) ∧ Below w.heap.size w wr ∧ w1.heap.size ≤ wr.heap.size) (fun _ i _ => asks.length - (intOf i).toNat)
  case atStart => exact ⟨0, Nat.zero_le _, rfl, Own.none_ _ _, hr0, hB1, Nat.le_refl _⟩
  case round =>
    clear hr0
    obtain ⟨k, hk, rfl, ho, hr, hb, hz⟩ := hrel
    have hn : asks.length ≤ 12 := HA.out.1
    by_cases hlt : k < asks.length
    · have hi : (k : Int) < (asks.length : Int) := by omega
      obtain ⟨b, o, rfl, hbl, e0⟩ := (h3.below hb).int hlt
      have hzb := hb.size
      have hbw : b < wr.heap.size := by omega
      have hak := HA.out.2 _ (List.getElem_mem hlt)
      obtain ⟨j, hj⟩ : ∃ j : Nat, asks[k] = j := ⟨asks[k].toNat, by omega⟩
      have hj5 : j < 5 := by omega
      have HLV : Hid (lev s.h (asks.take (k + 1)) = lev s.h (asks.take k) ++ [nth (lvH s.h (asks.take k)) j]) := hid (by rw [lev_succ hlt, hj])
      have HLH : Hid (lvH s.h (asks.take (k + 1)) = addO (lvH s.h (asks.take k)) j 1) := hid (by rw [lvH_succ hlt, hj])
      have hbd := lvH_bound (asks.take k) (inR_take HA.out.2 k) HH.out 20 HBD.out j (by omega) (by omega)
      rw [List.length_take] at hbd
      have hhl : (lvH s.h (asks.take k)).length = s.h.length := lvH_len _ _
      have hkl : (lev s.h (asks.take k)).length ≤ 12 := by rw [lev_len, List.length_take]; omega
      have hjl : j < (lvH s.h (asks.take k)).length := by rw [hhl, HH.out]; exact hj5
      rw [hj] at e0
      clear hj hak
      obtain ⟨R, hR⟩ : ∃ R, R = lev s.h (asks.take k) := ⟨_, rfl⟩
      obtain ⟨G, hG⟩ : ∃ G, G = lvH s.h (asks.take k) := ⟨_, rfl⟩
      rw [← hR, ← hG] at HLV
      rw [← hG] at HLH hbd hhl hr hjl
      rw [← hR] at ho hkl
      clear hR hG
      have e1 := row_int hr hjl
      have HAD : Hid (addO G j 1 = G.set j (nth G j + 1)) := hid (by rw [addO_set hjl 1, nth_at hjl])
      rw [← nth_at hjl] at e1
      obtain ⟨x, hx⟩ : ∃ x, x = nth G j := ⟨_, rfl⟩
      rw [← hx] at e1 hbd HLV HAD
      have HXG := hid hx
      clear hx
      have hjh : (j : Int) < (s.h.length : Int) := by rw [HH.out]; omega
      have hj0 : (0 : Int) ≤ (j : Int) := by omega
      have hbd2 : 0 ≤ x ∧ x ≤ 32 := by omega
      clear hbd
      have hw : IntKind.i64.wrap (x + 1) = x + 1 := by rw [IntKind.wrap_i64]; omega
      have HHL := hid hhl
      have HJL := hid hjl
      clear hhl hjl
      go_wp2_with (at_builtin; refine wpList_append_own _ rfl _ _ 23 rfl w1.heap.size 3 i0 (.int .i64 0) 1 8 Try.underlying23 hi0 hz0 hz1 hz2 rfl (by decide) _ _ _ rfl (ho.alloc4 _).out ⟨wr.heap.size, 0, none⟩ 1 1 [.int .i64 x] rfl rfl (cell_one_new _ _ _) ?c2 ?c3 ?c4 ?c5 ?_)
      case c2 => simp [Value.oneCell']
      case c3 => unfold maxLen; omega
      case c4 => omega
      case c5 => simp; omega
      case _ =>
        intro v3 w3 h1 hg _
        have hlow := ho.out.lt
        have ho3 : Own w3 w1.heap.size v3 (lev s.h (asks.take (k + 1))) := by rw [HLV.out]; unfold Own; rw [ints_app, List.length_append]; exact h1
        have hr3 := row_kept (own_alloc hr (.cells #[.int .i64 x] 3)) hg (fun q hq e => by have hq2 : some g = some q := hq; injection hq2 with hq3; subst hq3; have := (hlow g e).1; omega)
        have hb3 : Below w.heap.size w w3 := (hb.alloc hb.size (.cells #[.int .i64 x] 3)).grown hg (by simp; omega) (fun q hq => by have := (hlow q hq).1; have := hB1.size; omega)
        have hz3 : w1.heap.size ≤ w3.heap.size := by have := hg.size; simp at this; omega
        have e3 := row_int hr3 HJL.out
        rw [← nth_at HJL.out, ← HXG.out] at e3
        have hfr := row_thaw hr3
        have hput := row_put hr3 j (.int .i64 (x + 1))
        rw [ints_set, ← HAD.out, ← HLH.out] at hput
        have HP := hid hput
        have HO := hid (ho3.setCell (a := ⟨g, j, none⟩) (show g < w1.heap.size from hg2) (.int .i64 (x + 1)))
        have HB := hid (hb3.setCell (p := ⟨g, j, none⟩) hg1 (.int .i64 (x + 1)))
        clear hput ho3 hr3 h1 hg hlow ho hr e1
        go_wp2
        go_roundw
        case rel => exact ⟨k + 1, by omega, by go_num, HO.out, HP.out, HB.out, by simpa using hz3⟩
        case measure => simp [intOf]; omega
    · have hi : ¬ (k : Int) < (asks.length : Int) := by omega
      rw [take_whole hlt] at ho
      go_wp2
      go_ret
      exact ⟨_, rfl, ho.mono hB1.size, hb⟩

/-- The places of the asks that get, in order. -/
def OrdAns (s : Shr) (asks : List Int) (w : World) (e : Ending) (w' : World) : Prop := ∃ (v : Value) (G : List Nat), e = .returned v ∧ Own w' w.heap.size v (nums G) ∧ GOrd s asks G ∧ Below w.heap.size w w'
theorem eok_at {m h asks : List Int} {p : Nat} (hp : p < asks.length) : eok m (prAt (prs h asks) p) = decide ((lev h asks)[p]'(by rw [lev_len]; exact hp) < nth m asks[p]) := by
  rw [prAt_get (by rw [prs_len]; exact hp), prs_at hp]; rfl
set_option maxHeartbeats 8000000 in
theorem givingOrder_any (s : Shr) (asks : List Int) (A1 A2 A3 : Option Addr) (c1 c2 c3 : Nat) (w : World) (h : SeesR w w.heap.size A1 A2 s) (h3 : Sees w w.heap.size A3 (ints asks)) (h1 : s.m.length ≤ 4194304) (h2 : s.h.length ≤ 4194304) (hn : asks.length ≤ 4194304) :
    Calls Try.prog 17 #[.agg #[.int .i64 s.t, .slice A1 s.m.length c1, .slice A2 s.h.length c2], .slice A3 asks.length c3] w (OrdAns s asks w) := by
  obtain ⟨i0, hi0, hz0, hz1, hz2⟩ := info_parts intInfo
  have px0 := At.new w 25 #[.int .i64 s.t, .slice A1 s.m.length c1, .slice A2 s.h.length c2]
  have hB0 := (Below.refl w.heap.size w).alloc (Nat.le_refl _) (.cells #[.int .i64 s.t, .slice A1 s.m.length c1, .slice A2 s.h.length c2] 25)
  have hs0 := h.on hB0
  have H1 := hid h1
  have H2 := hid h2
  have HN := hid hn
  clear h1 h2 hn
  rcases hv : shareB s with _ | _
  · have E := hid (gord_no (s := s) (asks := asks) (by simp [hv]))
    have HV := hid hv
    clear hv px0
    go_enter Try.func17, Try.ntmps17
    go_wp2_with fail
    with_reducible refine (iValidShare_any s A1 A2 c1 c2 _ hs0 H1.out H2.out).mono ?_
    rintro e w1 ⟨he, hb1⟩
    rw [HV.out] at he
    subst he
    have hB1 := hB0.trans (hb1.mono hB0.size)
    go_wp2
    go_ret
    exact ⟨_, [], rfl, Own.none_ _ _, E.out, hB1⟩
  have HV := hid hv
  by_cases hl : (asks.length : Int) > 12
  · have E := hid (gord_no (s := s) (asks := asks) (fun hh => by have := hh.2.1; omega))
    clear hv px0
    go_enter Try.func17, Try.ntmps17
    go_wp2_with fail
    with_reducible refine (iValidShare_any s A1 A2 c1 c2 _ hs0 H1.out H2.out).mono ?_
    rintro e w1 ⟨he, hb1⟩
    rw [HV.out] at he
    subst he
    have hB1 := hB0.trans (hb1.mono hB0.size)
    go_wp2
    go_ret
    exact ⟨_, [], rfl, Own.none_ _ _, E.out, hB1⟩
  rcases hw : allB asks 0 4 with _ | _
  · have E := hid (gord_no (s := s) (asks := asks) (fun hh => by rw [allB_iff.2 hh.2.2] at hw; cases hw))
    have HW := hid hw
    clear hv px0 hw
    go_enter Try.func17, Try.ntmps17
    go_wp2_with fail
    with_reducible refine (iValidShare_any s A1 A2 c1 c2 _ hs0 H1.out H2.out).mono ?_
    rintro e w1 ⟨he, hb1⟩
    rw [HV.out] at he
    subst he
    have hB1 := hB0.trans (hb1.mono hB0.size)
    have hs3 := (h3.below hB1).more hB1.size
    go_wp2_with fail
    with_reducible refine (allWithin_any A3 c3 asks 0 4 _ hs3 HN.out).mono ?_
    rintro e w' ⟨he, rfl⟩
    rw [HW.out] at he
    subst he
    go_wp2
    go_ret
    exact ⟨_, [], rfl, Own.none_ _ _, E.out, hB1⟩
  have HW := hid hw
  have HA := hid (show okA asks from ⟨by omega, allB_iff.1 hw⟩)
  have HSM := hid (share_sm hv)
  have HST := hid (share_t hv)
  have HBO := hid (und_wide (shareB_iff.1 hv).2.2.1 (share_m hv) (share_h hv) (shareB_iff.1 hv).2.2.2.2.1)
  have HLL := hid (show s.h.length ≤ 100000 by have := share_h hv; omega)
  have HML := hid (share_m hv)
  have hsb := sm_bound HBO.out
  have hsl := share_h hv
  have hwr : IntKind.i64.wrap (s.t - sm s.h) = s.t - sm s.h := by have := HST.out; have := HSM.out; rw [IntKind.wrap_i64]; omega
  clear hv hw hsb hsl
  go_enter Try.func17, Try.ntmps17
  go_wp2_with fail
  with_reducible refine (iValidShare_any s A1 A2 c1 c2 _ hs0 H1.out H2.out).mono ?_
  rintro e w1 ⟨he, hb1⟩
  rw [HV.out] at he
  subst he
  have hB1 := hB0.trans (hb1.mono hB0.size)
  have px1 := px0.below hb1 px0.lt
  have hs1 := hs0.on hb1
  have hs3 := (h3.below hB1).more hB1.size
  obtain ⟨p0, p1, p2, pl, pf⟩ := px1.three
  clear px0 hs0 hb1 hB0
  go_wp2_with fail
  with_reducible refine (allWithin_any A3 c3 asks 0 4 _ hs3 HN.out).mono ?_
  rintro e w' ⟨he, rfl⟩
  rw [HW.out] at he
  subst he
  go_wp2
  go_quiet ((go_at_call 25; (with_reducible refine sumOf_q A2 c2 s.h _ _ hs1.has HLL.out HBO.out)))
  go_wp2_with fail
  with_reducible refine (askLevels_any s asks A1 A2 A3 c1 c2 c3 _ (hs1.drewN _) (hs3.drewN _) HV.out HA.out).mono ?_
  rintro e w2 ⟨v2, rfl, ho2, hb2⟩
  have hB2 := hB1.trans ((below_drewN (Below.refl _ _) _).trans hb2 |>.mono hB1.size)
  have px2 := (px1.drewN _).below hb2 px1.lt
  have hs2 := (hs1.drewN _).on hb2
  obtain ⟨A4, c4, rfl, hs4⟩ := ho2.form
  have HLV : Hid ((lev s.h asks).length = asks.length) := hid (lev_len _ _)
  have HGO := hid (fun K hK => gord_yes (K := K) HV.out HA.out hK)
  have HEO := hid (fun p (hp : p < asks.length) => eok_at (m := s.m) (h := s.h) hp)
  clear p0 p1 p2 pl pf px1 hs1 hs3 hb2 hB1
  rw [HLV.out]
  go_wp2_with fail
  have hpl := placesInOrder_any A4 c4 (lev s.h asks) w2 hs4 (by rw [HLV.out]; exact HA.out.1)
  rw [HLV.out] at hpl
  with_reducible refine hpl.mono ?_
  clear hpl
  rintro e w3 ⟨v3, K, rfl, ho3, hK, hb3⟩
  have hB3 := hB2.trans (hb3.mono hB2.size)
  have px3 := px2.below hb3 px2.lt
  have hs3 := hs2.on hb3
  have hs5 := (hs4.below hb3).more hb3.size
  obtain ⟨A5, c5, rfl, hs6⟩ := ho3.form
  have HKL : Hid ((nums K).length = asks.length) := hid (by rw [nums_len]; exact hK.1)
  have HKl := hid hK.1
  have HKm := hid (fun i hi => (ordN_perm hK i).1 hi)
  have HG := hid (HGO.out K hK)
  rw [HKL.out]
  clear ho2 ho3 hK hB2 px2 hs2 hs4 hb3 HGO
  obtain ⟨n, hnn⟩ : ∃ n, n = (s.t - sm s.h).toNat := ⟨_, rfl⟩
  have HNN : Hid ((n : Int) = s.t - sm s.h) := hid (by have := HSM.out; omega)
  rw [← hnn] at HG
  clear hnn
  have hgz : gk s.m s.h asks K n 0 = [] := gk_zero _ _ _ _ _
  have HGZ := hid hgz
  clear hgz
  go_wp2
  go_loopw [7, 35] (fun v i wr => ∃ k : Nat, k ≤ asks.length ∧ i = .int .i64 k ∧ Own wr w3.heap.size v (nums (gk s.m s.h asks K n k)) ∧ Below w3.heap.size w3 wr) (fun _ i _ => asks.length - (intOf i).toNat)
  case atStart => exact ⟨0, Nat.zero_le _, rfl, by rw [HGZ.out]; exact Own.none_ _ _, Below.refl _ _⟩
  case round =>
    obtain ⟨k, hk, rfl, ho, hb⟩ := hrel
    have hn := HA.out.1
    by_cases hlt : k < asks.length
    · have hi : (k : Int) < (asks.length : Int) := by omega
      have hkK : k < K.length := by rw [HKl.out]; exact hlt
      have hkN : k < (nums K).length := by rw [nums_len]; exact hkK
      obtain ⟨b5, o5, rfl, _, e5⟩ := (hs6.on hb (Nat.le_refl _)).int hkN
      have hKk : (nums K)[k] = ((K[k] : Nat) : Int) := by simp [nums]
      rw [hKk] at e5
      have hpl := HKm.out K[k] (List.getElem_mem hkK)
      have HY := hid (fun (hc : eok s.m (prAt (prs s.h asks) K[k]) = true) (hl : (gk s.m s.h asks K n k).length < n) => gk_yes hkK hc hl)
      have HF := hid (fun (hl : ¬ (gk s.m s.h asks K n k).length < n) => gk_full (m := s.m) (h := s.h) (asks := asks) hkK hl)
      have HO := hid (fun (hc : eok s.m (prAt (prs s.h asks) K[k]) = false) => gk_no (n := n) hkK hc)
      have hgl := gk_len s.m s.h asks K n k
      have HNL : Hid ((nums (gk s.m s.h asks K n k)).length = (gk s.m s.h asks K n k).length) := hid (nums_len _)
      have HSN := hid (fun (x : Nat) => nums_snoc (gk s.m s.h asks K n k) x)
      obtain ⟨p, hp⟩ : ∃ p, p = K[k] := ⟨_, rfl⟩
      rw [← hp] at e5 hpl HY HO
      clear hp hKk hkN
      have hpR : p < (lev s.h asks).length := by rw [HLV.out]; exact hpl
      obtain ⟨b4, o4, rfl, _, e4⟩ := (hs5.on hb (Nat.le_refl _)).int hpR
      obtain ⟨b3, o3, rfl, _, e3⟩ := ((h3.below hB3).on hb hB3.size).int hpl
      have har := HA.out.2 _ (List.getElem_mem hpl)
      obtain ⟨j, hj⟩ : ∃ j : Nat, asks[p] = j := ⟨asks[p].toNat, by omega⟩
      have hjm : j < s.m.length := by rw [HML.out]; omega
      obtain ⟨b1, o1, rfl, _, e1⟩ := (hs3.on hb).most.int hjm
      have HE := hid (HEO.out p hpl)
      rw [hj] at e3 HE
      rw [nth_at hjm] at HE
      obtain ⟨x, hx⟩ : ∃ x, x = (lev s.h asks)[p] := ⟨_, rfl⟩
      obtain ⟨y, hy⟩ : ∃ y, y = s.m[j] := ⟨_, rfl⟩
      rw [← hx] at e4 HE
      rw [← hy] at e1 HE
      have hji : (j : Int) < (s.m.length : Int) := by omega
      have hj0 : (0 : Int) ≤ (j : Int) := by omega
      have hpi : (p : Int) < (asks.length : Int) := by omega
      have hp0 : (0 : Int) ≤ (p : Int) := by omega
      clear hx hy hj har hpR
      have px := px3.below hb px3.lt
      obtain ⟨p0, p1, p2, pl, pf⟩ := px.three
      clear px
      obtain ⟨G, hG⟩ : ∃ G, G = gk s.m s.h asks K n k := ⟨_, rfl⟩
      rw [← hG] at ho HY HF HO hgl HNL HSN
      clear hG
      obtain ⟨A7, c7, rfl, _⟩ := ho.form
      rw [HNL.out]
      have hoo : wr.ownsRow w3.heap.size 3 1 (.slice A7 G.length c7) G.length (ints (nums G)) := by have := ho.out; rw [HNL.out] at this; exact this
      by_cases hc : x < y
      · by_cases hl : (G.length : Int) < s.t - sm s.h
        · have HX := hid (HY.out (by rw [HE.out]; exact decide_eq_true hc) (by have := HNN.out; omega))
          have HOO := hid hoo
          have HB := hid hb
          clear HY HF HO
          go_wp2
          go_quiet (fail)
          go_wp2_with (at_builtin; refine wpList_append_own _ rfl _ _ 23 rfl w3.heap.size 3 i0 (.int .i64 0) 1 8 Try.underlying23 hi0 hz0 hz1 hz2 rfl (by decide) _ _ _ rfl (own_alloc (own_below HOO.out (below_drewN (Below.refl _ _) _)) _) ⟨wr.heap.size, 0, none⟩ 1 1 [.int .i64 p] rfl rfl (by simpa using cell_one_new (wr.drewN _) _ _) ?c2 ?c3 ?c4 ?c5 ?_)
          case c2 => simp [Value.oneCell']
          case c3 => unfold maxLen; omega
          case c4 => omega
          case c5 => have := hb.size; simp; omega
          case _ =>
            intro v8 w8 h8 hg8 _
            have ho8 : Own w8 w3.heap.size v8 (nums (G ++ [p])) := by unfold Own; rw [HSN.out, ints_app, List.length_append, HNL.out]; exact h8
            have hb8 := ((below_drewN HB.out _).alloc (by have := HB.out.size; simpa using this) _).grown hg8 (by have := HB.out.size; simp; omega) (fun q hq => (HOO.out.lt q hq).1)
            rw [← HX.out] at ho8
            clear h8 hg8
            go_wp2
            go_roundw
            case rel => exact ⟨k + 1, by omega, by go_num, ho8, hb8⟩
            case measure => simp [intOf]; omega
        · have HX := hid (HF.out (by have := HNN.out; omega))
          clear HY HF HO
          have hlf : decide ((G.length : Int) < s.t - sm s.h) = false := decide_eq_false hl
          go_wp2
          go_quiet (fail)
          go_wp2
          go_roundw
          case rel => exact ⟨k + 1, by omega, by go_num, by rw [HX.out]; unfold Own; rw [HNL.out]; exact own_below hoo (below_drewN (Below.refl _ _) _), below_drewN hb _⟩
          case measure => simp [intOf]; omega
      · have HX := hid (HO.out (by rw [HE.out]; exact decide_eq_false hc))
        clear HY HF HO
        have hcf : decide (x < y) = false := decide_eq_false hc
        go_wp2
        go_quiet (fail)
        go_wp2
        go_roundw
        case rel => exact ⟨k + 1, by omega, by go_num, by rw [HX.out]; unfold Own; rw [HNL.out]; exact own_below hoo (below_drewN (Below.refl _ _) _), below_drewN hb _⟩
        case measure => simp [intOf]; omega
    · have hi : ¬ (k : Int) < (asks.length : Int) := by omega
      have hkk : k = asks.length := by omega
      rw [hkk] at ho
      have HO := hid ho
      have HB := hid (hB3.trans (hb.mono hB3.size))
      have HZ := hid hB3.size
      clear ho hkk
      go_wp2
      go_ret
      exact ⟨_, _, rfl, HO.out.mono HZ.out, HG.out, HB.out⟩

set_option maxHeartbeats 2000000 in
theorem iNextOwner_any (s : Shr) (asks : List Int) (A1 A2 A3 : Option Addr) (c1 c2 c3 : Nat) (w : World) (h : SeesR w w.heap.size A1 A2 s) (h3 : Sees w w.heap.size A3 (ints asks)) (h1 : s.m.length ≤ 4194304) (h2 : s.h.length ≤ 4194304) (hn : asks.length ≤ 4194304) :
    Calls Try.prog 8 #[.agg #[.int .i64 s.t, .slice A1 s.m.length c1, .slice A2 s.h.length c2], .slice A3 asks.length c3] w fun e w' => e = .returned (.int .i64 (nextO s asks)) ∧ Below w.heap.size w w' := by
  have hB0 := (Below.refl w.heap.size w).alloc (Nat.le_refl _) (.cells #[.int .i64 s.t, .slice A1 s.m.length c1, .slice A2 s.h.length c2] 25)
  have hs0 := h.on hB0
  have hs3 := (h3.below hB0).more hB0.size
  go_enter Try.func8, Try.ntmps8
  go_wp2_with fail
  with_reducible refine (givingOrder_any s asks A1 A2 A3 c1 c2 c3 _ hs0 hs3 h1 h2 hn).mono ?_
  rintro e w1 ⟨v1, G, rfl, ho1, hG, hb1⟩
  have hB1 := hB0.trans (hb1.mono hB0.size)
  obtain ⟨A4, c4, rfl, hs4⟩ := ho1.form
  clear hb1 hB0 hs0 hs3
  rcases G with _ | ⟨k, G⟩
  · have E := hid hG.2.1
    go_wp2
    go_ret
    exact ⟨ret_int E.out.symm, hB1⟩
  · have E := hid hG.2.1
    have hl := hG.2.2.2
    have HNL : Hid ((nums (k :: G)).length = G.length + 1) := hid (by rw [nums_len]; rfl)
    have hlz : 0 < (nums (k :: G)).length := by rw [HNL.out]; omega
    obtain ⟨b, o, rfl, _, e0⟩ := hs4.int hlz
    have hk0 : (nums (k :: G))[0] = (k : Int) := by simp [nums]
    rw [hk0] at e0
    have e0' : w1.cell? ⟨b, o, none⟩ = some (.int .i64 k) := by simpa using e0
    rw [HNL.out]
    have hne : (((G.length + 1 : Nat) : Int) == 0) = false := beq_eq_false_iff_ne.2 (by omega)
    have hpos : (0 : Int) < ((G.length + 1 : Nat) : Int) := by omega
    clear hG hk0 hlz e0 hs4 ho1
    go_wp2
    go_ret
    exact ⟨ret_int E.out.symm, hB1⟩

end Go.Proofs.Ytmpiigjkmodekaa

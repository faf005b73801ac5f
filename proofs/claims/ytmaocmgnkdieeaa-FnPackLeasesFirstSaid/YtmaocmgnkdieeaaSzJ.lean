/-
  What the model's PackLeases answers. Condition: the list lies in memory.
-/
import Derived.Test.YtmaocmgnkdieeaaSzI
namespace Go.Proofs.Ytmaocmgnkdieeaa
open Go.RowKit Lse

def lenV : Value → Nat
  | .slice _ n _ => n
  | _ => 0
theorem usedAny_len {A A2 : Option Addr} {c c2 n m : Nat} {O : List L} {d : List Nat} {q : Int} {x : L} {w : World} (h1 : O.length = n) (h3 : d.length = m) (h : Sees w w.heap.size A (lvals O)) (h2 : Sees w w.heap.size A2 (ints (nums d))) (hd : ∀ i ∈ d, i < O.length) (hn : d.length ≤ 12) :
    Calls Try.prog 19 #[.slice A n c, .slice A2 m c2, .int .i64 q, .agg #[.int .i64 x.c, .int .i64 x.o, .int .i64 x.f, .int .i64 x.u]] w fun e w' => e = .returned (.bool (!freeB (leasesAt O d) q x.f x.u)) ∧ Below w.heap.size w w' := by
  subst h1 h3; exact usedAny_any A A2 c c2 O d q x w h h2 hd hn
theorem packIn_q (A : Option Addr) (c n : Nat) (xs : List Int) (x : Int) (b : Bool) (w : World) (m : Nat) {B : Nat} (hl : xs.length = n) (h : Sees w B A (ints xs)) (hn : xs.length ≤ 4611686018427387904) (hb : memB xs x = b) :
    Calls Try.prog 18 #[.slice A n c, .int .i64 x] (w.drewN m) fun e w'' => e = .returned (.bool b) ∧ ∃ m, w'' = w.drewN m := by
  subst hb hl
  exact Calls.quiet_of_same ((sisIn_any A c xs x (w.drewN m) (show Sees (w.drewN m) B A (ints xs) from h) hn).mono fun _ _ ⟨he, hw⟩ => ⟨he, hw.symm⟩)
theorem mem_nums {d : List Nat} {j : Nat} : memB (nums d) (j : Int) = decide (j ∈ d) := by
  rw [Bool.eq_iff_iff, memB_iff, decide_eq_true_eq]
  unfold nums
  rw [List.mem_map]
  exact ⟨fun ⟨i, hi, e⟩ => by have : i = j := by omega
                              exact this ▸ hi, fun h => ⟨j, h, rfl⟩⟩
set_option maxHeartbeats 1500000 in
theorem sPackLeases_any (A : Option Addr) (c : Nat) (l : List L) (K : List Nat) (w : World) (h : Sees w w.heap.size A (lvals l)) (hn : l.length ≤ 4194304) (hK : Ord l l.length K) :
    Calls Try.prog 8 #[.slice A l.length c] w fun e w' => ∃ v, e = .returned (.tuple #[v, .bool (validB l)]) ∧ OwnL w' w.heap.size v (packL l K) ∧ Below w.heap.size w w' := by
  obtain ⟨i0, hi0, hz0, hz1, hz2⟩ := info_parts leaseInfo
  obtain ⟨j0, hj0, hy0, hy1, hy2⟩ := info_parts intInfo
  have HN := hid hn; clear hn
  have HK := hid hK; clear hK
  rcases hv : validB l with _ | _
  · have E : Hid (packL l K = []) := hid (by unfold packL; rw [if_neg (by simp [hv])])
    have HV := hid hv
    clear hv
    go_enter Try.func8, Try.ntmps8
    go_wp2_with fail
    refine (svalidLeases_any A c l _ h HN.out).mono ?_
    rintro e w1 ⟨he, hb1⟩
    rw [HV.out] at he
    subst he
    go_wp2
    go_ret2
    exact ⟨_, rfl, by rw [E.out]; exact OwnS.none_ _ _, hb1⟩
  · have HL := hid (valid_len hv)
    have HV := hid hv
    have HQ : Hid (packL l K = (packs l K).1) := hid (by unfold packL; rw [if_pos hv])
    clear hv
    rcases A with _ | ad
    · have el : l = [] := by
        have e := h.none_nil
        cases l with
        | nil => rfl
        | cons y l => simp [lvals, lcells] at e
      subst el
      have ek : K = [] := List.eq_nil_of_length_eq_zero HK.out.1
      subst ek
      go_enter Try.func8, Try.ntmps8
      go_wp2_with fail
      refine (svalidLeases_any none c [] _ h HN.out).mono ?_
      rintro e w1 ⟨he, hb1⟩
      rw [HV.out] at he
      subst he
      have hz1' := hb1.size
      have ho : OwnL ((w1.alloc (.cells #[] 30)).alloc (.cells #[] 3)) w.heap.size (.slice (some ⟨w1.heap.size, 0, none⟩) 0 0) [] := OwnS.alloc (OwnS.made w1 hb1.size) _
      have hbA := (hb1.alloc hz1' (.cells #[] 30)).alloc (by simp; omega) (.cells #[] 3)
      have HR : Hid (packL [] [] = []) := hid (by rw [HQ.out]; simp [packs])
      go_wp2
      go_loopw [5] (fun v wr => v = .slice (some ⟨w1.heap.size + 1, 0, none⟩) 0 0 ∧ OwnL wr w.heap.size (.slice (some ⟨w1.heap.size, 0, none⟩) 0 0) [] ∧ Below w.heap.size w wr) (fun _ _ => 0)
      case atStart => exact ⟨rfl, ho, hbA⟩
      case round =>
        clear ho hbA
        obtain ⟨rfl, ho, hbA⟩ := hrel
        go_wp2
        go_ret2
        exact ⟨_, rfl, by rw [HR.out]; exact ho, hbA⟩
    · go_enter Try.func8, Try.ntmps8
      go_wp2_with fail
      refine (svalidLeases_any (some ad) c l _ h HN.out).mono ?_
      rintro e w1 ⟨he, hb1⟩
      rw [HV.out] at he
      subst he
      have hl12 := HL.out
      have hz1' := hb1.size
      have ho : OwnL (w1.alloc (.cells #[] 30)) w.heap.size (.slice (some ⟨w1.heap.size, 0, none⟩) 0 0) [] := OwnS.made w1 hb1.size
      have hs1 : Sees (w1.alloc (.cells #[] 30)) w.heap.size (some ad) (strip lcells l) := (h.below hb1).alloc hb1.size _
      go_wp2_with (at_builtin; refine wpList_append_own _ rfl _ _ 23 rfl w.heap.size 30 i0 (.agg #[.int .i64 0, .int .i64 0, .int .i64 0, .int .i64 0]) 4 32 Try.underlying23 hi0 hz0 hz1 hz2 rfl (by decide) _ _ _ rfl ho.out ad l.length c (strip lcells l) rfl (strip_len lcells_len l) hs1.add (lcells_one l) ?c3 ?c4 ?c5 ?_)
      case c3 => unfold maxLen; simp; omega
      case c4 => simp; omega
      case c5 => simp; omega
      case _ =>
        intro v1 w5 h5 hg5 _
        have ho5 : w5.ownsRow w.heap.size 30 4 v1 l.length (strip lcells l) := by simpa [strip_nil] using h5
        have hb5 : Below w.heap.size w w5 := (hb1.alloc hz1' _).grown hg5 (by simp; omega) (fun q hq => by have hq' : w1.heap.size = q := Option.some.inj hq; omega)
        have HG : Hid (∀ k, v1.ownBlock = some k → w.heap.size ≤ k ∧ k < w5.heap.size) := hid (fun k hk => World.ownsRow.lt ho5 k hk)
        obtain ⟨A4, c4, rfl, _, _⟩ := own_form ho5
        have hd0 : (w5.alloc (.cells #[] 3)).ownsRow w5.heap.size 3 1 (.slice (some ⟨w5.heap.size, 0, none⟩) 0 0) 0 (ints (nums [])) := (Own.made w5 w5.heap.size (Nat.le_refl _)).out
        have hO0 : (w5.alloc (.cells #[] 3)).ownsRow w.heap.size 30 4 (.slice A4 l.length c4) l.length (strip lcells l) := own_alloc ho5 _
        have hbA := hb5.alloc hb5.size (.cells #[] 3)
        clear h5 hg5 ho hs1 ho5 hb1 hz1'
        have HB5 := hid hb5
        clear hb5
        go_wp2
        go_loopw [5] (fun v wr => ∃ (k : Nat) (O D : List L), wr.ownsRow w5.heap.size 3 1 v k (ints (nums (K.take k))) ∧ Hid ((O, D) = packs l (K.take k)) ∧ Hid (k ≤ l.length) ∧ Hid (Pak l K k O D) ∧ wr.ownsRow w.heap.size 30 4 (.slice A4 l.length c4) l.length (strip lcells O) ∧ Below w.heap.size w wr ∧ Hid (w5.heap.size ≤ wr.heap.size)) (fun v _ => l.length - lenV v)
        case atStart => exact ⟨0, l, [], hd0, hid (by simp [packs]), hid (Nat.zero_le _), hid (pak_zero l K), hO0, hbA, hid (by simp)⟩
        case round =>
          clear hd0 hO0 hbA
          obtain ⟨wo, hwo⟩ : ∃ wo : World, wo = wr := ⟨_, rfl⟩
          subst hwo
          obtain ⟨k, O, D, hd, HOD, HKL, HPK, hO, hb, HW5⟩ := hrel
          obtain ⟨A2, c2, rfl, hc2, _⟩ := own_form hd
          have hl12 := HL.out
          have hKl : K.length = l.length := HK.out.1
          have hkle := HKL.out
          have HDK := hid (show (K.take k).length = k by rw [List.length_take]; omega)
          have HKE := hid hKl
          clear hKl
          by_cases hlt : k < l.length
          · have hi : (k : Int) < (l.length : Int) := by omega
            have hs2 : Sees wo wo.heap.size A2 (ints (nums (K.take k))) := Sees.of_own hd
            have HD := hid hd
            have HO := hid hO
            clear hd hO
            have hz := hb.size
            go_wp2
            go_loopw [6, 7] (fun a i wr2 => ∃ (j : Nat) (a' : Int), Hid (j ≤ l.length) ∧ i = .int .i64 j ∧ a = .int .i64 a' ∧ Hid (Best l (K.take k) j a') ∧ Below wo.heap.size wo wr2) (fun _ i _ => l.length - (intOf i).toNat)
            case atStart => exact ⟨0, -1, hid (Nat.zero_le _), rfl, rfl, hid (Best.nil _ _), Below.refl _ _⟩
            case round =>
              obtain ⟨j, a, HJ, rfl, rfl, HBE, hb2⟩ := hrel
              by_cases hjl : j < l.length
              · have hji : (j : Int) < (l.length : Int) := by omega
                have hj0 : (0 : Int) ≤ (j : Int) := by omega
                have hj0' : ¬ (j : Int) < 0 := by omega
                have hlen : (nums (K.take k)).length = k := by rw [nums_len]; exact HDK.out
                have HLN := hid hlen
                have hs2m := hs2.below hb2
                clear hlen
                rcases hB : memB (nums (K.take k)) (j : Int) with _ | _
                · have HB := hid hB
                  have hjd : j ∉ K.take k := by rw [mem_nums] at hB; exact of_decide_eq_false hB
                  clear hB
                  by_cases ha : a < 0
                  · have HN2 := hid (best_first HBE.out ha hjd)
                    clear hjd
                    go_wp2
                    go_quiet ((go_at_call 18; (with_reducible refine packIn_q A2 c2 k _ (j : Int) _ _ _ HLN.out hs2m (by have := HLN.out; omega) HB.out)))
                    go_wp2
                    go_roundw
                    case rel => exact ⟨j + 1, j, hid (by omega), by go_num, rfl, HN2, below_drewN hb2 _⟩
                    case measure => simp [intOf]; omega
                  · obtain ⟨b, hab⟩ : ∃ b : Nat, a = b := ⟨a.toNat, by omega⟩
                    have hbj : b < l.length := by
                      have := HBE.out
                      rcases this with ⟨h1, _⟩ | ⟨b', h1, h2, _⟩ <;> omega
                    have HNX := hid (best_next (hab ▸ HBE.out) hjd)
                    subst hab
                    clear hjd
                    obtain ⟨g, o, he, hbl, f0, f1, f2, f3⟩ := ((h.below (hb.trans (hb2.mono hz))).lease hjl)
                    injection he with he
                    subst he
                    obtain ⟨g', o', he, _, e0, e1, e2, e3⟩ := ((h.below (hb.trans (hb2.mono hz))).lease hbj)
                    injection he with he
                    injection he with he1 he2
                    subst he1 he2
                    rw [← fr_at hjl] at f2
                    rw [← fr_at hbj] at e2
                    clear f0 f1 f3 e0 e1 e3
                    obtain ⟨u, hu⟩ : ∃ u, u = fr l j := ⟨_, rfl⟩
                    obtain ⟨t, ht⟩ : ∃ t, t = fr l b := ⟨_, rfl⟩
                    rw [← hu] at HNX f2
                    rw [← ht] at HNX e2
                    clear hu ht
                    have hb0 : (0 : Int) ≤ (b : Int) := by omega
                    have hbi : (b : Int) < (l.length : Int) := by omega
                    have hgw : g < wr.heap.size := by have := hb2.size; omega
                    by_cases hut : u < t
                    · have HN2 := hid (show Best l (K.take k) (j + 1) j by have := HNX.out; rw [if_pos hut] at this; exact this)
                      go_wp2
                      go_quiet ((go_at_call 18; (with_reducible refine packIn_q A2 c2 k _ (j : Int) _ _ _ HLN.out hs2m (by have := HLN.out; omega) HB.out)))
                      go_wp2
                      go_roundw
                      case rel => exact ⟨j + 1, j, hid (by omega), by go_num, rfl, HN2, below_drewN hb2 _⟩
                      case measure => simp [intOf]; omega
                    · have HN2 := hid (show Best l (K.take k) (j + 1) b by have := HNX.out; rw [if_neg hut] at this; exact this)
                      go_wp2
                      go_quiet ((go_at_call 18; (with_reducible refine packIn_q A2 c2 k _ (j : Int) _ _ _ HLN.out hs2m (by have := HLN.out; omega) HB.out)))
                      go_wp2
                      go_roundw
                      case rel => exact ⟨j + 1, b, hid (by omega), by go_num, rfl, HN2, below_drewN hb2 _⟩
                      case measure => simp [intOf]; omega
                · have HB := hid hB
                  have HN2 := hid (best_done HBE.out (show j ∈ K.take k by rw [mem_nums] at hB; exact of_decide_eq_true hB))
                  clear hB
                  go_wp2
                  go_quiet ((go_at_call 18; (with_reducible refine packIn_q A2 c2 k _ (j : Int) _ _ _ HLN.out hs2m (by have := HLN.out; omega) HB.out)))
                  go_wp2
                  go_roundw
                  case rel => exact ⟨j + 1, a, hid (by omega), by go_num, rfl, HN2, below_drewN hb2 _⟩
                  case measure => simp [intOf]; omega
              · have hji : ¬ (j : Int) < (l.length : Int) := by omega
                have hjj : j = l.length := by have := HJ.out; omega
                have hae : a = (ats K k : Int) := best_end HK.out hlt (hjj ▸ HBE.out)
                clear hjj HBE
                obtain ⟨wm, hwm⟩ : ∃ wm : World, wm = wr := ⟨_, rfl⟩
                subst hwm
                have hbm := hb.trans (hb2.mono hz)
                have hOm := own_below HO.out hb2
                have hdm := own_below HD.out hb2
                clear HO HD hs2
                have hkK : k < K.length := by rw [HKE.out]; exact hlt
                have hpl : ats K k < l.length := HK.out.lt hlt
                obtain ⟨cn, cn6, cl, cfree, cbelow⟩ := free_some HV.out HK.out HPK.out hlt
                have hnx := pak_step HV.out HK.out HPK.out hlt
                have hox : pk1 l (O, D) (ats K k) = packs l (K.take (k + 1)) := by rw [ats_take hkK, packs_snoc, HOD.out]
                have hsm := HPK.out.same _ hpl
                have HDE := hid HPK.out.done
                unfold pk1 at hox hnx
                simp only [] at hox hnx
                rw [cl] at hox hnx
                have hin : ∀ i ∈ K.take k, i < l.length := fun i hi => HK.out.2.2.1 i (List.mem_of_mem_take hi)
                have hnk : nums (K.take (k + 1)) = nums (K.take k) ++ [(ats K k : Int)] := by rw [ats_take hkK, nums_snoc]
                obtain ⟨p, hp⟩ : ∃ p, p = ats K k := ⟨_, rfl⟩
                rw [← hp] at hpl hox hnx hsm hae cfree cbelow hnk
                have hOl : O.length = l.length := HPK.out.len
                have hpO : p < O.length := by omega
                have hyy : put O[p] cn = put (at0 l p) cn := by
                  rw [at0_at hpO] at hsm
                  unfold put; rw [hsm.1, hsm.2.1, hsm.2.2]
                have hatl := at0_at hpl
                obtain ⟨x, hx⟩ : ∃ x, x = at0 l p := ⟨_, rfl⟩
                rw [← hx] at hox hnx hyy cfree cbelow hatl
                obtain ⟨y, hy⟩ : ∃ y, y = put x cn := ⟨_, rfl⟩
                rw [← hy] at hox hnx hyy
                subst hae
                have HYY := hid hyy
                have HATL := hid hatl
                have HOX := hid hox.symm
                have HNX := hid hnx
                have HNK := hid hnk
                have HIN := hid hin
                have HCF := hid cfree
                have HCB := hid cbelow
                have HOL := hid hOl
                have HOM := hid hOm
                have HDM := hid hdm
                have hzm := hb2.size
                have hzw := hbm.size
                have HW5M := hid (show w5.heap.size ≤ wm.heap.size by have := HW5.out; omega)
                clear hp hx hy hsm cl hyy hatl hox hnx hnk hin cfree cbelow hOl hOm hdm hb2
                have hp0 : (0 : Int) ≤ (p : Int) := by omega
                have hpi : (p : Int) < (l.length : Int) := by omega
                go_wp2
                go_loopw [8] (fun q wr3 => ∃ i : Nat, q = .int .i64 i ∧ Hid (i ≤ cn) ∧ Below wm.heap.size wm wr3) (fun q _ => cn - (intOf q).toNat)
                case atStart => exact ⟨0, rfl, hid (Nat.zero_le _), Below.refl _ _⟩
                case round =>
                  obtain ⟨i, rfl, HI, hb3⟩ := hrel
                  have hz3 := hb3.size
                  have hbw3 := hbm.trans (hb3.mono hzw)
                  obtain ⟨b, o, he, hbl, e0, e1, e2, e3⟩ := (h.below hbw3).lease hpl
                  injection he with he
                  subst he
                  rw [← HATL.out] at e0 e1 e2 e3
                  have hbw : b < wr.heap.size := by omega
                  have hO3 := own_below HOM.out hb3
                  have hd3 := own_below HDM.out hb3
                  have hsO : Sees wr wr.heap.size A4 (lvals O) := Sees.of_own hO3
                  have hsd : Sees wr wr.heap.size A2 (ints (nums (K.take k))) := Sees.of_own hd3
                  have HO3 := hid hO3
                  have HD3 := hid hd3
                  clear hO3 hd3
                  go_wp2_with fail
                  refine (usedAny_len (x := x) HOL.out HDK.out hsO hsd (fun i hi => by rw [HOL.out]; exact HIN.out i hi) (by rw [HDK.out]; omega)).mono ?_
                  rintro e w7 ⟨he, hb7⟩
                  rw [← HDE.out] at he
                  have hi6 : i ≤ 6 := by have := HI.out; omega
                  by_cases hic : i < cn
                  · rw [HCB.out i hic] at he
                    subst he
                    clear hsO hsd
                    go_wp2
                    go_roundw
                    case rel => exact ⟨i + 1, by go_num, hid (by omega), hb3.trans (hb7.mono hz3)⟩
                    case measure => simp [intOf]; omega
                  · have hicn : i = cn := by have := HI.out; omega
                    subst hicn
                    rw [HCF.out] at he
                    subst he
                    have hO7 := own_below HO3.out hb7
                    have hd7 := own_below HD3.out hb7
                    have hb7w := hbw3.trans (hb7.mono (by omega))
                    have hpO : p < O.length := by rw [HOL.out]; exact hpl
                    obtain ⟨g, hg⟩ := own_blockL hO7 (by omega)
                    subst hg
                    obtain ⟨hg0, hg2⟩ := HG.out g rfl
                    have hfr7 := row_thaw hO7
                    obtain ⟨z, z0⟩ : ∃ z : Int, w7.cell? ⟨g, p * 4, none⟩ = some (.int .i64 z) := by
                      obtain ⟨b', o', he, _, f0, _⟩ := (show Sees _ _ _ (lvals O) from Sees.of_own hO7).lease (k := p) hpO
                      injection he with he
                      injection he with he1 he2
                      subst he1 he2
                      rw [Nat.zero_add] at f0
                      exact ⟨_, f0⟩
                    have hO8 := row_put hO7 (p * 4) (.int .i64 i)
                    rw [leasePut hpO, HYY.out] at hO8
                    have hd8 := ownsRow_setCell_below (a := ⟨g, p * 4, none⟩) hd7 hg2 (.int .i64 i)
                    have hb8 := hb7w.setCell (p := ⟨g, p * 4, none⟩) hg0 (.int .i64 i)
                    have hs7 := hb7.size
                    obtain ⟨w8, hw8⟩ : ∃ w8, w8 = w7.setCell ⟨g, p * 4, none⟩ (.int .i64 i) := ⟨_, rfl⟩
                    have HW8 := hid hw8
                    rw [← hw8] at hO8 hd8 hb8
                    have hs8e : w8.heap.size = w7.heap.size := by rw [hw8]; simp
                    have hw5m := HW5M.out
                    have HO8 := hid hO8
                    clear hw8 hO7 hd7 hsO hsd hO8 hb7w
                    go_wp2_with (at_builtin; rw [← HW8.out]; refine wpList_append_own _ rfl _ _ 37 rfl w5.heap.size 3 j0 (.int .i64 0) 1 8 Try.underlying37 hj0 hy0 hy1 hy2 rfl (by decide) _ _ _ rfl (own_alloc hd8 _) ⟨w7.heap.size, 0, none⟩ 1 1 [.int .i64 p] rfl rfl (by rw [← hs8e]; exact cell_one_new _ _ _) ?c2 ?c3 ?c4 ?c5 ?_)
                    case c2 => simp [Value.oneCell']
                    case c3 => unfold maxLen; omega
                    case c4 => omega
                    case c5 => simp; omega
                    case _ =>
                      intro v9 w9 h9 hg9 _
                      have hne : ∀ q, (Value.slice A2 k c2).ownBlock = some q → w5.heap.size ≤ q := fun q hq => (World.ownsRow.lt hd8 q hq).1
                      have hz8 := hb8.size
                      have hb9 : Below w.heap.size w w9 := (hb8.alloc hz8 _).grown hg9 (by simp; omega) (fun q hq => by have := hne q hq; omega)
                      have hO9 : w9.ownsRow w.heap.size 30 4 (.slice (some ⟨g, 0, none⟩) l.length c4) l.length (strip lcells (O.set p y)) := row_kept (own_alloc HO8.out _) hg9 (fun q hq e => by have h1 := hne q e; have hq' : g = q := Option.some.inj hq; omega)
                      have hd9 : w9.ownsRow w5.heap.size 3 1 v9 (k + 1) (ints (nums (K.take (k + 1)))) := by rw [HNK.out]; simpa [ints] using h9
                      have hs9 : w5.heap.size ≤ w9.heap.size := by have := hg9.size; simp at this; omega
                      have HO9 := hid hO9
                      have HD9 := hid hd9
                      obtain ⟨A9, c9, hv9, _, _⟩ := own_form hd9
                      subst hv9
                      clear h9 hg9 hO9 hd9 hd8 hfr7 z0 hne
                      go_wp2
                      go_roundw
                      case rel => exact ⟨k + 1, O.set p y, D ++ [y], HD9.out, hid HOX.out.symm, hid (by omega), HNX, HO9.out, hb9, hid hs9⟩
                      case measure => simp [lenV]; omega
          · have hi : ¬ (k : Int) < (l.length : Int) := by omega
            have hkk : k = l.length := by omega
            have HR : Hid (packL l K = O) := hid (by
              have e2 := HOD.out
              rw [hkk, ← HKE.out, List.take_length] at e2
              rw [HQ.out, ← e2])
            have hOl : O.length = l.length := HPK.out.len
            have HOW : Hid (OwnL wo w.heap.size (.slice A4 l.length c4) O) := hid (by show World.ownsRow _ _ _ _ _ _ _; rw [hOl]; exact hO)
            clear hkk hO hOl hd
            go_wp2
            go_ret2
            exact ⟨_, rfl, by rw [HR.out]; exact HOW.out, hb⟩

end Go.Proofs.Ytmaocmgnkdieeaa

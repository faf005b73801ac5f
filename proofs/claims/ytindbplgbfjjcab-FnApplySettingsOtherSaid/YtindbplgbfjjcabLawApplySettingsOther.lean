/-
  The walk of the law FnApplySettingsOther: at every code it returns true and changes nothing that was there. Conditions: none.
-/
import Derived.Test.YtindbplgbfjjcabLawSt
import Derived.Test.YtindbplgbfjjcabLawFrame
import Derived.BigQuiet

namespace Go.Proofs.Ytindbplgbfjjcab
open Go.RowKit Stt

set_option maxHeartbeats 8000000 in
set_option maxRecDepth 16384 in
theorem walkApplySettingsOther (a : Option Addr) (len cap : Nat) (zs : List Int) (w : World) (hn : zs.length = len) (hc : len ≤ cap) (hcc : cap ≤ maxLen) (h : Sees w w.heap.size a (byts zs)) (hz : ∀ y ∈ zs, 0 ≤ y ∧ y ≤ 255) :
    Calls Try.prog 3 #[.slice a len cap] w fun e w' => e = .returned (.bool true) ∧ Below w.heap.size w w' := by
  have HE := hid hn
  have HC := hid hcc
  have HZ := hid hz
  clear hn hcc hz
  by_cases hbig : 1048576 < len
  · go_enter Try.func3, Try.ntmps3
    go_wp2
    go_ret
    exact ⟨rfl, Below.refl _ _⟩
  · go_enter Try.func3, Try.ntmps3
    go_wp2_with fail
    refine (drawApplySettings_any _ _ _ _ _ h HZ.out HE.out hc (by omega) HC.out).mono ?_
    rintro e w1 ⟨A, c, l, B, d, m, rfl, dl⟩
    obtain ⟨_, _, _, hl17, hlc, hm17, hmc, hcm⟩ := id dl
    unfold maxLen at hcm
    have HTL := hid (applyL_len l m)
    have HVT := hid (fun hh => apply_valid (l := l) (cs := m) hh)
    obtain ⟨T, hT⟩ : ∃ T, T = applyL l m := ⟨_, rfl⟩
    have ET : Hid (applyL l m = T) := hid hT.symm
    rw [← hT] at HTL
    rw [← hT] at HVT
    have HTN := hid (show T.length ≤ 4194304 by have := HTL.out; omega)
    have HT := hid hT
    clear hT
    rcases hk : applyB l m with _ | _
    · skip
      have EK := hid hk
      clear hk
      go_wp2_with fail
      refine (iApplySettings_any A B c d l m _ dl.s1 dl.s2 dl.n1 dl.n2).mono ?_
      rintro e w2 ⟨v1, he, ho1, hb⟩
      rw [ET.out] at ho1
      rw [EK.out] at he
      subst he
      replace dl := dl.below hb
      clear hb
      obtain ⟨A1, c1, rfl, hc1, hcm1, _⟩ := ho1.form
      go_wp2_with fail
      refine (sApplySettings_any A B c d l m _ dl.s1 dl.s2 dl.n1 dl.n2).mono ?_
      rintro e w2 ⟨v2, he, ho2, hb⟩
      rw [ET.out] at ho2
      rw [EK.out] at he
      subst he
      replace dl := dl.below hb
      replace ho1 := ho1.below hb
      clear hb
      obtain ⟨A2, c2, rfl, hc2, hcm2, _⟩ := ho2.form
      go_wp2_with fail
      refine (equalSettings_same A1 A2 c1 c2 T _ ho1.sees ho2.sees HTN.out).mono ?_
      rintro e w2 ⟨rfl, hb⟩
      replace dl := dl.below hb
      replace ho1 := ho1.below hb
      replace ho2 := ho2.below hb
      clear hb
      go_wp2_with fail
      refine (equalSettings_same A1 A2 c1 c2 T _ ho1.sees ho2.sees HTN.out).mono ?_
      rintro e w2 ⟨rfl, hb⟩
      replace dl := dl.below hb
      replace ho1 := ho1.below hb
      replace ho2 := ho2.below hb
      clear hb
      go_wp2
      go_ret
      exact ⟨by simp, dl.bel⟩
    · skip
      have EK := hid hk
      have HOT := hid (apply_others hk)
      rw [ET.out] at HOT
      clear hk
      obtain ⟨i0, hi0, hz0, hz1, hz2⟩ := info_parts intInfo
      obtain ⟨j0, hj0, hy0, hy1, hy2⟩ := info_parts stgInfo
      go_wp2_with fail
      refine (iApplySettings_any A B c d l m _ dl.s1 dl.s2 dl.n1 dl.n2).mono ?_
      rintro e w2 ⟨v1, he, ho1, hb⟩
      rw [ET.out] at ho1
      rw [EK.out] at he
      subst he
      replace dl := dl.below hb
      clear hb
      obtain ⟨A1, c1, rfl, hc1, hcm1, _⟩ := ho1.form
      go_wp2_with fail
      refine (sApplySettings_any A B c d l m _ dl.s1 dl.s2 dl.n1 dl.n2).mono ?_
      rintro e w2 ⟨v2, he, ho2, hb⟩
      rw [ET.out] at ho2
      rw [EK.out] at he
      subst he
      replace dl := dl.below hb
      replace ho1 := ho1.below hb
      clear hb
      obtain ⟨A2, c2, rfl, hc2, hcm2, _⟩ := ho2.form
      go_wp2_with fail
      refine (equalSettings_same A1 A2 c1 c2 T _ ho1.sees ho2.sees HTN.out).mono ?_
      rintro e w2 ⟨rfl, hb⟩
      replace dl := dl.below hb
      replace ho1 := ho1.below hb
      replace ho2 := ho2.below hb
      clear hb
      clear ho2
      obtain ⟨w3, hw3⟩ : ∃ w3, w3 = w2 := ⟨_, rfl⟩
      subst hw3
      have hs1 := dl.s1
      have hs2 := dl.s2
      have hsT := ho1.sees
      have hB := dl.bel
      have HHT := hid HTL.out
      clear dl ho1 HVT
      have on0 : Own (w3.alloc (.cells #[] 3)) w3.heap.size (.slice (some ⟨w3.heap.size, 0, none⟩) 0 0) [] := made_at 3 1 rfl (Nat.le_refl _)
      have hbn : Below w3.heap.size w3 (w3.alloc (.cells #[] 3)) := (Below.refl _ _).alloc (Nat.le_refl _) _
      go_wp2
      go_loopw [9, 10] (fun v i wr => ∃ k : Nat, k ≤ m.length ∧ i = .int .i64 k ∧ Own wr w3.heap.size v ((m.take k).map Stg.n) ∧ Below w3.heap.size w3 wr) (fun _ i _ => m.length - (intOf i).toNat)
      case atStart => exact ⟨0, Nat.zero_le _, rfl, on0, hbn⟩
      case round =>
        clear on0 hbn
        obtain ⟨k, hk, rfl, ho, hb⟩ := hrel
        by_cases hlt : k < m.length
        · skip
          have hi : (k : Int) < (m.length : Int) := by omega
          have hik : (0 : Int) ≤ (k : Int) := by omega
          obtain ⟨b, o, rfl, hbl, e0, e1⟩ := (hs2.below hb).stg hlt
          have hz := hb.size
          have HN := hid (show (m.take (k + 1)).map Stg.n = (m.take k).map Stg.n ++ [m[k].n] by rw [List.take_succ_eq_append_getElem hlt, List.map_append]; rfl)
          have hnl : ((m.take k).map Stg.n).length ≤ 17 := by rw [List.length_map, List.length_take]; omega
          obtain ⟨y, hy⟩ : ∃ y, y = m[k] := ⟨_, rfl⟩
          rw [← hy] at e0 e1
          rw [← hy] at HN
          clear hy e1
          obtain ⟨N, hN⟩ : ∃ N, N = (m.take k).map Stg.n := ⟨_, rfl⟩
          rw [← hN] at HN
          rw [← hN] at ho hnl
          clear hN
          have hlow := ho.out.lt
          go_wp2_with (at_builtin; refine wpList_append_own _ rfl _ _ 29 rfl w3.heap.size 3 i0 (.int .i64 0) 1 8 Try.underlying29 hi0 hz0 hz1 hz2 rfl (by decide) _ _ _ rfl (own_alloc ho.out _) ⟨wr.heap.size, 0, none⟩ 1 1 [.int .i64 y.n] rfl rfl (cell_one_new _ _ _) ?u2 ?u3 ?u4 ?u5 ?_)
          case u2 => simp [Value.oneCell']
          case u3 => unfold maxLen; omega
          case u4 => omega
          try (case u5 => first | omega | (simp; omega))
          case _ =>
            intro v1 w5 h1 hg1 _
            obtain ⟨ho1, hb1⟩ := ho.snoc (x := y.n) hb (Nat.le_refl _) h1 hg1
            rw [← HN.out] at ho1
            clear h1 hg1 ho hb hlow
            go_wp2
            go_roundw
            case rel => exact ⟨k + 1, by omega, by go_num, ho1, hb1⟩
            case measure => simp [intOf]; omega
        · skip
          have hi : ¬ (k : Int) < (m.length : Int) := by omega
          rw [show m.take k = m from List.take_of_length_le (by omega)] at ho
          have hNl : (m.map Stg.n).length ≤ 17 := by rw [List.length_map]; omega
          have HOY := hid (fun (L : List Stg) (j : Nat) (hj : j < L.length) hh => others_yes (cs := m) hj hh)
          have HON := hid (fun (L : List Stg) (j : Nat) (hj : j < L.length) hh => others_no (cs := m) hj hh)
          have HMB := hid (fun (n : Int) => (show memB (m.map Stg.n) n = true ↔ n ∈ m.map Stg.n from memB_iff))
          obtain ⟨N, hN⟩ : ∃ N, N = m.map Stg.n := ⟨_, rfl⟩
          rw [← hN] at ho hNl
          rw [← hN] at HOY
          rw [← hN] at HON
          rw [← hN] at HMB
          clear hN
          obtain ⟨AN, cN, rfl, hsN⟩ := ho.form
          have HNL := hid (show N.length ≤ 4611686018427387904 by omega)
          obtain ⟨w4, hw4⟩ : ∃ w4, w4 = wr := ⟨_, rfl⟩
          subst hw4
          have hb34 := hb
          have hz34 := hb.size
          clear hb ho
          have hba : Below w4.heap.size w4 ((w4.alloc (.cells #[] 31)).alloc (.cells #[] 31)) := ((Below.refl _ _).alloc (Nat.le_refl _) _).alloc (by simp) _
          have oa0 : OwnG ((w4.alloc (.cells #[] 31)).alloc (.cells #[] 31)) w4.heap.size (.slice (some ⟨w4.heap.size, 0, none⟩) 0 0) [] := own_alloc (made_at 31 2 rfl (Nat.le_refl _)) _
          have ab0 : At ((w4.alloc (.cells #[] 31)).alloc (.cells #[] 31)) (w4.heap.size + 1) 31 #[] := At.newAt _ _ (by simp)
          go_wp2
          go_loopw [11, 13] (fun v i wr => ∃ (k : Nat) (L : List Stg), k ≤ l.length ∧ i = .int .i64 k ∧ Hid (others (l.take k) m = L) ∧ L.length ≤ 17 ∧ OwnG wr w4.heap.size v L ∧ Hid (∀ q, v.ownBlock = some q → q ≠ w4.heap.size + 1) ∧ At wr (w4.heap.size + 1) 31 #[] ∧ Below w4.heap.size w4 wr) (fun _ i _ => l.length - (intOf i).toNat)
          case atStart => exact ⟨0, [], Nat.zero_le _, rfl, hid rfl, by decide, oa0, hid (fun q hq => by injection hq with hq; have hq2 : w4.heap.size = q := hq; omega), ab0, hba⟩
          case round =>
            clear oa0 ab0 hba
            obtain ⟨k, L, hk, rfl, HL, hLl, ho, HA, hab, hb⟩ := hrel
            by_cases hlt : k < l.length
            · skip
              have hi : (k : Int) < (l.length : Int) := by omega
              have hik : (0 : Int) ≤ (k : Int) := by omega
              have hz := hb.size
              have hbb := hb34.trans (hb.mono hz34)
              obtain ⟨b, o, rfl, hbl, e0, e1⟩ := (hs1.below hbb).stg hlt
              have HY := hid (fun hh => HOY.out l k hlt hh)
              have HNO := hid (fun hh => HON.out l k hlt hh)
              have HLL := hid (show (others (l.take (k + 1)) m).length ≤ 17 from Nat.le_trans (others_len _ _) (by rw [List.length_take]; omega))
              rw [HL.out] at HY
              rw [HL.out] at HNO
              obtain ⟨y, hy⟩ : ∃ y, y = l[k] := ⟨_, rfl⟩
              rw [← hy] at e0 e1
              rw [← hy] at HY
              rw [← hy] at HNO
              clear hy
              have HMY := hid (HMB.out y.n)
              have hsNw := hsN.below hb
              rcases hin : memB N y.n with _ | _
              · skip
                have HX := hid (HY.out (fun hh => by rw [HMY.out.2 hh] at hin; cases hin))
                have HIN := hid hin
                rw [HX.out] at HLL
                clear hin
                have hlow := ho.lt
                have hlt2 := hab.lt
                go_wp2_with fail
                with_reducible refine (lisIn_any AN cN N y.n _ hsNw HNL.out).mono ?_
                rintro e w' ⟨he, rfl⟩
                rw [HIN.out] at he
                subst he
                go_wp2_with (at_builtin; refine wpList_append_own_at _ rfl _ _ 23 rfl (w4.heap.size) 31 j0 (.agg #[.int .i64 0, .int .i64 0]) 2 16 Try.underlying23 hj0 hy0 hy1 hy2 rfl (by decide) _ _ _ rfl (own_alloc ho.out _) ⟨wr.heap.size, 0, none⟩ 1 1 [.int .i64 y.n, .int .i64 y.v] rfl rfl (by simpa using cells_new (wr) [.int .i64 y.n, .int .i64 y.v] 31) ?g2 ?g3 ?g4 ?g5 ?_)
                case g2 => simp [Value.oneCell']
                case g3 => unfold maxLen; omega
                case g4 => omega
                try (case g5 => first | omega | (simp; omega) | (simp; done))
                case _ =>
                  intro v1 w5 h1 hg1 _ hat
                  have hab1 := (hab.alloc (.cells #[.int .i64 y.n, .int .i64 y.v] 31)).grown hg1 (fun e => HA.out _ e.symm rfl)
                  have HA1 : Hid (∀ q, v1.ownBlock = some q → q ≠ w4.heap.size + 1) := hid (fun q hq hh => by
                    rcases hat with e | e
                    · exact HA.out q (by rw [← e]; exact hq) hh
                    · rw [e] at hq; injection hq with hq; (try simp at hq); omega)
                  obtain ⟨ho1, hb1⟩ := ho.snoc (x := y) hb (Nat.le_refl _) h1 hg1
                  clear h1 hg1 hat ho hb hlow
                  have hLL := HLL.out
                  go_wp2
                  go_roundw
                  case rel => exact ⟨k + 1, _, by omega, by go_num, HX, hLL, ho1, HA1, hab1, hb1⟩
                  case measure => simp [intOf]; omega
              · skip
                have HX := hid (HNO.out (HMY.out.1 hin))
                have HIN := hid hin
                clear hin
                go_wp2_with fail
                with_reducible refine (lisIn_any AN cN N y.n _ hsNw HNL.out).mono ?_
                rintro e w' ⟨he, rfl⟩
                rw [HIN.out] at he
                subst he
                go_wp2
                go_roundw
                case rel => exact ⟨k + 1, L, by omega, by go_num, HX, hLl, ho, HA, hab, hb⟩
                case measure => simp [intOf]; omega
            · skip
              have hi : ¬ (k : Int) < (l.length : Int) := by omega
              have HLL := hid (show others l m = L by have := HL.out; rwa [show l.take k = l from List.take_of_length_le (by omega)] at this)
              rw [HOT.out] at HLL
              obtain ⟨w5, hw5⟩ : ∃ w5, w5 = wr := ⟨_, rfl⟩
              subst hw5
              have hz45 := hb.size
              have hb45 := hb
              have hlowA := hid ho.lt
              obtain ⟨AA, cA, rfl, _, _, _⟩ := ho.form
              have hgb := hab.lt
              have ob0 : OwnG w5 w4.heap.size (.slice (some ⟨w4.heap.size + 1, 0, none⟩) 0 0) [] := ⟨rfl, .inr ⟨w4.heap.size + 1, 0, #[], rfl, Nat.le_succ _, hab, Nat.le_refl _, Nat.zero_le _, rfl, rfl⟩⟩
              have hba := Below.refl w4.heap.size w5
              have oa0 := ho
              have HLn := hid (show L.length ≤ 4194304 by omega)
              clear ho hb hab
              go_wp2
              go_loopw [12, 14] (fun v i wr => ∃ (k : Nat) (M : List Stg), k ≤ T.length ∧ i = .int .i64 k ∧ Hid (others (T.take k) m = M) ∧ M.length ≤ 17 ∧ OwnG wr w4.heap.size v M ∧ Hid (∀ q, v.ownBlock = some q → q = w4.heap.size + 1 ∨ w5.heap.size ≤ q) ∧ OwnG wr w4.heap.size (.slice AA L.length cA) L ∧ Below w4.heap.size w5 wr) (fun _ i _ => T.length - (intOf i).toNat)
              case atStart => exact ⟨0, [], Nat.zero_le _, rfl, hid rfl, by decide, ob0, hid (fun q hq => by injection hq with hq; exact .inl hq.symm), oa0, hba⟩
              case round =>
                clear oa0 ob0 hba
                obtain ⟨k, M, hk, rfl, HM, hMl, ho, HA2, hoa, hb⟩ := hrel
                have hTl := HHT.out
                by_cases hlt : k < T.length
                · skip
                  have hi : (k : Int) < (T.length : Int) := by omega
                  have hik : (0 : Int) ≤ (k : Int) := by omega
                  have hz := hb.size
                  have hbb := hb34.trans ((hb45.trans (hb.mono (Nat.le_refl _))).mono hz34)
                  obtain ⟨b, o, rfl, hbl, e0, e1⟩ := (hsT.below hbb).stg hlt
                  have HY := hid (fun hh => HOY.out T k hlt hh)
                  have HNO := hid (fun hh => HON.out T k hlt hh)
                  have HML := hid (show (others (T.take (k + 1)) m).length ≤ 17 from Nat.le_trans (others_len _ _) (by rw [List.length_take]; omega))
                  rw [HM.out] at HY
                  rw [HM.out] at HNO
                  obtain ⟨y, hy⟩ : ∃ y, y = T[k] := ⟨_, rfl⟩
                  rw [← hy] at e0 e1
                  rw [← hy] at HY
                  rw [← hy] at HNO
                  clear hy
                  have HMY := hid (HMB.out y.n)
                  have hsNw := (hsN.below hb45).below hb
                  rcases hin : memB N y.n with _ | _
                  · skip
                    have HX := hid (HY.out (fun hh => by rw [HMY.out.2 hh] at hin; cases hin))
                    have HIN := hid hin
                    rw [HX.out] at HML
                    clear hin
                    have hlow := ho.lt
                    go_wp2_with fail
                    with_reducible refine (lisIn_any AN cN N y.n _ hsNw HNL.out).mono ?_
                    rintro e w' ⟨he, rfl⟩
                    rw [HIN.out] at he
                    subst he
                    go_wp2_with (at_builtin; refine wpList_append_own_at _ rfl _ _ 23 rfl (w4.heap.size) 31 j0 (.agg #[.int .i64 0, .int .i64 0]) 2 16 Try.underlying23 hj0 hy0 hy1 hy2 rfl (by decide) _ _ _ rfl (own_alloc ho.out _) ⟨wr.heap.size, 0, none⟩ 1 1 [.int .i64 y.n, .int .i64 y.v] rfl rfl (by simpa using cells_new (wr) [.int .i64 y.n, .int .i64 y.v] 31) ?p2 ?p3 ?p4 ?p5 ?_)
                    case p2 => simp [Value.oneCell']
                    case p3 => unfold maxLen; omega
                    case p4 => omega
                    try (case p5 => first | omega | (simp; omega) | (simp; done))
                    case _ =>
                      intro v1 w6 h1 hg1 _ hat
                      have hoa1 : OwnG w6 w4.heap.size (.slice AA L.length cA) L := row_kept (own_alloc hoa.out _) hg1 (fun q hq hh => by have := HA.out q hq; have := (hlowA.out q hq).2; have := HA2.out q hh; omega)
                      have HA1 : Hid (∀ q, v1.ownBlock = some q → q = w4.heap.size + 1 ∨ w5.heap.size ≤ q) := hid (fun q hq => by
                        rcases hat with e | e
                        · exact HA2.out q (by rw [← e]; exact hq)
                        · rw [e] at hq; injection hq with hq; (try simp at hq); omega)
                      obtain ⟨ho1, hb1⟩ := ho.snoc (x := y) hb (by omega) h1 hg1
                      clear h1 hg1 hat ho hb hlow hoa
                      have hLL := HML.out
                      go_wp2
                      go_roundw
                      case rel => exact ⟨k + 1, _, by omega, by go_num, HX, hLL, ho1, HA1, hoa1, hb1⟩
                      case measure => simp [intOf]; omega
                  · skip
                    have HX := hid (HNO.out (HMY.out.1 hin))
                    have HIN := hid hin
                    clear hin
                    go_wp2_with fail
                    with_reducible refine (lisIn_any AN cN N y.n _ hsNw HNL.out).mono ?_
                    rintro e w' ⟨he, rfl⟩
                    rw [HIN.out] at he
                    subst he
                    go_wp2
                    go_roundw
                    case rel => exact ⟨k + 1, M, by omega, by go_num, HX, hMl, ho, HA2, hoa, hb⟩
                    case measure => simp [intOf]; omega
                · skip
                  have hi : ¬ (k : Int) < (T.length : Int) := by omega
                  have HMM : Hid (M = L) := hid (by have := HM.out; rw [show T.take k = T from List.take_of_length_le (by omega), HLL.out] at this; exact this.symm)
                  have hm := HMM.out
                  subst hm
                  obtain ⟨AB, cB, rfl, _, _, _⟩ := ho.form
                  go_wp2_with fail
                  with_reducible refine (equalSettings_same AA AB cA cB M _ hoa.sees ho.sees HLn.out).mono ?_
                  rintro e w9 ⟨rfl, hb9⟩
                  go_wp2
                  go_ret
                  exact ⟨rfl, (hB.trans ((hb34.trans ((hb45.trans hb).mono hz34)).mono hB.size)).trans (hb9.mono (by have := hb.size; have := hB.size; omega))⟩
end Go.Proofs.Ytindbplgbfjjcab

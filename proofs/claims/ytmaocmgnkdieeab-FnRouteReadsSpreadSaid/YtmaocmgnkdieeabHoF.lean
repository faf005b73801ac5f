/-
  What RouteReads answers, the program's and the model's. Condition: the lists lie in memory.
-/
import Derived.Test.YtmaocmgnkdieeabHoE
import Derived.Test.YtmaocmgnkdieeabWithin
import Derived.Test.YtmaocmgnkdieeabOwnI
namespace Go.Proofs.Ytmaocmgnkdieeab
open Go.RowKit Hos

theorem ownsRow_far {w : World} {base : Nat} {v : Value} {ys : List Int} {g : Nat} (h : Own w base v ys) (hf : v.ownBlock ≠ some g) (i : Nat) (u : Value) : Own (w.setCell ⟨g, i, none⟩ u) base v ys := row_kept h (grown_set w g i u) (fun _ hk e => hf (hk.trans e.symm))
theorem set_load1 {l : List Hst} {k : Nat} (hk : k < l.length) : ∀ u : Int, (strip hcl l).set (k * 3) (.int .i64 u) = strip hcl (l.set k ⟨u, (l[k]'hk).g, (l[k]'hk).d⟩) := fun u => by
  have e1 := strip_at hcl_len hk (j := 1) (by decide)
  have e2 := strip_at hcl_len hk (j := 2) (by decide)
  simp only [hcl, List.getElem?_cons_succ, List.getElem?_cons_zero] at e1 e2
  rw [strip_set hcl_len l k hk]
  show _ = (((strip hcl l).set (k * 3) (.int .i64 u)).set (k * 3 + 1) (.int .i64 l[k].g)).set (k * 3 + 1 + 1) (.bool l[k].d)
  rw [set_keep _ _ _ _ _ (by omega) e1, set_keep _ _ _ _ _ (by omega) e2]
def OnceAns' (A : Option Addr) (l : List Hst) (m : Nat) (n : Int) (w : World) (e : Ending) (w' : World) : Prop := ∃ (A' : Option Addr) (c : Nat), e = .returned (.slice A' m c) ∧ ((A' = A ∧ bump l n = l) ∨ SeesF w' (fun b => b < w.heap.size) A' (strip hcl (bump l n))) ∧ Below w.heap.size w w'
theorem readOnce_any' {A : Option Addr} {m c : Nat} {l : List Hst} {n : Int} {w : World} (hl : l.length = m) (h : Sees w w.heap.size A (strip hcl l)) (hn : l.length ≤ 4194304) :
    Calls Try.prog 36 #[.slice A m c, .int .i64 n] w (OnceAns' A l m n w) := by
  subst hl; exact readOnce_any A c l n w h hn
set_option maxHeartbeats 8000000 in
theorem iRouteReads_any (A A2 : Option Addr) (c c2 : Nat) (l : List Hst) (gs : List Int) (w : World) (h : Sees w w.heap.size A (strip hcl l)) (h2 : Sees w w.heap.size A2 (ints gs)) (hn : l.length ≤ 4194304) (hn2 : gs.length ≤ 4194304) :
    Calls Try.prog 12 #[.slice A l.length c, .slice A2 gs.length c2] w fun e w' => ∃ v, e = .returned v ∧ Own w' w.heap.size v (readsL l gs) ∧ Below w.heap.size w w' := by
  obtain ⟨i0, hi0, hz0, hz1, hz2⟩ := info_parts intInfo
  obtain ⟨ih0, hih0, hzh0, hzh1, hzh2⟩ := info_parts hostInfo
  have HN := hid hn
  have HN2 := hid hn2
  have HSEE := hid (fun (w' : World) (hb : Below w.heap.size w w') => (h.below hb).more hb.size)
  clear hn hn2
  have hB0 := Below.refl w.heap.size w
  rcases hv : hostsB l with _ | _
  · have E := hid (readsL_no (l := l) (gs := gs) (by simp [hv]))
    have HV := hid hv
    clear hv
    go_enter Try.func12, Try.ntmps12
    go_wp2_with fail
    with_reducible refine (iValidHosts_any A c l _ (HSEE.out _ hB0) HN.out).mono ?_
    rintro e w1 ⟨he, hb1⟩
    rw [HV.out] at he
    subst he
    have hB1 := hB0.trans (hb1.mono hB0.size)
    go_wp2
    go_ret
    exact ⟨_, rfl, by rw [E.out]; exact Own.none_ _ _, hB1⟩
  have HV := hid hv
  by_cases hl : (gs.length : Int) > 12
  · have E := hid (readsL_no (l := l) (gs := gs) (fun hh => by have := hh.2.1; omega))
    clear hv
    go_enter Try.func12, Try.ntmps12
    go_wp2_with fail
    with_reducible refine (iValidHosts_any A c l _ (HSEE.out _ hB0) HN.out).mono ?_
    rintro e w1 ⟨he, hb1⟩
    rw [HV.out] at he
    subst he
    have hB1 := hB0.trans (hb1.mono hB0.size)
    go_wp2
    go_ret
    exact ⟨_, rfl, by rw [E.out]; exact Own.none_ _ _, hB1⟩
  rcases hw : allB gs 0 1000 with _ | _
  · have E := hid (readsL_no (l := l) (gs := gs) (fun hh => by rw [allB_iff.2 hh.2.2] at hw; cases hw))
    have HW := hid hw
    clear hv hw
    go_enter Try.func12, Try.ntmps12
    go_wp2_with fail
    with_reducible refine (iValidHosts_any A c l _ (HSEE.out _ hB0) HN.out).mono ?_
    rintro e w1 ⟨he, hb1⟩
    rw [HV.out] at he
    subst he
    have hB1 := hB0.trans (hb1.mono hB0.size)
    go_wp2_with fail
    with_reducible refine (allWithin_any A2 c2 gs 0 1000 _ ((h2.below hB1).more hB1.size) (Nat.le_trans HN2.out (by decide))).mono ?_
    rintro e w' ⟨he, rfl⟩
    rw [HW.out] at he
    subst he
    go_wp2
    go_ret
    exact ⟨_, rfl, by rw [E.out]; exact Own.none_ _ _, hB1⟩
  have HW := hid hw
  have HA := hid (allB_iff.1 hw)
  have HG := hid (show gs.length ≤ 12 by omega)
  have HL := hid (hosts_len hv)
  have HR := hid (readsL_yes hv HG.out HA.out)
  clear hv hw
  go_enter Try.func12, Try.ntmps12
  go_wp2_with fail
  with_reducible refine (iValidHosts_any A c l _ (HSEE.out _ hB0) HN.out).mono ?_
  rintro e w1 ⟨he, hb1⟩
  rw [HV.out] at he
  subst he
  have hB1 := hB0.trans (hb1.mono hB0.size)
  go_wp2_with fail
  with_reducible refine (allWithin_any A2 c2 gs 0 1000 _ ((h2.below hB1).more hB1.size) (Nat.le_trans HN2.out (by decide))).mono ?_
  rintro e w' ⟨he, rfl⟩
  rw [HW.out] at he
  subst he
  have hs0 : SeesF w1 (fun b => (Value.slice none 0 0).ownBlock = some b) A (strip hcl l) := SeesF.of_sees (h.below hB1) hB1.size fun b _ hh => by cases hh
  clear hb1 hB0
  go_wp2
  go_loopw [5, 6, 26] (fun vo vl i wr => ∃ (k : Nat) (A' : Option Addr) (c' : Nat), k ≤ gs.length ∧ i = .int .i64 k ∧ vl = .slice A' l.length c' ∧ SeesF wr (fun b => vo.ownBlock = some b) A' (strip hcl (after l (gs.take k))) ∧ Own wr w1.heap.size vo (reads l (gs.take k)) ∧ Below w1.heap.size w1 wr) (fun _ _ i _ => gs.length - (intOf i).toNat)
  case atStart => exact ⟨0, A, c, Nat.zero_le _, rfl, rfl, hs0, Own.none_ _ _, Below.refl _ _⟩
  case round =>
    clear hs0
    obtain ⟨k, A', c', hk, rfl, rfl, hs, ho, hb⟩ := hrel
    have hg12 := HG.out
    by_cases hlt : k < gs.length
    · have hi : (k : Int) < (gs.length : Int) := by omega
      have hb2 := hB1.trans (hb.mono hB1.size)
      obtain ⟨b, o, rfl, _, e0⟩ := (h2.below hb2).int hlt
      have HLA := hid (after_len l (gs.take k))
      have HVA := hid (after_valid HV.out (gs.take k))
      have hgk := HA.out _ (List.getElem_mem hlt)
      have HRS := hid (reads_succ (l := l) hlt)
      have HAS := hid (after_succ (l := l) hlt)
      have hrl : (reads l (gs.take k)).length ≤ 12 := by rw [reads_len, List.length_take]; omega
      have HRT := hid (routeH_yes HVA.out (lagB_iff.2 hgk))
      obtain ⟨x, hx⟩ : ∃ x, x = gs[k] := ⟨_, rfl⟩
      rw [← hx] at e0 HRS HAS HRT
      obtain ⟨L, hL⟩ : ∃ L, L = after l (gs.take k) := ⟨_, rfl⟩
      rw [← hL] at hs HLA HVA HRS HAS HRT
      obtain ⟨R, hR⟩ : ∃ R, R = reads l (gs.take k) := ⟨_, rfl⟩
      rw [← hR] at ho HRS hrl
      clear hx hL hR hgk
      have HLN := hid (show L.length ≤ 4194304 by rw [HLA.out]; exact HN.out)
      go_wp2_with fail
      with_reducible refine (iRouteRead_len HLA.out hs.sees HLN.out).mono ?_
      rintro e w3 ⟨rfl, hb3⟩
      rw [HRT.out]
      obtain ⟨n, hn⟩ : ∃ n, n = bestH L x := ⟨_, rfl⟩
      rw [← hn] at HRS HAS ⊢
      clear hn
      have hs3 := hs.below hb3
      have ho3 := ho.below hb3
      have hb13 := hb.trans (hb3.mono hb.size)
      clear hs ho hb hb3 e0 hb2
      go_wp2_with (at_builtin; refine wpList_append_own_at _ rfl _ _ 26 rfl w1.heap.size 3 i0 (.int .i64 0) 1 8 Try.underlying26 hi0 hz0 hz1 hz2 rfl (by decide) _ _ _ rfl (own_alloc ho3.out _) ⟨w3.heap.size, 0, none⟩ 1 1 [.int .i64 n] rfl rfl (cell_one_new _ _ _) ?c2 ?c3 ?c4 ?c5 ?_)
      case c2 => simp [Value.oneCell']
      case c3 => unfold maxLen; omega
      case c4 => omega
      case c5 => have := hb13.size; simp; omega
      case _ =>
        intro v4 w4 h1 hg4 _ hat
        have hlow := ho3.out.lt
        have ho4 : Own w4 w1.heap.size v4 (reads l (gs.take (k + 1))) := by rw [HRS.out]; unfold Own; rw [ints_app, List.length_append]; exact h1
        have hs4 := (hs3.alloc (.cells #[.int .i64 n] 3)).grown_to (F' := fun b => v4.ownBlock = some b) hg4 (fun b e => e) (fun b hb hh => by
          rcases hat with q | q
          · exact q.symm.trans hh
          · rw [q] at hh; injection hh with hh; subst hh; exact absurd hb (by simp))
        have hb14 := (hb13.alloc hb13.size (.cells #[.int .i64 n] 3)).grown hg4 (by have := hb13.size; simp; omega) (fun q hq => (hlow q hq).1)
        have HTop := hid (ho4.out.lt)
        clear h1 hg4 hat hlow hs3 ho3
        have HOC := hid (readOnce_any' HLA.out hs4.sees HLN.out : Calls Try.prog 36 #[.slice A' l.length c', .int .i64 n] w4 (OnceAns' A' L l.length n w4))
        go_wp2_with fail
        with_reducible refine HOC.out.mono ?_
        rintro e w5 ⟨A5, c5, rfl, hh5, hb5⟩
        have hs5 := once_keep (F := fun b => v4.ownBlock = some b) (fun b hb => (HTop.out b hb).2) hs4 hb5 hh5
        rw [← HAS.out] at hs5
        have ho5 := ho4.below hb5
        have hb15 := hb14.trans (hb5.mono hb14.size)
        clear hs4 ho4 hb14 hb5 hh5
        go_wp2
        go_roundw
        case rel => exact ⟨k + 1, A5, c5, by omega, by go_num, rfl, hs5, ho5, hb15⟩
        case measure => simp [intOf]; omega
    · have hi : ¬ (k : Int) < (gs.length : Int) := by omega
      rw [take_whole hlt] at ho
      go_wp2
      go_ret
      exact ⟨_, rfl, by rw [HR.out]; exact ho.mono hB1.size, hB1.trans (hb.mono hB1.size)⟩

set_option maxHeartbeats 8000000 in
theorem sRouteReads_any (A A2 : Option Addr) (c c2 : Nat) (l : List Hst) (gs : List Int) (w : World) (h : Sees w w.heap.size A (strip hcl l)) (h2 : Sees w w.heap.size A2 (ints gs)) (hn : l.length ≤ 4194304) (hn2 : gs.length ≤ 4194304) :
    Calls Try.prog 13 #[.slice A l.length c, .slice A2 gs.length c2] w fun e w' => ∃ v, e = .returned v ∧ Own w' w.heap.size v (readsL l gs) ∧ Below w.heap.size w w' := by
  obtain ⟨i0, hi0, hz0, hz1, hz2⟩ := info_parts intInfo
  obtain ⟨ih0, hih0, hzh0, hzh1, hzh2⟩ := info_parts hostInfo
  have HN := hid hn
  have HN2 := hid hn2
  have HSEE := hid (fun (w' : World) (hb : Below w.heap.size w w') => (h.below hb).more hb.size)
  clear hn hn2
  have hB0 := (Below.refl w.heap.size w).alloc (Nat.le_refl _) (.cells #[] 3)
  rcases hv : hostsB l with _ | _
  · have E := hid (readsL_no (l := l) (gs := gs) (by simp [hv]))
    have HV := hid hv
    clear hv
    go_enter Try.func13, Try.ntmps13
    go_wp2_with fail
    with_reducible refine (svalidHosts_any A c l _ (HSEE.out _ hB0) HN.out).mono ?_
    rintro e w1 ⟨he, hb1⟩
    rw [HV.out] at he
    subst he
    have hB1 := hB0.trans (hb1.mono hB0.size)
    go_wp2
    go_ret
    exact ⟨_, rfl, by rw [E.out]; exact Own.none_ _ _, hB1⟩
  have HV := hid hv
  by_cases hl : (gs.length : Int) > 12
  · have E := hid (readsL_no (l := l) (gs := gs) (fun hh => by have := hh.2.1; omega))
    clear hv
    go_enter Try.func13, Try.ntmps13
    go_wp2_with fail
    with_reducible refine (svalidHosts_any A c l _ (HSEE.out _ hB0) HN.out).mono ?_
    rintro e w1 ⟨he, hb1⟩
    rw [HV.out] at he
    subst he
    have hB1 := hB0.trans (hb1.mono hB0.size)
    go_wp2
    go_ret
    exact ⟨_, rfl, by rw [E.out]; exact Own.none_ _ _, hB1⟩
  rcases hw : allB gs 0 1000 with _ | _
  · have E := hid (readsL_no (l := l) (gs := gs) (fun hh => by rw [allB_iff.2 hh.2.2] at hw; cases hw))
    have HW := hid hw
    clear hv hw
    go_enter Try.func13, Try.ntmps13
    go_wp2_with fail
    with_reducible refine (svalidHosts_any A c l _ (HSEE.out _ hB0) HN.out).mono ?_
    rintro e w1 ⟨he, hb1⟩
    rw [HV.out] at he
    subst he
    have hB1 := hB0.trans (hb1.mono hB0.size)
    go_wp2_with fail
    with_reducible refine (allIn_any A2 c2 gs 0 1000 _ ((h2.below hB1).more hB1.size) (Nat.le_trans HN2.out (by decide))).mono ?_
    rintro e w' ⟨he, rfl⟩
    rw [HW.out] at he
    subst he
    go_wp2
    go_ret
    exact ⟨_, rfl, by rw [E.out]; exact Own.none_ _ _, hB1⟩
  have HW := hid hw
  have HA := hid (allB_iff.1 hw)
  have HG := hid (show gs.length ≤ 12 by omega)
  have HL := hid (hosts_len hv)
  have HR := hid (readsL_yes hv HG.out HA.out)
  clear hv hw
  go_enter Try.func13, Try.ntmps13
  go_wp2_with fail
  with_reducible refine (svalidHosts_any A c l _ (HSEE.out _ hB0) HN.out).mono ?_
  rintro e w1 ⟨he, hb1⟩
  rw [HV.out] at he
  subst he
  have hB1 := hB0.trans (hb1.mono hB0.size)
  go_wp2_with fail
  with_reducible refine (allIn_any A2 c2 gs 0 1000 _ ((h2.below hB1).more hB1.size) (Nat.le_trans HN2.out (by decide))).mono ?_
  rintro e w' ⟨he, rfl⟩
  rw [HW.out] at he
  subst he
  have hl5 := HL.out.2
  have hl1 := HL.out.1
  have hs1 := HSEE.out _ hB1
  obtain ⟨b, o, hA, _⟩ := hs1.host hl1
  have hsa := hs1
  rw [hA] at hsa
  subst hA
  have hob : Own w1 w.heap.size (.slice (some ⟨w.heap.size, 0, none⟩) 0 0) [] := (Own.made w w.heap.size (Nat.le_refl _)).below hb1
  have hz1' : w.heap.size < w1.heap.size := by have := hb1.size; simp at this; omega
  have hrow : World.ownsRow (w1.alloc (.cells #[] 40)) w1.heap.size 40 3 (.slice (some ⟨w1.heap.size, 0, none⟩) 0 0) 0 [] := made_at 40 3 rfl (Nat.le_refl _)
  clear hb1 hB0
  go_wp2_with (at_builtin; refine wpList_append_own _ rfl _ _ 35 rfl w1.heap.size 40 ih0 (.agg #[.int .i64 0, .int .i64 0, .bool false]) 3 24 Try.underlying35 hih0 hzh0 hzh1 hzh2 rfl (by decide) _ _ _ rfl hrow ⟨b, o, none⟩ l.length c (strip hcl l) rfl ?c1 ?cn ?c2 ?c3 ?c4 ?c5 ?_)
  case c1 => exact strip_len hcl_len l
  case cn => exact (hsa.alloc (Nat.le_refl _) _).add
  case c2 => exact hcl_one l
  case c3 => unfold maxLen; omega
  case c4 => omega
  case c5 => simp
  case _ =>
    intro v1 w2 h1 hg1 _
    have hrl := hrow.lt
    have hon : OwnS 40 3 hcl w2 w1.heap.size v1 l := by
      unfold OwnS
      simpa using h1
    have hb2 : Below w1.heap.size w1 w2 := ((Below.refl _ _).alloc (Nat.le_refl _) (.cells #[] 40)).grown hg1 (by simp) (fun k hk => (hrl k hk).1)
    obtain ⟨g, cc, rfl, hcc⟩ := own_rowH hon (by omega)
    have hob2 := hob.below hb2
    have hB2 := hB1.trans (hb2.mono hB1.size)
    have hgb := (row_base hon.out).1
    have hgs : g < w2.heap.size := (row_base hon.out).2
    have hfar0 : (Value.slice (some ⟨w.heap.size, 0, none⟩) 0 0).ownBlock ≠ some g := fun e => by
      have e2 : some w.heap.size = some g := e
      injection e2 with e2; omega
    have hrow0 : w2.ownsRow w1.heap.size 40 3 (.slice (some ⟨g, 0, none⟩) l.length cc) l.length (strip hcl (after l (gs.take 0))) := hon.out
    clear h1 hg1 hrow hrl hsa hs1 hon hob hb2 hB1
    go_wp2
    go_loopw [5, 7] (fun vo i wr => ∃ (k : Nat), k ≤ gs.length ∧ i = .int .i64 k ∧ wr.ownsRow w1.heap.size 40 3 (.slice (some ⟨g, 0, none⟩) l.length cc) l.length (strip hcl (after l (gs.take k))) ∧ Own wr w.heap.size vo (reads l (gs.take k)) ∧ Hid (vo.ownBlock ≠ some g) ∧ Below w.heap.size w wr ∧ w2.heap.size ≤ wr.heap.size) (fun _ i _ => gs.length - (intOf i).toNat)
    case atStart => exact ⟨0, Nat.zero_le _, rfl, hrow0, hob2, hid hfar0, hB2, Nat.le_refl _⟩
    case round =>
      clear hrow0 hob2 hfar0 hB2
      obtain ⟨k, hk, rfl, hr, ho, HF, hb, hz⟩ := hrel
      have hg12 := HG.out
      by_cases hlt : k < gs.length
      · have hi : (k : Int) < (gs.length : Int) := by omega
        have hk0 : (0 : Int) ≤ (k : Int) := by omega
        obtain ⟨b2, o2, rfl, _, e0⟩ := (h2.below hb).int hlt
        have HLA := hid (after_len l (gs.take k))
        have HVA := hid (after_valid HV.out (gs.take k))
        have HRS := hid (reads_succ (l := l) hlt)
        have HAS := hid (after_succ (l := l) hlt)
        have hrl : (reads l (gs.take k)).length ≤ 12 := by rw [reads_len, List.length_take]; omega
        obtain ⟨x, hx⟩ : ∃ x, x = gs[k] := ⟨_, rfl⟩
        rw [← hx] at e0 HRS HAS
        obtain ⟨L, hL⟩ : ∃ L, L = after l (gs.take k) := ⟨_, rfl⟩
        rw [← hL] at hr HLA HVA HRS HAS
        obtain ⟨R, hR⟩ : ∃ R, R = reads l (gs.take k) := ⟨_, rfl⟩
        rw [← hR] at ho HRS hrl
        clear hx hL hR
        have HLN := hid (show L.length ≤ 4194304 by rw [HLA.out]; exact HN.out)
        go_wp2_with fail
        with_reducible refine (routeRead_len HLA.out (Sees.of_own hr) HLN.out).mono ?_
        rintro e w3 ⟨rfl, hb3⟩
        have hbb := best_lt (bestH_is L x)
        obtain ⟨n, hn⟩ : ∃ n, n = bestH L x := ⟨_, rfl⟩
        rw [← hn] at HRS HAS hbb ⊢
        clear hn
        have hr3 := own_below hr hb3
        have ho3 := ho.below hb3
        have hb03 := hb.trans (hb3.mono hb.size)
        have hz3 := Nat.le_trans hz hb3.size
        clear hr ho hb hb3 e0 hz
        by_cases hneg : n = -1
        · subst hneg
          have HBU := hid (bump_none L)
          go_wp2_with (at_builtin; refine wpList_append_own_at _ rfl _ _ 26 rfl w.heap.size 3 i0 (.int .i64 0) 1 8 Try.underlying26 hi0 hz0 hz1 hz2 rfl (by decide) _ _ _ rfl (own_alloc ho3.out _) ⟨w3.heap.size, 0, none⟩ 1 1 [.int .i64 (-1)] rfl rfl (cell_one_new _ _ _) ?c2 ?c3 ?c4 ?c5 ?_)
          case c2 => simp [Value.oneCell']
          case c3 => unfold maxLen; omega
          case c4 => omega
          case c5 => have := hb03.size; simp; omega
          case _ =>
            intro v4 w4 h1 hg4 _ hat
            have hlow := ho3.out.lt
            have ho4 : Own w4 w.heap.size v4 (reads l (gs.take (k + 1))) := by rw [HRS.out]; unfold Own; rw [ints_app, List.length_append]; exact h1
            have hr4 := row_kept (own_alloc hr3 (.cells #[.int .i64 (-1)] 3)) hg4 (fun q hq e => by have hq2 : some g = some q := hq; injection hq2 with hq2; subst hq2; exact HF.out e)
            have hf4 : v4.ownBlock ≠ some g := fun e => by
              rcases hat with q | q
              · exact HF.out (q.symm.trans e)
              · rw [q] at e; injection e with e; (try simp at e); omega
            have hb4 := (hb03.alloc hb03.size (.cells #[.int .i64 (-1)] 3)).grown hg4 (by have := hb03.size; simp; omega) (fun q hq => (hlow q hq).1)
            have hz4 : w2.heap.size ≤ w4.heap.size := by have := hg4.size; simp at this; omega
            rw [← HBU.out, ← HAS.out] at hr4
            have HF4 := hid hf4
            clear h1 hg4 hat hlow hr3 ho3 hb03 hf4 HF
            go_wp2
            go_roundw
            case rel => exact ⟨k + 1, by omega, by go_num, hr4, ho4, HF4, hb4, hz4⟩
            case measure => simp [intOf]; omega
        · obtain ⟨j, rfl⟩ : ∃ j : Nat, n = j := ⟨n.toNat, by omega⟩
          have hj : j < L.length := by omega
          have hjl : (j : Int) < (l.length : Int) := by have := HLA.out; omega
          have hj0 : (0 : Int) ≤ (j : Int) := by omega
          have hok := Hst.ok_iff.1 (hosts_ok HVA.out hj)
          have hx0 := (host_at (by rw [HLA.out] at *; exact hr3 : w3.ownsRow w1.heap.size 40 3 (.slice (some ⟨g, 0, none⟩) l.length cc) l.length (strip hcl L)) hj).1
          have hfr := row_thaw hr3
          have HMB := hid (bump_min HVA.out hj)
          have HST := hid (set_load1 hj)
          obtain ⟨y, hy⟩ : ∃ y, y = (L[j]'hj).l := ⟨_, rfl⟩
          rw [← hy] at hx0 hok HMB
          clear hy
          have hw : IntKind.i64.wrap (y + 1) = y + 1 := by rw [IntKind.wrap_i64]; omega
          have hgg : g < w3.heap.size := by omega
          rcases (show y + 1 < 100 ∨ y + 1 = 100 ∨ 100 < y + 1 by omega) with c1 | c1 | c1
          · skip
            have hmin : min 100 (y + 1) = y + 1 := by omega
            rw [hmin] at HMB
            clear hok
            have hput := row_put hr3 (j * 3) (.int .i64 (y + 1))
            rw [HST.out (y + 1), ← HMB.out, ← HAS.out] at hput
            have HP := hid hput
            have hbg := row_base hr3
            have HO := hid (ownsRow_far ho3 HF.out (j * 3) (.int .i64 (y + 1)))
            have HBP := hid (hb03.setCell (p := ⟨g, j * 3, none⟩) (Nat.le_trans (Nat.le_of_lt hz1') hbg.1) (.int .i64 (y + 1)))
            clear hput hmin hbg
            go_wp2_with (at_builtin; refine wpList_append_own_at _ rfl _ _ 26 rfl w.heap.size 3 i0 (.int .i64 0) 1 8 Try.underlying26 hi0 hz0 hz1 hz2 rfl (by decide) _ _ _ rfl (own_alloc HO.out.out (.cells #[.int .i64 j] 3)) ⟨w3.heap.size, 0, none⟩ 1 1 [.int .i64 j] rfl rfl (by simpa using cell_one_new (w3.setCell ⟨g, j * 3, none⟩ (.int .i64 (y + 1))) (.int .i64 j) 3) ?a2 ?a3 ?a4 ?a5 ?_)
            case a2 => simp [Value.oneCell']
            case a3 => unfold maxLen; omega
            case a4 => omega
            case a5 => have := hb03.size; simp; omega
            case _ =>
              intro v4 w4 h1 hg4 _ hat
              have hlow := HO.out.out.lt
              have ho4 : Own w4 w.heap.size v4 (reads l (gs.take (k + 1))) := by rw [HRS.out]; unfold Own; rw [ints_app, List.length_append]; exact h1
              have hr4 := row_kept (own_alloc HP.out (.cells #[.int .i64 j] 3)) hg4 (fun q hq e => by have hq2 : some g = some q := hq; injection hq2 with hq2; subst hq2; exact HF.out e)
              have hf4 : v4.ownBlock ≠ some g := fun e => by
                rcases hat with q | q
                · exact HF.out (q.symm.trans e)
                · rw [q] at e; injection e with e; (try simp at e); omega
              have hb4 := (HBP.out.alloc HBP.out.size (.cells #[.int .i64 j] 3)).grown hg4 (by have := HBP.out.size; simp at this ⊢; omega) (fun q hq => (hlow q hq).1)
              have hz4 : w2.heap.size ≤ w4.heap.size := by have := hg4.size; simp at this; omega
              have HF4 := hid hf4
              clear h1 hg4 hat hlow hr3 ho3 hb03 hf4 HF
              go_wp2
              go_roundw
              case rel => exact ⟨k + 1, by omega, by go_num, hr4, ho4, HF4, hb4, hz4⟩
              case measure => simp [intOf]; omega
          · skip
            have hmin : min 100 (y + 1) = 100 := by omega
            rw [hmin] at HMB
            have hy99 : y = 99 := by omega
            subst hy99
            clear hok c1
            have hput := row_put hr3 (j * 3) (.int .i64 (100))
            rw [HST.out (100), ← HMB.out, ← HAS.out] at hput
            have HP := hid hput
            have hbg := row_base hr3
            have HO := hid (ownsRow_far ho3 HF.out (j * 3) (.int .i64 (100)))
            have HBP := hid (hb03.setCell (p := ⟨g, j * 3, none⟩) (Nat.le_trans (Nat.le_of_lt hz1') hbg.1) (.int .i64 (100)))
            clear hput hmin hbg
            go_wp2_with (at_builtin; refine wpList_append_own_at _ rfl _ _ 26 rfl w.heap.size 3 i0 (.int .i64 0) 1 8 Try.underlying26 hi0 hz0 hz1 hz2 rfl (by decide) _ _ _ rfl (own_alloc HO.out.out (.cells #[.int .i64 j] 3)) ⟨w3.heap.size, 0, none⟩ 1 1 [.int .i64 j] rfl rfl (by simpa using cell_one_new (w3.setCell ⟨g, j * 3, none⟩ (.int .i64 (100))) (.int .i64 j) 3) ?b2 ?b3 ?b4 ?b5 ?_)
            case b2 => simp [Value.oneCell']
            case b3 => unfold maxLen; omega
            case b4 => omega
            case b5 => have := hb03.size; simp; omega
            case _ =>
              intro v4 w4 h1 hg4 _ hat
              have hlow := HO.out.out.lt
              have ho4 : Own w4 w.heap.size v4 (reads l (gs.take (k + 1))) := by rw [HRS.out]; unfold Own; rw [ints_app, List.length_append]; exact h1
              have hr4 := row_kept (own_alloc HP.out (.cells #[.int .i64 j] 3)) hg4 (fun q hq e => by have hq2 : some g = some q := hq; injection hq2 with hq2; subst hq2; exact HF.out e)
              have hf4 : v4.ownBlock ≠ some g := fun e => by
                rcases hat with q | q
                · exact HF.out (q.symm.trans e)
                · rw [q] at e; injection e with e; (try simp at e); omega
              have hb4 := (HBP.out.alloc HBP.out.size (.cells #[.int .i64 j] 3)).grown hg4 (by have := HBP.out.size; simp at this ⊢; omega) (fun q hq => (hlow q hq).1)
              have hz4 : w2.heap.size ≤ w4.heap.size := by have := hg4.size; simp at this; omega
              have HF4 := hid hf4
              clear h1 hg4 hat hlow hr3 ho3 hb03 hf4 HF
              go_wp2
              go_roundw
              case rel => exact ⟨k + 1, by omega, by go_num, hr4, ho4, HF4, hb4, hz4⟩
              case measure => simp [intOf]; omega
          · skip
            have hmin : min 100 (y + 1) = 100 := by omega
            rw [hmin] at HMB
            have hy99 : y = 100 := by omega
            subst hy99
            clear hok c1
            have hput := row_put hr3 (j * 3) (.int .i64 (100))
            rw [HST.out (100), ← HMB.out, ← HAS.out] at hput
            have HP := hid hput
            have hbg := row_base hr3
            have HO := hid (ownsRow_far ho3 HF.out (j * 3) (.int .i64 (100)))
            have HBP := hid (hb03.setCell (p := ⟨g, j * 3, none⟩) (Nat.le_trans (Nat.le_of_lt hz1') hbg.1) (.int .i64 (100)))
            clear hput hmin hbg
            go_wp2_with (at_builtin; refine wpList_append_own_at _ rfl _ _ 26 rfl w.heap.size 3 i0 (.int .i64 0) 1 8 Try.underlying26 hi0 hz0 hz1 hz2 rfl (by decide) _ _ _ rfl (own_alloc HO.out.out (.cells #[.int .i64 j] 3)) ⟨w3.heap.size, 0, none⟩ 1 1 [.int .i64 j] rfl rfl (by simpa using cell_one_new (w3.setCell ⟨g, j * 3, none⟩ (.int .i64 (100))) (.int .i64 j) 3) ?d2 ?d3 ?d4 ?d5 ?_)
            case d2 => simp [Value.oneCell']
            case d3 => unfold maxLen; omega
            case d4 => omega
            case d5 => have := hb03.size; simp; omega
            case _ =>
              intro v4 w4 h1 hg4 _ hat
              have hlow := HO.out.out.lt
              have ho4 : Own w4 w.heap.size v4 (reads l (gs.take (k + 1))) := by rw [HRS.out]; unfold Own; rw [ints_app, List.length_append]; exact h1
              have hr4 := row_kept (own_alloc HP.out (.cells #[.int .i64 j] 3)) hg4 (fun q hq e => by have hq2 : some g = some q := hq; injection hq2 with hq2; subst hq2; exact HF.out e)
              have hf4 : v4.ownBlock ≠ some g := fun e => by
                rcases hat with q | q
                · exact HF.out (q.symm.trans e)
                · rw [q] at e; injection e with e; (try simp at e); omega
              have hb4 := (HBP.out.alloc HBP.out.size (.cells #[.int .i64 j] 3)).grown hg4 (by have := HBP.out.size; simp at this ⊢; omega) (fun q hq => (hlow q hq).1)
              have hz4 : w2.heap.size ≤ w4.heap.size := by have := hg4.size; simp at this; omega
              have HF4 := hid hf4
              clear h1 hg4 hat hlow hr3 ho3 hb03 hf4 HF
              go_wp2
              go_roundw
              case rel => exact ⟨k + 1, by omega, by go_num, hr4, ho4, HF4, hb4, hz4⟩
              case measure => simp [intOf]; omega
      · have hi : ¬ (k : Int) < (gs.length : Int) := by omega
        rw [take_whole hlt] at ho
        go_wp2
        go_ret
        exact ⟨_, rfl, by rw [HR.out]; exact ho, hb⟩

end Go.Proofs.Ytmaocmgnkdieeab

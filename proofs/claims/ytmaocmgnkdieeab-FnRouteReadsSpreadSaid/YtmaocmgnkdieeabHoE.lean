/-
  What AddLoad answers, the program's and the model's; the program's readOnce. Condition: the list lies in memory.
-/
import Derived.Test.YtmaocmgnkdieeabHoC
import Derived.Test.YtmaocmgnkdieeabHoD
import Derived.Test.YtmaocmgnkdieeabSeesF
namespace Go.Proofs.Ytmaocmgnkdieeab
open Go.RowKit Hos

/-- Hosts of the call's own, and whether one can have more load. -/
def LoadAns (l : List Hst) (h d : Int) (w : World) (e : Ending) (w' : World) : Prop := ∃ v, e = .returned (.tuple #[v, .bool (loadB l h d)]) ∧ OwnS 40 3 hcl w' w.heap.size v (loadL l h d) ∧ Below w.heap.size w w'
theorem ret_pairH {v : Value} {a b : Bool} (h : a = b) : Ending.returned (.tuple #[v, .bool a]) = .returned (.tuple #[v, .bool b]) := by rw [h]
theorem set_keep {α : Type} (l : List α) (i j : Nat) (u v : α) (hij : i ≠ j) (hv : l[i]? = some v) : (l.set j u).set i v = l.set j u := by
  apply List.ext_getElem?
  intro k
  rw [List.getElem?_set]
  split
  · rename_i e; subst e
    rw [List.getElem?_set_ne (fun e => hij e.symm)]
    split
    · rw [hv]
    · rename_i h; rw [List.getElem?_eq_none]; simp at h ⊢; omega
  · rfl
theorem set_load {l : List Hst} {k : Nat} (hk : k < l.length) (d : Int) : (strip hcl l).set (k * 3) (.int .i64 (l[k].l + d)) = strip hcl (addTo l k d) := by
  have e1 := strip_at hcl_len hk (j := 1) (by decide)
  have e2 := strip_at hcl_len hk (j := 2) (by decide)
  simp only [hcl, List.getElem?_cons_succ, List.getElem?_cons_zero] at e1 e2
  rw [addTo_set hk, strip_set hcl_len l k hk]
  show _ = (((strip hcl l).set (k * 3) (.int .i64 (l[k].l + d))).set (k * 3 + 1) (.int .i64 l[k].g)).set (k * 3 + 1 + 1) (.bool l[k].d)
  rw [set_keep _ _ _ _ _ (by omega) e1, set_keep _ _ _ _ _ (by omega) e2]
theorem own_rowH {w : World} {base : Nat} {v : Value} {ys : List Hst} (h : OwnS 40 3 hcl w base v ys) (hn : 0 < ys.length) : ∃ g c, v = .slice (some ⟨g, 0, none⟩) ys.length c ∧ ys.length ≤ c := by
  rcases h.2 with ⟨_, e⟩ | ⟨g, cap, cur, e, _, _, h1, h2, _⟩
  · omega
  · exact ⟨g, cap, e, h1⟩
set_option maxHeartbeats 8000000 in
theorem iAddLoad_any (A : Option Addr) (c : Nat) (l : List Hst) (q d : Int) (w : World) (h : Sees w w.heap.size A (strip hcl l)) (hn : l.length ≤ 4194304) :
    Calls Try.prog 44 #[.slice A l.length c, .int .i64 q, .int .i64 d] w (LoadAns l q d w) := by
  obtain ⟨i0, hi0, hz0, hz1, hz2⟩ := info_parts hostInfo
  have HN := hid hn
  clear hn
  rcases hv : hostsB l with _ | _
  · have E := hid (loadB_no (h := q) (d := d) (.inl hv))
    have E2 := hid (loadL_no E.out)
    have HV := hid hv
    clear hv
    go_enter Try.func44, Try.ntmps44
    go_wp2_with fail
    with_reducible refine (iValidHosts_any A c l _ h HN.out).mono ?_
    rintro e w1 ⟨he, hb1⟩
    rw [HV.out] at he
    subst he
    go_wp2
    go_ret2
    refine ⟨_, ret_pairH E.out.symm, by rw [E2.out]; exact OwnS.none_ _ _, hb1⟩
  have HV := hid hv
  by_cases o1 : q < 0
  · have E := hid (loadB_no (l := l) (h := q) (d := d) (.inr (.inl o1)))
    have E2 := hid (loadL_no E.out)
    clear hv
    go_enter Try.func44, Try.ntmps44
    go_wp2_with fail
    with_reducible refine (iValidHosts_any A c l _ h HN.out).mono ?_
    rintro e w1 ⟨he, hb1⟩
    rw [HV.out] at he
    subst he
    go_wp2
    go_ret2
    refine ⟨_, ret_pairH E.out.symm, by rw [E2.out]; exact OwnS.none_ _ _, hb1⟩
  by_cases o2 : q ≥ (l.length : Int)
  · have E := hid (loadB_no (l := l) (h := q) (d := d) (.inr (.inr (.inl o2))))
    have E2 := hid (loadL_no E.out)
    clear hv
    go_enter Try.func44, Try.ntmps44
    go_wp2_with fail
    with_reducible refine (iValidHosts_any A c l _ h HN.out).mono ?_
    rintro e w1 ⟨he, hb1⟩
    rw [HV.out] at he
    subst he
    go_wp2
    go_ret2
    refine ⟨_, ret_pairH E.out.symm, by rw [E2.out]; exact OwnS.none_ _ _, hb1⟩
  by_cases o3 : d < -100
  · have E := hid (loadB_no (l := l) (h := q) (d := d) (.inr (.inr (.inr (.inl o3)))))
    have E2 := hid (loadL_no E.out)
    clear hv
    go_enter Try.func44, Try.ntmps44
    go_wp2_with fail
    with_reducible refine (iValidHosts_any A c l _ h HN.out).mono ?_
    rintro e w1 ⟨he, hb1⟩
    rw [HV.out] at he
    subst he
    go_wp2
    go_ret2
    refine ⟨_, ret_pairH E.out.symm, by rw [E2.out]; exact OwnS.none_ _ _, hb1⟩
  by_cases o4 : d > 100
  · have E := hid (loadB_no (l := l) (h := q) (d := d) (.inr (.inr (.inr (.inr o4)))))
    have E2 := hid (loadL_no E.out)
    clear hv
    go_enter Try.func44, Try.ntmps44
    go_wp2_with fail
    with_reducible refine (iValidHosts_any A c l _ h HN.out).mono ?_
    rintro e w1 ⟨he, hb1⟩
    rw [HV.out] at he
    subst he
    go_wp2
    go_ret2
    refine ⟨_, ret_pairH E.out.symm, by rw [E2.out]; exact OwnS.none_ _ _, hb1⟩
  have HL := hid (hosts_len hv)
  obtain ⟨j, rfl⟩ : ∃ j : Nat, q = j := ⟨q.toNat, by omega⟩
  have hj : j < l.length := by omega
  have HB := hid (loadB_at hv hj (d := d) (by omega))
  have HLY := hid (fun (hb : loadB l j d = true) => loadL_yes hb)
  have HSL := hid (set_load hj d)
  have hok := Hst.ok_iff.1 (hosts_ok hv hj)
  have HJ := hid hj
  have HD := hid (show -100 ≤ d ∧ d ≤ 100 by omega)
  have b1 : decide ((j : Int) < 0) = false := decide_eq_false o1
  have b2 : decide ((l.length : Int) ≤ (j : Int)) = false := decide_eq_false o2
  have b2' : decide (l.length ≤ j) = false := decide_eq_false (by omega)
  have b3 : decide (d < -100) = false := decide_eq_false o3
  have b4 : decide (100 < d) = false := decide_eq_false o4
  clear hv o1 o2 o3 o4
  go_enter Try.func44, Try.ntmps44
  go_wp2_with fail
  with_reducible refine (iValidHosts_any A c l _ h HN.out).mono ?_
  rintro e w1 ⟨he, hb1⟩
  rw [HV.out] at he
  subst he
  have hs1 := (h.below hb1).more hb1.size
  go_wp2
  go_loopw [8, 34] (fun v i wr => ∃ k : Nat, k ≤ l.length ∧ i = .int .i64 k ∧ OwnS 40 3 hcl wr w1.heap.size v (l.take k) ∧ Below w1.heap.size w1 wr) (fun _ i _ => l.length - (intOf i).toNat)
  case atStart => exact ⟨0, Nat.zero_le _, rfl, OwnS.none_ _ _, Below.refl _ _⟩
  case round =>
    obtain ⟨k, hk, rfl, ho, hb⟩ := hrel
    have hl5 := HL.out.2
    by_cases hlt : k < l.length
    · have hi : (k : Int) < (l.length : Int) := by omega
      obtain ⟨b, o, rfl, hbl, e0, e1, e2⟩ := (hs1.below hb).host hlt
      have hz := hb.size
      have hbw : b < wr.heap.size := by omega
      have HT : Hid (l.take (k + 1) = l.take k ++ [l[k]]) := hid (List.take_succ_eq_append_getElem hlt)
      have hkl : (l.take k).length ≤ 5 := by rw [List.length_take]; omega
      obtain ⟨y, hy⟩ : ∃ y, y = l[k] := ⟨_, rfl⟩
      rw [← hy] at e0 e1 e2 HT
      clear hy
      obtain ⟨R, hR⟩ : ∃ R, R = l.take k := ⟨_, rfl⟩
      rw [← hR] at HT ho hkl
      clear hR
      go_wp2_with (at_builtin; refine wpList_append_own _ rfl _ _ 35 rfl w1.heap.size 40 i0 (.agg #[.int .i64 0, .int .i64 0, .bool false]) 3 24 Try.underlying35 hi0 hz0 hz1 hz2 rfl (by decide) _ _ _ rfl ((ho.alloc _).alloc _).out ⟨wr.heap.size + 1, 0, none⟩ 1 1 [.int .i64 y.l, .int .i64 y.g, .bool y.d] rfl rfl (by simpa using cells_new (wr.alloc (.cells #[.int .i64 y.l, .int .i64 y.g, .bool y.d] 40)) [.int .i64 y.l, .int .i64 y.g, .bool y.d] 40) ?c2 ?c3 ?c4 ?c5 ?_)
      case c2 => simp [Value.oneCell']
      case c3 => unfold maxLen; omega
      case c4 => omega
      case c5 => first | omega | (simp; omega)
      case _ =>
        intro v1 w2 h1 hg1 _
        have ho' := ho.alloc (.cells #[.int .i64 y.l, .int .i64 y.g, .bool y.d] 40)
        have hba := hb.alloc hb.size (.cells #[.int .i64 y.l, .int .i64 y.g, .bool y.d] 40)
        obtain ⟨ho1, hb1'⟩ := ho'.snoc (x := y) hba (Nat.le_refl _) h1 hg1
        rw [← HT.out] at ho1
        clear h1 hg1 ho' hba
        go_wp2
        go_roundw
        case rel => exact ⟨k + 1, by omega, by go_num, ho1, hb1'⟩
        case measure => simp [intOf]; omega
    · have hi : ¬ (k : Int) < (l.length : Int) := by omega
      rw [take_whole hlt] at ho
      obtain ⟨g, cc, rfl, hcc⟩ := own_rowH ho (by omega)
      have hB := hb1.trans (hb.mono hb1.size)
      have hx := (host_at ho.out HJ.out).1
      have hfr := row_thaw ho.out
      have hput := row_put ho.out (j * 3) (.int .i64 ((l[j]'HJ.out).l + d))
      have hput : (wr.setCell ⟨g, j * 3, none⟩ (.int .i64 ((l[j]'HJ.out).l + d))).ownsRow w1.heap.size 40 3 (.slice (some ⟨g, 0, none⟩) l.length cc) l.length (strip hcl (addTo l j d)) := by rw [← HSL.out]; exact hput
      have hlen : (addTo l j d).length = l.length := addTo_len _ _ _
      have hbg := row_base ho.out
      obtain ⟨x, hxx⟩ : ∃ x, x = (l[j]'HJ.out).l := ⟨_, rfl⟩
      rw [← hxx] at hx hput hok
      have hji : (j : Int) < (l.length : Int) := by omega
      have hj0 : (0 : Int) ≤ (j : Int) := by omega
      have hw : IntKind.i64.wrap (x + d) = x + d := by have := HD.out; rw [IntKind.wrap_i64]; omega
      have ho2 : OwnS 40 3 hcl (wr.setCell ⟨g, j * 3, none⟩ (.int .i64 (x + d))) w1.heap.size (.slice (some ⟨g, 0, none⟩) l.length cc) (addTo l j d) := by unfold OwnS; rw [hlen]; exact hput
      have hs2 := OwnS.sees ho2
      have hB2 := hB.setCell (p := ⟨g, j * 3, none⟩) (Nat.le_trans hb1.size hbg.1) (.int .i64 (x + d))
      have HO2 := hid (ho2.mono hb1.size)
      have HLE := hid hlen
      have HLN := hid (show (addTo l j d).length ≤ 4194304 by omega)
      clear hput ho2 hlen hbg hxx hB ho hb1 hb
      rcases hv2 : hostsB (addTo l j d) with _ | _
      · have E := hid (show loadB l j d = false by rw [HB.out, hv2])
        have E2 := hid (loadL_no E.out)
        have HV2 := hid hv2
        clear hv2
        go_wp2_with fail
        with_reducible refine (iValidHosts_len HLE.out hs2 HLN.out).mono ?_
        rintro e w3 ⟨he, hb3⟩
        rw [HV2.out] at he
        subst he
        go_wp2
        go_ret2
        refine ⟨_, ret_pairH E.out.symm, by rw [E2.out]; exact OwnS.none_ _ _, hB2.trans (hb3.mono hB2.size)⟩
      · have E := hid (show loadB l j d = true by rw [HB.out, hv2])
        have E2 := hid (HLY.out E.out)
        have HV2 := hid hv2
        clear hv2
        go_wp2_with fail
        with_reducible refine (iValidHosts_len HLE.out hs2 HLN.out).mono ?_
        rintro e w3 ⟨he, hb3⟩
        rw [HV2.out] at he
        subst he
        go_wp2
        go_ret2
        refine ⟨_, ret_pairH E.out.symm, by rw [E2.out]; exact HO2.out.below hb3, hB2.trans (hb3.mono hB2.size)⟩

/-- Hosts behind a read: as they were, or in new memory; as many as before. -/
def OnceAns (A : Option Addr) (l : List Hst) (n : Int) (w : World) (e : Ending) (w' : World) : Prop := ∃ (A' : Option Addr) (c : Nat), e = .returned (.slice A' l.length c) ∧ ((A' = A ∧ bump l n = l) ∨ SeesF w' (fun b => b < w.heap.size) A' (strip hcl (bump l n))) ∧ Below w.heap.size w w'
theorem once_keep {w w' : World} {F : Nat → Prop} {A A' : Option Addr} {l : List Hst} {n : Int} (hF : ∀ b, F b → b < w.heap.size) (hs : SeesF w F A (strip hcl l)) (hb : Below w.heap.size w w')
    (h : (A' = A ∧ bump l n = l) ∨ SeesF w' (fun b => b < w.heap.size) A' (strip hcl (bump l n))) : SeesF w' F A' (strip hcl (bump l n)) := by
  rcases h with ⟨rfl, e⟩ | h
  · rw [e]; exact hs.below hb
  · exact h.imp fun b _ hh => hF b hh
set_option maxHeartbeats 2000000 in
theorem readOnce_any (A : Option Addr) (c : Nat) (l : List Hst) (n : Int) (w : World) (h : Sees w w.heap.size A (strip hcl l)) (hn : l.length ≤ 4194304) :
    Calls Try.prog 36 #[.slice A l.length c, .int .i64 n] w (OnceAns A l n w) := by
  have HN := hid hn
  clear hn
  have HC := hid (iAddLoad_any A c l n 1 w h HN.out)
  rcases hb : loadB l n 1 with _ | _
  · have E := hid (show bump l n = l by unfold bump; rw [if_neg (by simp [hb])])
    have HB := hid hb
    clear hb
    go_enter Try.func36, Try.ntmps36
    go_wp2_with fail
    with_reducible refine HC.out.mono ?_
    rintro e w1 ⟨v, he, ho, hb1⟩
    rw [HB.out] at he
    subst he
    go_wp2
    go_ret
    exact ⟨A, c, rfl, .inl ⟨rfl, E.out⟩, hb1⟩
  · have HB := hid hb
    have hll : (loadL l n 1).length = l.length := by unfold loadL; rw [if_pos hb, addTo_len]
    have E := hid (show bump l n = loadL l n 1 by unfold bump loadL; rw [if_pos hb, if_pos hb])
    have HLL := hid hll
    clear hb hll
    go_enter Try.func36, Try.ntmps36
    go_wp2_with fail
    with_reducible refine HC.out.mono ?_
    rintro e w1 ⟨v, he, ho, hb1⟩
    rw [HB.out] at he
    subst he
    obtain ⟨A1, c1, rfl, _, _, _⟩ := ho.form
    have hs : SeesF w1 (fun b => b < w.heap.size) A1 (strip hcl (loadL l n 1)) := SeesF.of_row ho.out fun b hb _ hh => by omega
    rw [HLL.out]
    clear ho
    go_wp2
    go_ret
    exact ⟨A1, c1, rfl, .inr (by rw [E.out]; exact hs), hb1⟩

end Go.Proofs.Ytmaocmgnkdieeab

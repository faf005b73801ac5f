/-
  Lists of settings, one behind the other, as the exact laws copy, measure and compare them. Condition: the lists lie in memory.
-/
import Derived.Test.YtfnjphhanehoeaaStF
import Derived.Test.YtfnjphhanehoeaaStE
import Derived.Test.YtfnjphhanehoeaaSsSettingG
import Derived.Deep.RegionHeld3
namespace Go.Proofs.Ytfnjphhanehoeaa
open Go.RowKit Stt Lea

def Rw.zero : Rw := ⟨none, 0, []⟩
theorem Rw.made (n : Nat) : (madeCells #[.slice none 0 0] (n * 1)).toList = strip rwcl (List.replicate n Rw.zero) := by
  rw [Nat.mul_one]
  have e : strip rwcl (List.replicate n Rw.zero) = List.replicate n (.slice none 0 0) := by
    induction n with
    | zero => rfl
    | succ n ih => rw [List.replicate_succ, strip_cons, ih]; rfl
  rw [e]
  simp [madeCells, Nat.mod_one, List.map_const']
theorem rw_set {L : List Rw} {k : Nat} (hk : k < L.length) (x : Rw) : (strip rwcl L).set k (.slice x.A x.l.length x.c) = strip rwcl (L.set k x) := by
  have h := strip_set rwcl_ln L k hk x
  rw [h]; simp [rwcl, putAll]
theorem rw_fill {R : List Rw} {n : Nat} (hn : R.length < n) (x : Rw) : (R ++ List.replicate (n - R.length) Rw.zero).set R.length x = (R ++ [x]) ++ List.replicate (n - (R ++ [x]).length) Rw.zero := by
  rw [List.set_append_right _ _ (Nat.le_refl _), Nat.sub_self]
  have e1 : n - R.length = (n - (R ++ [x]).length) + 1 := by rw [List.length_append]; simp; omega
  rw [e1, List.replicate_succ, List.set_cons_zero, List.append_assoc]
  rfl
theorem cheV_congr {R rs : List Rw} {m : List Stg} (h : R.map Rw.l = rs.map Rw.l) : cheV R m = cheV rs m := by
  have hl : R.length = rs.length := by have := congrArg List.length h; simpa using this
  have h1 : chgsN R m = chgsN rs m := by
    have e : ∀ ls : List Rw, chgsN ls m = (ls.map Rw.l).map fun l => ((planL l m).length : Int) := fun ls => by unfold chgsN; simp [List.map_map, Function.comp_def]
    rw [e, e, h]
  have h2 : rowsB R = rowsB rs := by
    have e : ∀ ls : List Rw, rowsB ls = decide ((ls.map Rw.l).length ≤ 6 ∧ ∀ l ∈ ls.map Rw.l, setsB l = true) := fun ls => by unfold rowsB; simp
    rw [e, e, h]
  unfold cheV
  rw [h1, h2, hl]
theorem rows_of_map {R rs : List Rw} (h : R.map Rw.l = rs.map Rw.l) {n : Nat} (hn : ∀ r ∈ rs, r.l.length ≤ n) : ∀ r ∈ R, r.l.length ≤ n := fun r hr => by
  have : r.l ∈ rs.map Rw.l := h ▸ List.mem_map_of_mem hr
  obtain ⟨q, hq, e⟩ := List.mem_map.1 this
  rw [← e]; exact hn q hq
theorem map_at {R rs : List Rw} (h : R.map Rw.l = rs.map Rw.l) {k : Nat} (hk : k < R.length) (hk' : k < rs.length) : (R[k]).l = (rs[k]).l := by
  have h1 : (R.map Rw.l)[k]? = (rs.map Rw.l)[k]? := by rw [h]
  simpa [hk, hk'] using h1
theorem settingsInfo : (Try.prog.info? 29).map (fun i => (i.zero, i.size, i.bytes)) = some (some (.slice none 0 0), 1, 24) := by kernel_rfl

set_option maxHeartbeats 1000000 in
theorem szSettingSS_any (A : Option Addr) (c : Nat) (rs : List Rw) (w : World) (h : SeesR w w.heap.size A rs) (hn : rs.length ≤ maxLen) (hm : ∀ r ∈ rs, r.l.length ≤ maxLen) :
    Calls Try.prog 6 #[.slice A rs.length c, .int .i64 1048576] w fun e w' => ∃ r : Int, e = .returned (.int .i64 r) ∧ w = w' ∧ (r = -1 ∨ (∃ q : Nat, r = q ∧ q ≤ 1048576 ∧ rs.length ≤ 1048576 ∧ ∀ x ∈ rs, x.l.length ≤ 1048576)) := by
  have HM := hid hm
  have HN := hid hn
  clear hm
  unfold maxLen at hn
  have hw : IntKind.i64.wrap (1048576 - (rs.length : Int)) = 1048576 - (rs.length : Int) := by rw [IntKind.wrap_i64]; omega
  by_cases hb : 1048576 < rs.length
  · have h1 : (1048576 : Int) - (rs.length : Int) < 0 := by omega
    go_enter Try.func6, Try.ntmps6
    go_wp2
    go_ret
    exact ⟨-1, rfl, rfl, .inl rfl⟩
  · have h1 : ¬ (1048576 : Int) - (rs.length : Int) < 0 := by omega
    have HB := hid hb
    go_enter Try.func6, Try.ntmps6
    go_wp2
    go_loopw [1, 5] (fun v i wr => ∃ k q : Nat, k ≤ rs.length ∧ v = .int .i64 q ∧ i = .int .i64 k ∧ q ≤ 1048576 ∧ Hid (∀ x ∈ rs.take k, x.l.length ≤ 1048576) ∧ wr = w) (fun _ i _ => rs.length - (intOf i).toNat)
    case atStart => exact ⟨0, 1048576 - rs.length, Nat.zero_le _, by rw [show ((1048576 - rs.length : Nat) : Int) = 1048576 - (rs.length : Int) by omega], rfl, by omega, hid (by simp), rfl⟩
    case round =>
      obtain ⟨k, q, hk, rfl, rfl, hq, HF, rfl⟩ := hrel
      have hb := HB.out
      by_cases hlt : k < rs.length
      · have hi : (k : Int) < (rs.length : Int) := by omega
        obtain ⟨b, o, rfl, hbl, e0, _⟩ := h.row hlt
        have hm := HM.out _ (List.getElem_mem hlt)
        have HT := hid (List.take_succ_eq_append_getElem hlt)
        obtain ⟨x, hx⟩ : ∃ x, x = rs[k] := ⟨_, rfl⟩
        rw [← hx] at e0 hm HT
        clear hx
        by_cases hbx : q < x.l.length
        · have E : Hid ((if q < x.l.length then (-1 : Int) else ((q : Nat) : Int) - x.l.length) = -1) := hid (if_pos hbx)
          go_wp2_with fail
          with_reducible refine (szSettingS_g x.A x.l.length x.c q _ hm hq).mono ?_
          rintro e w' ⟨he, rfl⟩
          rw [E.out] at he
          subst he
          go_wp2
          go_ret
          exact ⟨-1, rfl, rfl, .inl rfl⟩
        · obtain ⟨q', hq'⟩ : ∃ q' : Nat, q' = q - x.l.length := ⟨_, rfl⟩
          have E : Hid ((if q < x.l.length then (-1 : Int) else ((q : Nat) : Int) - x.l.length) = (q' : Int)) := hid ((if_neg hbx).trans (by omega))
          have hq0 : ¬ (q' : Int) < 0 := by omega
          have HX : Hid (∀ y ∈ rs.take (k + 1), y.l.length ≤ 1048576) := hid (by
            rw [HT.out]
            intro y hy
            rcases List.mem_append.1 hy with h5 | h5
            · exact HF.out y h5
            · rw [List.mem_singleton.1 h5]; omega)
          have hq2 : q' ≤ 1048576 := by omega
          clear hq'
          go_wp2_with fail
          with_reducible refine (szSettingS_g x.A x.l.length x.c q _ hm hq).mono ?_
          rintro e w' ⟨he, rfl⟩
          rw [E.out] at he
          subst he
          go_wp2
          go_roundw
          case rel => exact ⟨k + 1, q', by omega, rfl, by go_num, hq2, HX, by trivial⟩
          case measure => simp [intOf]; omega
      · have hi : ¬ (k : Int) < (rs.length : Int) := by omega
        have HX : Hid (∀ x ∈ rs, x.l.length ≤ 1048576) := hid (by have := HF.out; rwa [List.take_of_length_le (by omega)] at this)
        go_wp2
        go_ret
        exact ⟨q, rfl, rfl, .inr ⟨q, rfl, hq, by omega, HX.out⟩⟩

set_option maxHeartbeats 2000000 in
theorem toSettingSS_any (A : Option Addr) (c : Nat) (rs : List Rw) (w : World) (h : SeesR w w.heap.size A rs) (hn : rs.length ≤ 1048576) (hm : ∀ r ∈ rs, r.l.length ≤ 1048576) :
    Calls Try.prog 9 #[.slice A rs.length c] w fun e w' => ∃ (B : Option Addr) (d : Nat) (R : List Rw), e = .returned (.slice B rs.length d) ∧ Hid (R.length = rs.length) ∧ Hid (R.map Rw.l = rs.map Rw.l) ∧ SeesR w' w'.heap.size B R ∧ Below w.heap.size w w' := by
  obtain ⟨i0, hi0, hz0, hz1, hz2⟩ := info_parts settingsInfo
  have HN := hid hn
  have HM := hid hm
  clear hn hm
  go_enter Try.func9, Try.ntmps9
  go_wp2_with (refine wpList_make_full _ rfl _ _ 27 rfl w.heap.size 29 i0 (.slice none 0 0) 1 Try.underlying27 hi0 hz0 hz1 .i64 .i64 rs.length rs.length rs.length rfl rfl rfl rfl (by rw [hz2]; have := HN.out; omega) (by have := HN.out; unfold maxLen; omega) (Nat.le_refl _) ?_)
  case _ =>
    intro w1 h1 hg1
    have ho1 : w1.ownsRow w.heap.size 29 1 (.slice (some ⟨w.heap.size, 0, none⟩) rs.length rs.length) rs.length (strip rwcl ([] ++ List.replicate (rs.length - ([] : List Rw).length) Rw.zero)) := by
      have e := Rw.made rs.length
      rw [Nat.mul_one] at e
      simp only [List.nil_append, List.length_nil, Nat.sub_zero]
      rw [← e]; exact h1
    have hb1 : Below w.heap.size w w1 := (Below.refl _ _).grown hg1 (Nat.le_refl _) (fun k hk => by cases hk)
    have hz1 : w.heap.size < w1.heap.size := (row_base ho1).2
    clear h1 hg1
    go_wp2
    go_loopw [4] (fun i wr => ∃ R : List Rw, R.length ≤ rs.length ∧ i = .int .i64 (R.length : Nat) ∧ Hid (R.map Rw.l = (rs.take R.length).map Rw.l) ∧ Hid (∀ r ∈ R, OwnG wr (w.heap.size + 1) (.slice r.A r.l.length r.c) r.l) ∧ wr.ownsRow w.heap.size 29 1 (.slice (some ⟨w.heap.size, 0, none⟩) rs.length rs.length) rs.length (strip rwcl (R ++ List.replicate (rs.length - R.length) Rw.zero)) ∧ Below w.heap.size w wr) (fun i _ => rs.length - (intOf i).toNat)
    case atStart => exact ⟨[], Nat.zero_le _, rfl, hid rfl, hid (by simp), ho1, hb1⟩
    case round =>
      clear ho1 hz1 hb1
      obtain ⟨R, hk, rfl, HR, HO, ho, hb⟩ := hrel
      have hn := HN.out
      by_cases hlt : R.length < rs.length
      · have hi : (R.length : Int) < (rs.length : Int) := by omega
        obtain ⟨b, o, rfl, hbl, e0, hs⟩ := (h.below hb).row hlt
        have hm := HM.out _ (List.getElem_mem hlt)
        have HT := hid (List.take_succ_eq_append_getElem hlt)
        obtain ⟨x, hx⟩ : ∃ x, x = rs[R.length] := ⟨_, rfl⟩
        rw [← hx] at e0 hs hm HT
        clear hx
        have hz := hb.size
        obtain ⟨_, hgw⟩ := row_base ho
        go_wp2_with fail
        with_reducible refine (toSettingS_any x.A x.c x.l _ (hs.more hz) (Nat.le_trans hm (by decide))).mono ?_
        rintro e w3 ⟨v3, rfl, ho3, hb3⟩
        obtain ⟨A3, c3, rfl, _, _, _⟩ := ho3.form
        have ho4 := own_below ho hb3
        have hfr := row_thaw ho4
        have u0 : w3.cell? ⟨w.heap.size, R.length, none⟩ = some (.slice none 0 0) := by
          obtain ⟨b', o', e', _, hc⟩ := Sees.elem (f := rwcl) (s := 1) rwcl_ln (by decide) (Sees.of_own ho4) (k := R.length) (by simp; omega)
          injection e' with e'
          injection e' with e1 e2
          subst e1 e2
          have := hc 0 (.slice none 0 0) (by simp [rwcl, Rw.zero])
          simpa using this
        have hput := row_put ho4 R.length (.slice A3 x.l.length c3)
        have hbb := hb.trans (hb3.mono hz)
        have HX : Hid ((R ++ [(⟨A3, c3, x.l⟩ : Rw)]).map Rw.l = (rs.take (R ++ [(⟨A3, c3, x.l⟩ : Rw)]).length).map Rw.l) := hid (by
          rw [List.length_append, List.length_singleton, HT.out, List.map_append, List.map_append, HR.out]; rfl)
        have HO2 : Hid (∀ r ∈ R ++ [(⟨A3, c3, x.l⟩ : Rw)], OwnG (w3.setCell ⟨w.heap.size, R.length, none⟩ (.slice A3 x.l.length c3)) (w.heap.size + 1) (.slice r.A r.l.length r.c) r.l) := hid (by
          intro r hr
          have h5 : OwnG w3 (w.heap.size + 1) (.slice r.A r.l.length r.c) r.l := by
            rcases List.mem_append.1 hr with h6 | h6
            · exact (HO.out r h6).below hb3
            · rw [List.mem_singleton.1 h6]; exact OwnS.mono ho3 (by omega)
          exact h5.kept (grown_set w3 w.heap.size R.length _) fun k hk e => by
            have := (h5.lt k hk).1
            injection e with e
            omega)
        have hq : w3.setCell ⟨w.heap.size, R.length, none⟩ (.slice A3 x.l.length c3) = w3.setCell ⟨w.heap.size, R.length, none⟩ (.slice A3 x.l.length c3) := rfl
        rw [show (Value.slice A3 x.l.length c3) = .slice (Rw.mk A3 c3 x.l).A (Rw.mk A3 c3 x.l).l.length (Rw.mk A3 c3 x.l).c from rfl, rw_set (by simp; omega), rw_fill hlt] at hput
        have hb4 := hbb.setCell (p := ⟨w.heap.size, R.length, none⟩) (Nat.le_refl _) (.slice A3 x.l.length c3)
        have HL : Hid ((R ++ [(⟨A3, c3, x.l⟩ : Rw)]).length = R.length + 1) := hid (by simp)
        have HP := hid hput
        obtain ⟨R2, hR2⟩ : ∃ R2, R2 = R ++ [(⟨A3, c3, x.l⟩ : Rw)] := ⟨_, rfl⟩
        rw [← hR2] at HX HO2 HP HL
        clear hR2 ho ho3 ho4 hb3 hput hq e0 hs
        go_wp2
        go_roundw
        case rel => exact ⟨R2, by have := HL.out; omega, by rw [HL.out]; go_num, HX, HO2, HP.out, hb4⟩
        case measure => simp [intOf]; omega
      · have hi : ¬ (R.length : Int) < (rs.length : Int) := by omega
        have hl : Hid (R.length = rs.length) := hid (by omega)
        have HE : Hid (rs.length - R.length = 0) := hid (by omega)
        have HX : Hid (R.map Rw.l = rs.map Rw.l) := hid (by have := HR.out; rwa [List.take_of_length_le (by omega)] at this)
        rw [HE.out, List.replicate_zero, List.append_nil] at ho
        clear HE
        go_wp2
        go_ret
        exact ⟨_, ⟨_, rfl⟩, R, hl, HX, ⟨Sees.of_own ho, fun r hr => (HO.out r hr).sees⟩, hb⟩

set_option maxHeartbeats 2000000 in
theorem eqSettingSS_same (A B : Option Addr) (c d n : Nat) (R rs : List Rw) (w : World) (h : SeesR w w.heap.size A R) (h' : SeesR w w.heap.size B rs) (hl : R.length = n) (hl' : rs.length = n) (hr : Hid (R.map Rw.l = rs.map Rw.l)) (hn : n ≤ 1048576) (hm : ∀ r ∈ rs, r.l.length ≤ 1048576) :
    Calls Try.prog 12 #[.slice A n c, .slice B n d] w fun e w' => e = .returned (.bool true) ∧ Below w.heap.size w w' := by
  have HN := hid hn
  have HM := hid hm
  have HL := hid hl
  have HL' := hid hl'
  clear hn hm hl hl'
  go_enter Try.func12, Try.ntmps12
  go_wp2
  go_loopw [5] (fun i wr => ∃ k : Nat, k ≤ n ∧ i = .int .i64 k ∧ Below w.heap.size w wr) (fun i _ => n - (intOf i).toNat)
  case atStart => exact ⟨0, Nat.zero_le _, rfl, Below.refl _ _⟩
  case round =>
    obtain ⟨k, hk, rfl, hb⟩ := hrel
    have hn := HN.out
    by_cases hlt : k < n
    · have hi : (k : Int) < (n : Int) := by omega
      have hk1 : k < R.length := by rw [HL.out]; exact hlt
      have hk2 : k < rs.length := by rw [HL'.out]; exact hlt
      obtain ⟨b, o, rfl, hbl, e0, hs⟩ := (h.below hb).row hk1
      obtain ⟨b', o', rfl, hbl', f0, hs'⟩ := (h'.below hb).row hk2
      have hm := HM.out _ (List.getElem_mem hk2)
      have hx := map_at hr.out hk1 hk2
      obtain ⟨y, hy⟩ : ∃ y, y = R[k] := ⟨_, rfl⟩
      obtain ⟨x, hx'⟩ : ∃ x, x = rs[k] := ⟨_, rfl⟩
      rw [← hy] at e0 hs hx
      rw [← hx'] at f0 hs' hx hm
      rw [hx] at e0 hs
      clear hy hx' hx
      have hz := hb.size
      have hbd : Below w.heap.size w wr.drew := hb.drew
      have hsd : Sees wr.drew wr.drew.heap.size y.A (strip stcl x.l) := (hs.more hz).drew
      have hsd' : Sees wr.drew wr.drew.heap.size x.A (strip stcl x.l) := (hs'.more hz).drew
      have hm4 : x.l.length ≤ 4194304 := Nat.le_trans hm (by decide)
      go_wp2_with fail
      go_region_held3 (fun w' => w'.cell? ⟨b, o + k, none⟩ = some (.slice y.A x.l.length y.c) ∧ w'.cell? ⟨b', o' + k, none⟩ = some (.slice x.A x.l.length x.c))
        (first | with_reducible exact ⟨e0, f0⟩ | with_reducible exact ⟨p0, q0⟩ | go_keep)
        (first
          | (go_at_call 13; (with_reducible refine (eqSettingS_same y.A x.A y.c x.c x.l _ hsd hsd' hm4).mono ?_); rintro e w2 ⟨rfl, hb2⟩; have hbw2 := hbd.trans (hb2.mono hbd.size); obtain ⟨hc2, _⟩ := below_cell hb2; have hlt2 := (show b < wr.drew.heap.size from Nat.lt_of_lt_of_le hbl hbd.size); have hlt3 := (show b' < wr.drew.heap.size from Nat.lt_of_lt_of_le hbl' hbd.size); have p0 := (hc2 b (o + k) hlt2).trans e0; have q0 := (hc2 b' (o' + k) hlt3).trans f0)
          | fail)
      all_goals
        go_wp2
        go_roundw
        case rel => exact ⟨k + 1, by omega, by go_num, hbw2⟩
        case measure => simp [intOf]; omega
    · have hi : ¬ (k : Int) < (n : Int) := by omega
      go_wp2
      go_ret
      exact ⟨rfl, hb⟩

end Go.Proofs.Ytfnjphhanehoeaa

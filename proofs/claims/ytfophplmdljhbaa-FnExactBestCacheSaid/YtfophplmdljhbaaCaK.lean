/-
  Lists of caches in the exact laws: what the helpers answer that measure, copy and compare them. Condition: the lists lie in memory.
-/
import Derived.Test.YtfophplmdljhbaaCaI
import Derived.Test.YtfophplmdljhbaaSlCache
import Derived.Deep.RegionHeld3
namespace Go.Proofs.Ytfophplmdljhbaa
open Go.RowKit Cac Lea

def Rc.zero : Rc := ⟨none, 0, zeroC⟩
theorem Rc.made (n : Nat) : (madeCells #[.int .i64 0, .slice none 0 0] (n * 2)).toList = strip rccl (List.replicate n Rc.zero) := by
  apply List.ext_getElem?
  intro i
  rcases Nat.lt_or_ge i (n * 2) with h | h
  · have h1 : i = i / 2 * 2 + i % 2 := by omega
    have h2 : i / 2 < n := by omega
    have h3 : i % 2 < 2 := by omega
    have hi : (strip rccl (List.replicate n Rc.zero))[i]? = (rccl Rc.zero)[i % 2]? := by
      rw [h1, strip_at rccl_ln (k := i / 2) (by simpa using h2) (by omega)]
      simp only [List.getElem_replicate]
      congr 1
      omega
    rw [hi]
    simp only [madeCells, Array.toList_map, Array.toList_range, List.getElem?_map, List.getElem?_range h, Option.map_some]
    simp only [List.size_toArray, List.length_cons, List.length_nil, Nat.zero_add]
    clear hi h1
    generalize i % 2 = q at h3
    match q, h3 with
    | 0, _ => rfl
    | 1, _ => rfl
  · rw [List.getElem?_eq_none (by simp [madeCells]; omega), List.getElem?_eq_none (by rw [strip_len rccl_ln]; simpa using h)]
theorem rc_at {w : World} {base g n c : Nat} {ys : List Rc} (h : w.ownsRow base 37 2 (.slice (some ⟨g, 0, none⟩) n c) n (strip rccl ys)) {k : Nat} (hk : k < ys.length) :
    w.cell? ⟨g, k * 2, none⟩ = some (.int .i64 ys[k].m.r) ∧ w.cell? ⟨g, k * 2 + 1, none⟩ = some (.slice ys[k].A ys[k].m.n.length ys[k].c) := by
  obtain ⟨b, o, e, _, hc⟩ := Sees.elem rccl_ln (by decide) (Sees.of_own h) hk
  injection e with e
  injection e with e1 e2
  subst e1 e2
  refine ⟨?_, ?_⟩
  · simpa using hc 0 _ rfl
  · simpa using hc 1 _ rfl
theorem rc_put {w : World} {base g n c : Nat} {ys : List Rc} (h : w.ownsRow base 37 2 (.slice (some ⟨g, 0, none⟩) n c) n (strip rccl ys)) {k : Nat} (hk : k < ys.length) (x : Rc) :
    ((w.setCell ⟨g, k * 2, none⟩ (.int .i64 x.m.r)).setCell ⟨g, k * 2 + 1, none⟩ (.slice x.A x.m.n.length x.c)).ownsRow base 37 2 (.slice (some ⟨g, 0, none⟩) n c) n (strip rccl (ys.set k x)) := by
  rw [strip_set rccl_ln ys k hk x]
  exact row_put (row_put h _ _) _ _
theorem rc_fill {R : List Rc} {n : Nat} (hn : R.length < n) (x : Rc) : (R ++ List.replicate (n - R.length) Rc.zero).set R.length x = (R ++ [x]) ++ List.replicate (n - (R ++ [x]).length) Rc.zero := by
  rw [List.set_append_right _ _ (Nat.le_refl _), Nat.sub_self]
  have e1 : n - R.length = (n - (R ++ [x]).length) + 1 := by rw [List.length_append]; simp; omega
  rw [e1, List.replicate_succ, List.set_cons_zero, List.append_assoc]
  rfl
theorem besV_congr {R rs : List Rc} {l : List Int} (h : R.map Rc.m = rs.map Rc.m) : besV R l = besV rs l := by unfold besV chs; rw [h]
theorem cch_of_map {R rs : List Rc} (h : R.map Rc.m = rs.map Rc.m) {n : Nat} (hn : ∀ r ∈ rs, r.m.n.length ≤ n) : ∀ r ∈ R, r.m.n.length ≤ n := fun r hr => by
  have : r.m ∈ rs.map Rc.m := h ▸ List.mem_map_of_mem hr
  obtain ⟨q, hq, e⟩ := List.mem_map.1 this
  rw [← e]; exact hn q hq
theorem cmap_at {R rs : List Rc} (h : R.map Rc.m = rs.map Rc.m) {k : Nat} (hk : k < R.length) (hk' : k < rs.length) : (R[k]).m = (rs[k]).m := by
  have h1 : (R.map Rc.m)[k]? = (rs.map Rc.m)[k]? := by rw [h]
  simpa [hk, hk'] using h1
theorem cacheInfo : (Try.prog.info? 37).map (fun i => (i.zero, i.size, i.bytes)) = some (some (.agg #[.int .i64 0, .slice none 0 0]), 2, 32) := by kernel_rfl

set_option maxHeartbeats 1000000 in
theorem szCache_g (A1 : Option Addr) (n1 c1 q : Nat) (x_r : Int) (w : World) (h1 : n1 ≤ maxLen) (hq : q ≤ 1048576) :
    Calls Try.prog 15 #[.agg #[.int .i64 x_r, .slice A1 n1 c1], .int .i64 q] w fun e w' => e = .returned (.int .i64 (if q < n1 then -1 else (q : Int) - n1)) ∧ Below w.heap.size w w' := by
  have H1 := hid h1
  clear h1
  have hb := (Below.refl w.heap.size w).alloc (Nat.le_refl _) (.cells #[.int .i64 x_r, .slice A1 n1 c1] 40)
  go_enter Try.func15, Try.ntmps15
  by_cases x1 : q < n1
  · have E1 : Hid ((if q < n1 then (-1 : Int) else (q : Int) - n1) = -1) := hid (if_pos x1)
    rw [E1.out]
    go_wp2_with fail
    refine (szIntS_g A1 n1 c1 q _ H1.out hq).mono ?_
    rintro e w1 ⟨he, rfl⟩
    rw [E1.out] at he
    subst he
    go_wp2
    go_ret
    exact ⟨rfl, hb⟩
  · have E1 : Hid ((if q < n1 then (-1 : Int) else (q : Int) - n1) = ((q - n1 : Nat) : Int)) := hid ((if_neg x1).trans (by omega))
    have y1 : ¬ ((q - n1 : Nat) : Int) < 0 := by omega
    rw [E1.out]
    go_wp2_with fail
    refine (szIntS_g A1 n1 c1 q _ H1.out hq).mono ?_
    rintro e w1 ⟨he, rfl⟩
    rw [E1.out] at he
    subst he
    go_wp2
    go_ret
    exact ⟨rfl, hb⟩

set_option maxHeartbeats 1000000 in
theorem szCacheS_any (A : Option Addr) (c : Nat) (rs : List Rc) (w : World) (h : SeesC w w.heap.size A rs) (hn : rs.length ≤ maxLen) (hm : ∀ r ∈ rs, r.m.n.length ≤ maxLen) :
    Calls Try.prog 6 #[.slice A rs.length c, .int .i64 1048576] w fun e w' => ∃ r : Int, e = .returned (.int .i64 r) ∧ Below w.heap.size w w' ∧ (r = -1 ∨ (∃ q : Nat, r = q ∧ q ≤ 1048576 ∧ rs.length ≤ 1048576 ∧ ∀ x ∈ rs, x.m.n.length ≤ 1048576)) := by
  have HM := hid hm
  have HN := hid hn
  clear hm
  unfold maxLen at hn
  have hw : IntKind.i64.wrap (1048576 - (rs.length : Int)) = 1048576 - (rs.length : Int) := by rw [IntKind.wrap_i64]; omega
  by_cases hb : 1048576 < rs.length
  · have h1 : (1048576 : Int) - (rs.length : Int) < 0 := by omega
    go_enter Try.func6, Try.ntmps6
    go_wp2
    go_ret
    exact ⟨-1, rfl, Below.refl _ _, .inl rfl⟩
  · have h1 : ¬ (1048576 : Int) - (rs.length : Int) < 0 := by omega
    have HB := hid hb
    go_enter Try.func6, Try.ntmps6
    go_wp2
    go_loopw [1, 5] (fun v i wr => ∃ k q : Nat, k ≤ rs.length ∧ v = .int .i64 q ∧ i = .int .i64 k ∧ q ≤ 1048576 ∧ Hid (∀ x ∈ rs.take k, x.m.n.length ≤ 1048576) ∧ Below w.heap.size w wr) (fun _ i _ => rs.length - (intOf i).toNat)
    case atStart => exact ⟨0, 1048576 - rs.length, Nat.zero_le _, by rw [show ((1048576 - rs.length : Nat) : Int) = 1048576 - (rs.length : Int) by omega], rfl, by omega, hid (by simp), Below.refl _ _⟩
    case round =>
      obtain ⟨k, q, hk, rfl, rfl, hq, HF, hbw⟩ := hrel
      have hb := HB.out
      by_cases hlt : k < rs.length
      · have hi : (k : Int) < (rs.length : Int) := by omega
        obtain ⟨b, o, rfl, hbl, e0, e1, _, _⟩ := (h.below hbw).row hlt
        have hm := HM.out _ (List.getElem_mem hlt)
        have HT := hid (List.take_succ_eq_append_getElem hlt)
        obtain ⟨x, hx⟩ : ∃ x, x = rs[k] := ⟨_, rfl⟩
        rw [← hx] at e0 e1 hm HT
        clear hx
        by_cases hbx : q < x.m.n.length
        · have E : Hid ((if q < x.m.n.length then (-1 : Int) else ((q : Nat) : Int) - x.m.n.length) = -1) := hid (if_pos hbx)
          go_wp2_with fail
          with_reducible refine (szCache_g x.A x.m.n.length x.c q x.m.r _ hm hq).mono ?_
          rintro e w' ⟨he, hb1⟩
          rw [E.out] at he
          subst he
          go_wp2
          go_ret
          exact ⟨-1, rfl, hbw.trans (hb1.mono hbw.size), .inl rfl⟩
        · obtain ⟨q', hq'⟩ : ∃ q' : Nat, q' = q - x.m.n.length := ⟨_, rfl⟩
          have E : Hid ((if q < x.m.n.length then (-1 : Int) else ((q : Nat) : Int) - x.m.n.length) = (q' : Int)) := hid ((if_neg hbx).trans (by omega))
          have hq0 : ¬ (q' : Int) < 0 := by omega
          have HX : Hid (∀ y ∈ rs.take (k + 1), y.m.n.length ≤ 1048576) := hid (by
            rw [HT.out]
            intro y hy
            rcases List.mem_append.1 hy with h5 | h5
            · exact HF.out y h5
            · rw [List.mem_singleton.1 h5]; omega)
          have hq2 : q' ≤ 1048576 := by omega
          clear hq'
          go_wp2_with fail
          with_reducible refine (szCache_g x.A x.m.n.length x.c q x.m.r _ hm hq).mono ?_
          rintro e w' ⟨he, hb1⟩
          rw [E.out] at he
          subst he
          have hbb := hbw.trans (hb1.mono hbw.size)
          go_wp2
          go_roundw
          case rel => exact ⟨k + 1, q', by omega, rfl, by go_num, hq2, HX, hbb⟩
          case measure => simp [intOf]; omega
      · have hi : ¬ (k : Int) < (rs.length : Int) := by omega
        have HX : Hid (∀ x ∈ rs, x.m.n.length ≤ 1048576) := hid (by have := HF.out; rwa [List.take_of_length_le (by omega)] at this)
        go_wp2
        go_ret
        exact ⟨q, rfl, hbw, .inr ⟨q, rfl, hq, by omega, HX.out⟩⟩

set_option maxHeartbeats 2000000 in
theorem toCacheS_any (A : Option Addr) (c : Nat) (rs : List Rc) (w : World) (h : SeesC w w.heap.size A rs) (hn : rs.length ≤ 1048576) (hm : ∀ r ∈ rs, r.m.n.length ≤ 1048576) :
    Calls Try.prog 8 #[.slice A rs.length c] w fun e w' => ∃ (B : Option Addr) (d : Nat) (R : List Rc), e = .returned (.slice B rs.length d) ∧ Hid (R.length = rs.length) ∧ Hid (R.map Rc.m = rs.map Rc.m) ∧ SeesC w' w'.heap.size B R ∧ Below w.heap.size w w' := by
  obtain ⟨i0, hi0, hz0, hz1, hz2⟩ := info_parts cacheInfo
  have HN := hid hn
  have HM := hid hm
  clear hn hm
  go_enter Try.func8, Try.ntmps8
  go_wp2_with (refine wpList_make_full _ rfl _ _ 26 rfl w.heap.size 37 i0 (.agg #[.int .i64 0, .slice none 0 0]) 2 Try.underlying26 hi0 hz0 hz1 .i64 .i64 rs.length rs.length rs.length rfl rfl rfl rfl (by rw [hz2]; have := HN.out; omega) (by have := HN.out; unfold maxLen; omega) (Nat.le_refl _) ?_)
  case _ =>
    intro w1 h1 hg1
    have ho1 : w1.ownsRow w.heap.size 37 2 (.slice (some ⟨w.heap.size, 0, none⟩) rs.length rs.length) rs.length (strip rccl ([] ++ List.replicate (rs.length - ([] : List Rc).length) Rc.zero)) := by
      have e := Rc.made rs.length
      simp only [List.nil_append, List.length_nil, Nat.sub_zero]
      rw [← e]; exact h1
    have hb1 : Below w.heap.size w w1 := (Below.refl _ _).grown hg1 (Nat.le_refl _) (fun k hk => by cases hk)
    have hz1 : w.heap.size < w1.heap.size := (row_base ho1).2
    clear h1 hg1
    go_wp2
    go_loopw [4] (fun i wr => ∃ R : List Rc, R.length ≤ rs.length ∧ i = .int .i64 (R.length : Nat) ∧ Hid (R.map Rc.m = (rs.take R.length).map Rc.m) ∧ Hid (∀ r ∈ R, Own wr (w.heap.size + 1) (.slice r.A r.m.n.length r.c) r.m.n) ∧ wr.ownsRow w.heap.size 37 2 (.slice (some ⟨w.heap.size, 0, none⟩) rs.length rs.length) rs.length (strip rccl (R ++ List.replicate (rs.length - R.length) Rc.zero)) ∧ Below w.heap.size w wr) (fun i _ => rs.length - (intOf i).toNat)
    case atStart => exact ⟨[], Nat.zero_le _, rfl, hid rfl, hid (by simp), ho1, hb1⟩
    case round =>
      clear ho1 hz1 hb1
      obtain ⟨R, hk, rfl, HR, HO, ho, hb⟩ := hrel
      have hn := HN.out
      by_cases hlt : R.length < rs.length
      · have hi : (R.length : Int) < (rs.length : Int) := by omega
        obtain ⟨b, o, rfl, hbl, e0, e1, hs, _⟩ := (h.below hb).row hlt
        have hm := HM.out _ (List.getElem_mem hlt)
        have HT := hid (List.take_succ_eq_append_getElem hlt)
        obtain ⟨x, hx⟩ : ∃ x, x = rs[R.length] := ⟨_, rfl⟩
        rw [← hx] at e0 e1 hs hm HT
        clear hx
        have hz := hb.size
        obtain ⟨_, hgw⟩ := row_base ho
        have hlen : R.length < (R ++ List.replicate (rs.length - R.length) Rc.zero).length := by simp; omega
        go_wp2_with fail
        with_reducible refine (toCache_any x.m x.A x.c _ (SeesN.of (hs.more hz)) (Nat.le_trans hm (by decide))).mono ?_
        rintro e w3 ⟨A3, c3, rfl, ho3, hb3⟩
        have ho4 := own_below ho hb3
        have hfr := row_thaw ho4
        obtain ⟨u0, u1⟩ := rc_at ho4 hlen
        have hput := rc_put ho4 hlen ⟨A3, c3, x.m⟩
        rw [rc_fill hlt] at hput
        have hbb := hb.trans (hb3.mono hz)
        have HX : Hid ((R ++ [(⟨A3, c3, x.m⟩ : Rc)]).map Rc.m = (rs.take (R ++ [(⟨A3, c3, x.m⟩ : Rc)]).length).map Rc.m) := hid (by
          rw [List.length_append, List.length_singleton, HT.out, List.map_append, List.map_append, HR.out]; rfl)
        have HO2 : Hid (∀ r ∈ R ++ [(⟨A3, c3, x.m⟩ : Rc)], Own ((w3.setCell ⟨w.heap.size, R.length * 2, none⟩ (.int .i64 x.m.r)).setCell ⟨w.heap.size, R.length * 2 + 1, none⟩ (.slice A3 x.m.n.length c3)) (w.heap.size + 1) (.slice r.A r.m.n.length r.c) r.m.n) := hid (by
          intro r hr
          have h5 : Own w3 (w.heap.size + 1) (.slice r.A r.m.n.length r.c) r.m.n := by
            rcases List.mem_append.1 hr with h6 | h6
            · exact Own.below (HO.out r h6) hb3
            · rw [List.mem_singleton.1 h6]; exact Own.mono ho3 (by omega)
          exact Own.kept5 h5 (grown_trans (grown_set w3 w.heap.size (R.length * 2) _) (grown_set _ w.heap.size (R.length * 2 + 1) _)) fun k hk e => by
            have := (h5.out.lt k hk).1
            injection e with e
            omega)
        have hb4 := (hbb.setCell (p := ⟨w.heap.size, R.length * 2, none⟩) (Nat.le_refl _) (.int .i64 x.m.r)).setCell (p := ⟨w.heap.size, R.length * 2 + 1, none⟩) (Nat.le_refl _) (.slice A3 x.m.n.length c3)
        have HL : Hid ((R ++ [(⟨A3, c3, x.m⟩ : Rc)]).length = R.length + 1) := hid (by simp)
        have HP := hid hput
        obtain ⟨R2, hR2⟩ : ∃ R2, R2 = R ++ [(⟨A3, c3, x.m⟩ : Rc)] := ⟨_, rfl⟩
        rw [← hR2] at HX HO2 HP HL
        clear hR2 ho ho3 ho4 hb3 hput e0 e1 hs
        go_wp2
        go_roundw
        case rel => exact ⟨R2, by have := HL.out; omega, by rw [HL.out]; go_num, HX, HO2, HP.out, hb4⟩
        case measure => simp [intOf]; omega
      · have hi : ¬ (R.length : Int) < (rs.length : Int) := by omega
        have hl : Hid (R.length = rs.length) := hid (by omega)
        have HE : Hid (rs.length - R.length = 0) := hid (by omega)
        have HX : Hid (R.map Rc.m = rs.map Rc.m) := hid (by have := HR.out; rwa [List.take_of_length_le (by omega)] at this)
        rw [HE.out, List.replicate_zero, List.append_nil] at ho
        clear HE
        go_wp2
        go_ret
        exact ⟨_, ⟨_, rfl⟩, R, hl, HX, ⟨Sees.of_own ho, fun r hr => ⟨Sees.of_own (HO.out r hr).out, OwnN.cap (A1 := r.A) (c1 := r.c) (s := r.m) (HO.out r hr)⟩⟩, hb⟩

set_option maxHeartbeats 2000000 in
theorem eqCacheS_same (A B : Option Addr) (c d n : Nat) (R rs : List Rc) (w : World) (h : SeesC w w.heap.size A R) (h' : SeesC w w.heap.size B rs) (hl : R.length = n) (hl' : rs.length = n) (hr : Hid (R.map Rc.m = rs.map Rc.m)) (hn : n ≤ 1048576) (hm : ∀ r ∈ rs, r.m.n.length ≤ 1048576) :
    Calls Try.prog 11 #[.slice A n c, .slice B n d] w fun e w' => e = .returned (.bool true) ∧ Below w.heap.size w w' := by
  have HN := hid hn
  have HM := hid hm
  have HL := hid hl
  have HL' := hid hl'
  clear hn hm hl hl'
  go_enter Try.func11, Try.ntmps11
  go_wp2
  go_loopw [5] (fun i wr => ∃ k : Nat, k ≤ n ∧ i = .int .i64 k ∧ Below w.heap.size w wr) (fun i _ => n - (intOf i).toNat)
  case atStart => exact ⟨0, Nat.zero_le _, rfl, Below.refl _ _⟩
  case round =>
    obtain ⟨k, hk, rfl, hb⟩ := hrel
    have hn := HN.out
    by_cases hlt : k < n
    · have hi : (k : Int) < (n : Int) := by omega
      have hk1 : k < R.length := by rw [HL.out]; exact hlt
      have hk2 : k < rs.length := by rw [HL'.out]; exact hlt
      obtain ⟨b, o, rfl, hbl, e0, e1, hs, _⟩ := (h.below hb).row hk1
      obtain ⟨b', o', rfl, hbl', f0, f1, hs', _⟩ := (h'.below hb).row hk2
      have hm := HM.out _ (List.getElem_mem hk2)
      have hx := cmap_at hr.out hk1 hk2
      obtain ⟨y, hy⟩ : ∃ y, y = R[k] := ⟨_, rfl⟩
      obtain ⟨x, hx'⟩ : ∃ x, x = rs[k] := ⟨_, rfl⟩
      rw [← hy] at e0 e1 hs hx
      rw [← hx'] at f0 f1 hs' hx hm
      rw [hx] at e0 e1 hs
      clear hy hx' hx
      have hz := hb.size
      have hbd : Below w.heap.size w wr.drew := hb.drew
      have hsd : SeesN wr.drew wr.drew.heap.size y.A x.m := SeesN.of (hs.more hz).drew
      have hsd' : SeesN wr.drew wr.drew.heap.size x.A x.m := SeesN.of (hs'.more hz).drew
      have hm4 : x.m.n.length ≤ 4194304 := Nat.le_trans hm (by decide)
      go_wp2_with fail
      go_region_held3 (fun w' => w'.cell? ⟨b, o + k * 2, none⟩ = some (.int .i64 x.m.r) ∧ w'.cell? ⟨b, o + k * 2 + 1, none⟩ = some (.slice y.A x.m.n.length y.c) ∧ w'.cell? ⟨b', o' + k * 2, none⟩ = some (.int .i64 x.m.r) ∧ w'.cell? ⟨b', o' + k * 2 + 1, none⟩ = some (.slice x.A x.m.n.length x.c))
        (first | with_reducible exact ⟨e0, e1, f0, f1⟩ | with_reducible exact ⟨p0, p1, q0, q1⟩ | go_keep)
        (first
          | (go_at_call 26; (with_reducible refine (eqCache_same y.A x.A y.c x.c x.m _ hsd hsd' hm4).mono ?_); rintro e w2 ⟨rfl, hb2⟩; have hbw2 := hbd.trans (hb2.mono hbd.size); obtain ⟨hc2, _⟩ := below_cell hb2; have hlt2 := (show b < wr.drew.heap.size from Nat.lt_of_lt_of_le hbl hbd.size); have hlt3 := (show b' < wr.drew.heap.size from Nat.lt_of_lt_of_le hbl' hbd.size); have p0 := (hc2 b (o + k * 2) hlt2).trans e0; have p1 := (hc2 b (o + k * 2 + 1) hlt2).trans e1; have q0 := (hc2 b' (o' + k * 2) hlt3).trans f0; have q1 := (hc2 b' (o' + k * 2 + 1) hlt3).trans f1)
          | fail)
      all_goals
        go_wp2
        go_roundw
        case rel => exact ⟨k + 1, by omega, by go_num, hbw2⟩
        case measure => simp [intOf]; omega
    · have hi : ¬ (k : Int) < (n : Int) := by omega
      go_wp2
      go_ret
      exact ⟨rfl, hb⟩

end Go.Proofs.Ytfophplmdljhbaa

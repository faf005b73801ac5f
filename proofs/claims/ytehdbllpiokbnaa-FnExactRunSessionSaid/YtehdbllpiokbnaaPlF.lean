/-
  What the program's ValidPool answers. Condition: the lists lie in memory.
-/
import Derived.Test.YtehdbllpiokbnaaPlE
import Derived.Test.YtehdbllpiokbnaaPlD

namespace Go.Proofs.Ytehdbllpiokbnaa
open Go.RowKit Pol

theorem ok_no {p : Pl} (h : ¬ Ok p) : okB p = false := Bool.eq_false_iff.2 fun e => h (okB_iff.1 e)
theorem ok_ho {p : Pl} (h : Ok p) : allB (p.held.map Ho.o) 0 4 = true := allB_iff.2 h.2.2.2.1
theorem ok_op {p : Pl} (h : Ok p) : allB (opens p) 0 (p.mx - 1) = true := allB_iff.2 h.2.2.1
theorem allWithin_len {A : Option Addr} {n c : Nat} {l : List Int} {lo hi : Int} {w : World} {B : Nat} (hl : l.length = n) (h : Sees w B A (ints l)) (hn : l.length ≤ 4194304) :
    Calls Try.prog 72 #[.slice A n c, .int .i64 lo, .int .i64 hi] w fun e w' => e = .returned (.bool (allB l lo hi)) ∧ w = w' := by
  subst hl; exact allWithin_any A c l lo hi w h hn
theorem ok_wa {p : Pl} (h : Ok p) : allB p.wait 0 4 = true := allB_iff.2 h.2.2.2.2.2.1

set_option maxHeartbeats 4000000 in
theorem iValidPool_any (p : Pl) (A1 A2 A3 : Option Addr) (c1 c2 c3 : Nat) (w : World) (h : SeesP w w.heap.size A1 A2 A3 p) (h1 : p.idle.length ≤ 2097152) (h2 : p.held.length ≤ 2097152) (h3 : p.wait.length ≤ 4194304) :
    Calls Try.prog 37 #[.agg #[.int .i64 p.mx, .slice A1 p.idle.length c1, .slice A2 p.held.length c2, .slice A3 p.wait.length c3]] w fun e w' => e = .returned (.bool (okB p)) ∧ Below w.heap.size w w' := by
  have H1 := hid h1
  have H2 := hid h2
  have H3 := hid h3
  have hws : IntKind.i64.wrap ((p.idle.length : Int) + (p.held.length : Int)) = (p.idle.length : Int) + (p.held.length : Int) := by rw [IntKind.wrap_i64]; omega
  have px0 := At.new w 30 #[.int .i64 p.mx, .slice A1 p.idle.length c1, .slice A2 p.held.length c2, .slice A3 p.wait.length c3]
  have hB0 := (Below.refl w.heap.size w).alloc (Nat.le_refl _) (.cells #[.int .i64 p.mx, .slice A1 p.idle.length c1, .slice A2 p.held.length c2, .slice A3 p.wait.length c3] 30)
  have hs0 := h.on hB0
  obtain ⟨p0, p1, p2, p3, pl⟩ := px0.pool
  clear h1 h2 h3
  by_cases x1 : p.mx < 1
  · have E := hid (show okB p = false from ok_no fun h => by have := h.1.1; omega)
    go_enter Try.func37, Try.ntmps37
    go_wp2
    go_ret
    exact ⟨ret_bool E.out.symm, hB0⟩
  by_cases x2 : p.mx > 6
  · have E := hid (show okB p = false from ok_no fun h => by have := h.1.2; omega)
    go_enter Try.func37, Try.ntmps37
    go_wp2
    go_ret
    exact ⟨ret_bool E.out.symm, hB0⟩
  by_cases x3 : (p.idle.length : Int) + (p.held.length : Int) > p.mx
  · have E := hid (show okB p = false from ok_no fun h => by have := h.len; omega)
    go_enter Try.func37, Try.ntmps37
    go_wp2
    go_ret
    exact ⟨ret_bool E.out.symm, hB0⟩
  by_cases x4 : (p.wait.length : Int) > 12
  · have E := hid (show okB p = false from ok_no fun h => by have := h.2.2.2.2.1; omega)
    go_enter Try.func37, Try.ntmps37
    go_wp2
    go_ret
    exact ⟨ret_bool E.out.symm, hB0⟩
  by_cases x5 : (p.wait.length : Int) > 0
  · by_cases x6 : (p.held.length : Int) = p.mx
    · have x7 : ((p.held.length : Int) != p.mx) = false := by simpa using x6
      have HW7 := hid (show p.wait.length = 0 ∨ (p.held.length : Int) = p.mx by omega)
      have HW6 := hid (show p.wait.length ≤ 12 by omega)
      have hwm : IntKind.i64.wrap (p.mx - 1) = p.mx - 1 := by rw [IntKind.wrap_i64]; omega
      go_enter Try.func37, Try.ntmps37
      go_wp2_with fail
      with_reducible refine (openConns_any p A1 A2 A3 c1 c2 c3 _ hs0 H1.out H2.out).mono ?_
      rintro e w1 ⟨v1, rfl, ho1, hb1⟩
      obtain ⟨A4, c4, rfl, _⟩ := ho1.form
      have hs4 := Sees.of_own ho1.out
      have hc4 : (opens p).length ≤ c4 := by obtain ⟨_, _, e, l, _⟩ := own_form ho1.out; injection e with _ _ e; omega
      have px1 := px0.below hb1 px0.lt
      have hB1 := hB0.trans (hb1.mono hB0.size)
      have hs1 := hs0.on hb1
      have hlo : (opens p).length ≤ 4194304 := by have := H1.out; have := H2.out; unfold opens; rw [List.length_append, List.length_map]; omega
      clear px0 hB0 hs0 hb1 ho1 p0 p1 p2 p3 pl
      obtain ⟨p0, p1, p2, p3, pl⟩ := px1.pool
      have HL := hid hlo
      have HC4 := hid hc4
      clear hlo hc4
      rcases hw : allB (opens p) 0 (p.mx - 1) with _ | _
      · have E := hid (show okB p = false from ok_no fun h => by rw [ok_op h] at hw; cases hw)
        have HW := hid hw
        clear hw
        go_wp2_with fail
        with_reducible refine (allWithin_any A4 c4 (opens p) 0 (p.mx - 1) _ hs4 HL.out).mono ?_
        rintro e w' ⟨he, rfl⟩
        rw [HW.out] at he
        subst he
        go_wp2
        go_ret
        exact ⟨ret_bool E.out.symm, hB1⟩
      have HW := hid hw
      have a3 := allB_iff.1 hw
      have HA3 := hid a3
      clear hw a3
      rcases hd : decide (opens p).Nodup with _ | _
      · have E := hid (show okB p = false from ok_no fun h => by rw [decide_eq_true h.2.1] at hd; cases hd)
        have HD := hid hd
        clear hd
        go_wp2_with fail
        with_reducible refine (allWithin_any A4 c4 (opens p) 0 (p.mx - 1) _ hs4 HL.out).mono ?_
        rintro e w' ⟨he, rfl⟩
        rw [HW.out] at he
        subst he
        go_wp2_with fail
        with_reducible refine (allDifferent_any A4 c4 (opens p) _ hs4 HC4.out HL.out).mono ?_
        rintro e w' ⟨he, rfl⟩
        rw [HD.out] at he
        subst he
        go_wp2
        go_ret
        exact ⟨ret_bool E.out.symm, hB1⟩
      have HD := hid hd
      have HA2 := hid (of_decide_eq_true hd)
      clear hd
      go_wp2_with fail
      with_reducible refine (allWithin_any A4 c4 (opens p) 0 (p.mx - 1) _ hs4 HL.out).mono ?_
      rintro e w' ⟨he, rfl⟩
      rw [HW.out] at he
      subst he
      go_wp2_with fail
      with_reducible refine (allDifferent_any A4 c4 (opens p) _ hs4 HC4.out HL.out).mono ?_
      rintro e w' ⟨he, rfl⟩
      rw [HD.out] at he
      subst he
      go_wp2_with fail
      with_reducible refine (holders_any A2 c2 p.held _ hs1.held (Nat.le_trans H2.out (by decide))).mono ?_
      rintro e w2 ⟨v2, rfl, ho2, hb2⟩
      obtain ⟨A5, c5, rfl, _⟩ := ho2.form
      have hs5 := Sees.of_own ho2.out
      have hlh : (p.held.map Ho.o).length ≤ 4194304 := by rw [List.length_map]; exact Nat.le_trans H2.out (by decide)
      have HLH := hid hlh
      clear hlh
      have px2 := px1.below hb2 px1.lt
      have hB2 := hB1.trans (hb2.mono hB1.size)
      have hs2 := hs1.on hb2
      clear px1 hB1 hs1 hb2 ho2 hs4 p0 p1 p2 p3 pl
      obtain ⟨p0, p1, p2, p3, pl⟩ := px2.pool
      have hle : (p.held.map Ho.o).length = p.held.length := List.length_map _
      have HLE := hid hle
      clear hle
      rcases hh : allB (p.held.map Ho.o) 0 4 with _ | _
      · have E := hid (show okB p = false from ok_no fun h => by rw [ok_ho h] at hh; cases hh)
        have HH := hid hh
        clear hh
        go_wp2_with fail
        with_reducible refine (allWithin_len (l := p.held.map Ho.o) HLE.out hs5 HLH.out).mono ?_
        rintro e w' ⟨he, rfl⟩
        rw [HH.out] at he
        subst he
        go_wp2
        go_ret
        exact ⟨ret_bool E.out.symm, hB2⟩
      have HH := hid hh
      have HA4 := hid (allB_iff.1 hh)
      clear hh
      go_wp2_with fail
      with_reducible refine (allWithin_len (l := p.held.map Ho.o) HLE.out hs5 HLH.out).mono ?_
      rintro e w' ⟨he, rfl⟩
      rw [HH.out] at he
      subst he
      rcases hv : allB p.wait 0 4 with _ | _
      · have E := hid (show okB p = false from ok_no fun h => by rw [ok_wa h] at hv; cases hv)
        have HV := hid hv
        clear hv
        go_wp2_with fail
        with_reducible refine (allWithin_any A3 c3 p.wait 0 4 _ hs2.wait H3.out).mono ?_
        rintro e w' ⟨he, rfl⟩
        rw [HV.out] at he
        subst he
        go_wp2
        go_ret
        exact ⟨ret_bool E.out.symm, hB2⟩
      · have E := hid (show okB p = true from okB_iff.2 ⟨⟨by omega, by omega⟩, HA2.out, HA3.out, HA4.out, HW6.out, allB_iff.1 hv, HW7.out⟩)
        have HV := hid hv
        clear hv
        go_wp2_with fail
        with_reducible refine (allWithin_any A3 c3 p.wait 0 4 _ hs2.wait H3.out).mono ?_
        rintro e w' ⟨he, rfl⟩
        rw [HV.out] at he
        subst he
        go_wp2
        go_ret
        exact ⟨ret_bool E.out.symm, hB2⟩
    · have x7 : ((p.held.length : Int) != p.mx) = true := by simpa using x6
      have E := hid (show okB p = false from ok_no fun h => by rcases h.2.2.2.2.2.2 with e | e <;> omega)
      go_enter Try.func37, Try.ntmps37
      go_wp2
      go_ret
      exact ⟨ret_bool E.out.symm, hB0⟩
  · skip
    have HW7 := hid (show p.wait.length = 0 ∨ (p.held.length : Int) = p.mx by omega)
    have HW6 := hid (show p.wait.length ≤ 12 by omega)
    have hwm : IntKind.i64.wrap (p.mx - 1) = p.mx - 1 := by rw [IntKind.wrap_i64]; omega
    go_enter Try.func37, Try.ntmps37
    go_wp2_with fail
    with_reducible refine (openConns_any p A1 A2 A3 c1 c2 c3 _ hs0 H1.out H2.out).mono ?_
    rintro e w1 ⟨v1, rfl, ho1, hb1⟩
    obtain ⟨A4, c4, rfl, _⟩ := ho1.form
    have hs4 := Sees.of_own ho1.out
    have hc4 : (opens p).length ≤ c4 := by obtain ⟨_, _, e, l, _⟩ := own_form ho1.out; injection e with _ _ e; omega
    have px1 := px0.below hb1 px0.lt
    have hB1 := hB0.trans (hb1.mono hB0.size)
    have hs1 := hs0.on hb1
    have hlo : (opens p).length ≤ 4194304 := by have := H1.out; have := H2.out; unfold opens; rw [List.length_append, List.length_map]; omega
    clear px0 hB0 hs0 hb1 ho1 p0 p1 p2 p3 pl
    obtain ⟨p0, p1, p2, p3, pl⟩ := px1.pool
    have HL := hid hlo
    have HC4 := hid hc4
    clear hlo hc4
    rcases hw : allB (opens p) 0 (p.mx - 1) with _ | _
    · have E := hid (show okB p = false from ok_no fun h => by rw [ok_op h] at hw; cases hw)
      have HW := hid hw
      clear hw
      go_wp2_with fail
      with_reducible refine (allWithin_any A4 c4 (opens p) 0 (p.mx - 1) _ hs4 HL.out).mono ?_
      rintro e w' ⟨he, rfl⟩
      rw [HW.out] at he
      subst he
      go_wp2
      go_ret
      exact ⟨ret_bool E.out.symm, hB1⟩
    have HW := hid hw
    have a3 := allB_iff.1 hw
    have HA3 := hid a3
    clear hw a3
    rcases hd : decide (opens p).Nodup with _ | _
    · have E := hid (show okB p = false from ok_no fun h => by rw [decide_eq_true h.2.1] at hd; cases hd)
      have HD := hid hd
      clear hd
      go_wp2_with fail
      with_reducible refine (allWithin_any A4 c4 (opens p) 0 (p.mx - 1) _ hs4 HL.out).mono ?_
      rintro e w' ⟨he, rfl⟩
      rw [HW.out] at he
      subst he
      go_wp2_with fail
      with_reducible refine (allDifferent_any A4 c4 (opens p) _ hs4 HC4.out HL.out).mono ?_
      rintro e w' ⟨he, rfl⟩
      rw [HD.out] at he
      subst he
      go_wp2
      go_ret
      exact ⟨ret_bool E.out.symm, hB1⟩
    have HD := hid hd
    have HA2 := hid (of_decide_eq_true hd)
    clear hd
    go_wp2_with fail
    with_reducible refine (allWithin_any A4 c4 (opens p) 0 (p.mx - 1) _ hs4 HL.out).mono ?_
    rintro e w' ⟨he, rfl⟩
    rw [HW.out] at he
    subst he
    go_wp2_with fail
    with_reducible refine (allDifferent_any A4 c4 (opens p) _ hs4 HC4.out HL.out).mono ?_
    rintro e w' ⟨he, rfl⟩
    rw [HD.out] at he
    subst he
    go_wp2_with fail
    with_reducible refine (holders_any A2 c2 p.held _ hs1.held (Nat.le_trans H2.out (by decide))).mono ?_
    rintro e w2 ⟨v2, rfl, ho2, hb2⟩
    obtain ⟨A5, c5, rfl, _⟩ := ho2.form
    have hs5 := Sees.of_own ho2.out
    have hlh : (p.held.map Ho.o).length ≤ 4194304 := by rw [List.length_map]; exact Nat.le_trans H2.out (by decide)
    have HLH := hid hlh
    clear hlh
    have px2 := px1.below hb2 px1.lt
    have hB2 := hB1.trans (hb2.mono hB1.size)
    have hs2 := hs1.on hb2
    clear px1 hB1 hs1 hb2 ho2 hs4 p0 p1 p2 p3 pl
    obtain ⟨p0, p1, p2, p3, pl⟩ := px2.pool
    have hle : (p.held.map Ho.o).length = p.held.length := List.length_map _
    have HLE := hid hle
    clear hle
    rcases hh : allB (p.held.map Ho.o) 0 4 with _ | _
    · have E := hid (show okB p = false from ok_no fun h => by rw [ok_ho h] at hh; cases hh)
      have HH := hid hh
      clear hh
      go_wp2_with fail
      with_reducible refine (allWithin_len (l := p.held.map Ho.o) HLE.out hs5 HLH.out).mono ?_
      rintro e w' ⟨he, rfl⟩
      rw [HH.out] at he
      subst he
      go_wp2
      go_ret
      exact ⟨ret_bool E.out.symm, hB2⟩
    have HH := hid hh
    have HA4 := hid (allB_iff.1 hh)
    clear hh
    go_wp2_with fail
    with_reducible refine (allWithin_len (l := p.held.map Ho.o) HLE.out hs5 HLH.out).mono ?_
    rintro e w' ⟨he, rfl⟩
    rw [HH.out] at he
    subst he
    rcases hv : allB p.wait 0 4 with _ | _
    · have E := hid (show okB p = false from ok_no fun h => by rw [ok_wa h] at hv; cases hv)
      have HV := hid hv
      clear hv
      go_wp2_with fail
      with_reducible refine (allWithin_any A3 c3 p.wait 0 4 _ hs2.wait H3.out).mono ?_
      rintro e w' ⟨he, rfl⟩
      rw [HV.out] at he
      subst he
      go_wp2
      go_ret
      exact ⟨ret_bool E.out.symm, hB2⟩
    · have E := hid (show okB p = true from okB_iff.2 ⟨⟨by omega, by omega⟩, HA2.out, HA3.out, HA4.out, HW6.out, allB_iff.1 hv, HW7.out⟩)
      have HV := hid hv
      clear hv
      go_wp2_with fail
      with_reducible refine (allWithin_any A3 c3 p.wait 0 4 _ hs2.wait H3.out).mono ?_
      rintro e w' ⟨he, rfl⟩
      rw [HV.out] at he
      subst he
      go_wp2
      go_ret
      exact ⟨ret_bool E.out.symm, hB2⟩

end Go.Proofs.Ytehdbllpiokbnaa

/-
  Lists of settings in memory, one behind the other; what CheapestReset answers, the program's and the model's. Condition: the lists lie in memory.
-/
import Derived.Test.YtfnjphhanehoeaaStC
import Derived.Test.YtfnjphhanehoeaaStD
import Derived.Test.YtfnjphhanehoeaaCopyN
namespace Go.Proofs.Ytfnjphhanehoeaa
open Go.RowKit Stt Lea

/-- A list of settings as it lies in memory: where it begins, what it holds, what room it has. -/
structure Rw where
  A : Option Addr
  c : Nat
  l : List Stg
def rwcl (r : Rw) : List Value := [.slice r.A r.l.length r.c]
theorem rwcl_ln : ∀ r, (rwcl r).length = 1 := fun _ => rfl
def SeesR (w : World) (B : Nat) (A : Option Addr) (rs : List Rw) : Prop := Sees w B A (strip rwcl rs) ∧ ∀ r ∈ rs, Sees w B r.A (strip stcl r.l)
section
variable {w w' : World} {B B' : Nat} {A : Option Addr} {rs : List Rw}
theorem SeesR.below (h : SeesR w B A rs) (hb : Below B w w') : SeesR w' B A rs := ⟨h.1.below hb, fun r hr => (h.2 r hr).below hb⟩
theorem SeesR.more (h : SeesR w B A rs) (hB : B ≤ B') : SeesR w B' A rs := ⟨h.1.more hB, fun r hr => (h.2 r hr).more hB⟩
theorem SeesR.onT (h : SeesR w w.heap.size A rs) (hb : Below w.heap.size w w') : SeesR w' w'.heap.size A rs := (h.below hb).more hb.size
theorem SeesR.row (h : SeesR w B A rs) {k : Nat} (hk : k < rs.length) : ∃ b o, A = some ⟨b, o, none⟩ ∧ b < B ∧ w.cell? ⟨b, o + k, none⟩ = some (.slice rs[k].A rs[k].l.length rs[k].c) ∧ Sees w B rs[k].A (strip stcl rs[k].l) := by
  obtain ⟨b, o, e, hb, hc⟩ := Sees.elem (f := rwcl) (s := 1) rwcl_ln (by decide) h.1 hk
  exact ⟨b, o, e, hb, by simpa using hc 0 _ rfl, h.2 _ (List.getElem_mem hk)⟩
end
/-! The numbers of changes. -/
def chgsN (ls : List Rw) (m : List Stg) : List Int := ls.map fun r => ((planL r.l m).length : Int)
def rowsB (ls : List Rw) : Bool := decide (ls.length ≤ 6 ∧ ∀ r ∈ ls, setsB r.l = true)
def cheV (ls : List Rw) (m : List Stg) : Int := if rowsB ls = true ∧ setsB m = true then lst (chgsN ls m) ls.length else -1
theorem rowsB_iff {ls : List Rw} : rowsB ls = true ↔ ls.length ≤ 6 ∧ ∀ r ∈ ls, setsB r.l = true := by unfold rowsB; simp
theorem cheV_yes {ls : List Rw} {m : List Stg} (h : rowsB ls = true) (h' : setsB m = true) : cheV ls m = lst (chgsN ls m) ls.length := if_pos ⟨h, h'⟩
theorem cheV_no {ls : List Rw} {m : List Stg} (h : ¬ (rowsB ls = true ∧ setsB m = true)) : cheV ls m = -1 := if_neg h
theorem chgs_len (ls : List Rw) (m : List Stg) : (chgsN ls m).length = ls.length := by unfold chgsN; simp
theorem chgs_at {ls : List Rw} {m : List Stg} {k : Nat} (hk : k < ls.length) : (chgsN ls m).getD k 0 = ((planL (ls[k]).l m).length : Int) := by unfold chgsN; simp [List.getD_eq_getElem?_getD, hk]
def Rk (ls : List Rw) (k : Nat) : Prop := ∀ r ∈ ls.take k, setsB r.l = true
theorem rk_zero (ls : List Rw) : Rk ls 0 := by unfold Rk; simp
theorem rk_succ {ls : List Rw} {k : Nat} (h : Rk ls k) (hk : k < ls.length) (h1 : setsB (ls[k]).l = true) : Rk ls (k + 1) := by
  intro r hr
  rw [List.take_succ_eq_append_getElem hk, List.mem_append, List.mem_singleton] at hr
  rcases hr with hr | rfl
  · exact h r hr
  · exact h1
theorem rk_all {ls : List Rw} {k : Nat} (h : Rk ls k) (hk : ¬ k < ls.length) (h6 : ls.length ≤ 6) : rowsB ls = true := by
  unfold Rk at h
  rw [List.take_of_length_le (by omega)] at h
  exact rowsB_iff.2 ⟨h6, h⟩
theorem rows_not {ls : List Rw} {k : Nat} (hk : k < ls.length) (h : setsB (ls[k]).l = false) : rowsB ls = false := Bool.eq_false_iff.2 fun e => by
  have := (rowsB_iff.1 e).2 _ (List.getElem_mem hk)
  rw [h] at this; cases this
theorem rows_long {ls : List Rw} (h : ¬ ls.length ≤ 6) : rowsB ls = false := Bool.eq_false_iff.2 fun e => h (rowsB_iff.1 e).1

set_option maxHeartbeats 2000000 in
theorem placeOfLeast_any (A : Option Addr) (c : Nat) (l : List Int) (w : World) (h : Sees w w.heap.size A (ints l)) (hn : l.length ≤ 4194304) :
    Calls Try.prog 22 #[.slice A l.length c] w fun e w' => e = .returned (.int .i64 (lst l l.length)) ∧ Below w.heap.size w w' := by
  have HN := hid hn; clear hn
  go_enter Try.func22, Try.ntmps22
  go_wp2
  go_loopw [3, 8] (fun v i wr => ∃ k : Nat, k ≤ l.length ∧ v = .int .i64 (lst l k) ∧ i = .int .i64 k ∧ Below w.heap.size w wr) (fun _ i _ => l.length - (intOf i).toNat)
  case atStart => exact ⟨0, Nat.zero_le _, rfl, rfl, Below.refl _ _⟩
  case round =>
    obtain ⟨k, hk, rfl, rfl, hb⟩ := hrel
    have hn := HN.out
    by_cases hlt : k < l.length
    · have hi : (k : Int) < (l.length : Int) := by omega
      obtain ⟨b, o, rfl, hbl, e0⟩ := (h.below hb).int hlt
      have hz := hb.size
      have hbw : b < wr.heap.size := by omega
      have HTK := hid (fun hh => lst_take (vs := l) (k := k) hh)
      have HKP := hid (fun hh => lst_keep (vs := l) (k := k) hh)
      have HRG := hid (lst_range l k)
      have HGK := hid (show l.getD k 0 = l[k] by simp [List.getD_eq_getElem?_getD, hlt])
      obtain ⟨x, hx⟩ : ∃ x, x = l[k] := ⟨_, rfl⟩
      rw [← hx] at e0 HGK
      clear hx
      obtain ⟨m, hm⟩ : ∃ m, m = lst l k := ⟨_, rfl⟩
      rw [← hm] at HTK HKP HRG ⊢
      by_cases hm1 : m = -1
      · have HX := hid (HTK.out (.inl hm1))
        clear hm
        subst hm1
        go_wp2
        go_roundw
        case rel => exact ⟨k + 1, by omega, by rw [HX.out], by go_num, hb⟩
        case measure => simp [intOf]; omega
      · have hk0 : 0 < k := by
          rcases Nat.eq_zero_or_pos k with e | e
          · subst e; rw [hm] at hm1; exact absurd rfl hm1
          · exact e
        have hmr := HRG.out hk0
        obtain ⟨j, hj⟩ : ∃ j : Nat, m = j := ⟨m.toNat, by omega⟩
        have hjl : j < l.length := by omega
        obtain ⟨b', o', e', _, f0⟩ := (h.below hb).int hjl
        obtain ⟨rfl, rfl⟩ : b = b' ∧ o = o' := by injection e' with e'; injection e' with a b; exact ⟨a, b⟩
        have HGJ := hid (show l.getD j 0 = l[j] by simp [List.getD_eq_getElem?_getD, hjl])
        obtain ⟨y, hy⟩ : ∃ y, y = l[j] := ⟨_, rfl⟩
        rw [← hy] at f0 HGJ
        have hm1' : ((j : Int) == -1) = false := beq_eq_false_iff_ne.2 (by omega)
        have hj0 : (0 : Int) ≤ (j : Int) := by omega
        have hjli : (j : Int) < (l.length : Int) := by omega
        clear hm e' hy
        subst hj
        have HM1 := hid hm1
        clear hm1
        by_cases hxy : x < y
        · have HX := hid (HTK.out (.inr (by rw [HGK.out, Int.toNat_natCast, HGJ.out]; exact hxy)))
          go_wp2
          go_roundw
          case rel => exact ⟨k + 1, by omega, by rw [HX.out], by go_num, hb⟩
          case measure => simp [intOf]; omega
        · have HX := hid (HKP.out (fun hh => hh.elim (fun e => HM1.out e) (fun e => hxy (by rw [HGK.out, Int.toNat_natCast, HGJ.out] at e; exact e))))
          go_wp2
          go_roundw
          case rel => exact ⟨k + 1, by omega, by rw [HX.out], by go_num, hb⟩
          case measure => simp [intOf]; omega
    · have hi : ¬ (k : Int) < (l.length : Int) := by omega
      have hkl : k = l.length := by omega
      subst hkl
      go_wp2
      go_ret
      exact ⟨rfl, hb⟩

set_option maxHeartbeats 2000000 in
theorem validSettingLists_any (A : Option Addr) (c : Nat) (rs : List Rw) (w : World) (h : SeesR w w.heap.size A rs) (hn : rs.length ≤ 4194304) (hm : ∀ r ∈ rs, r.l.length ≤ 4194304) :
    Calls Try.prog 20 #[.slice A rs.length c] w fun e w' => e = .returned (.bool (rowsB rs)) ∧ Below w.heap.size w w' := by
  have HN := hid hn
  have HM := hid hm
  clear hn hm
  by_cases h6 : rs.length ≤ 6
  · have h6' : ¬ (rs.length : Int) > 6 := by omega
    have H6 := hid h6
    clear h6
    go_enter Try.func20, Try.ntmps20
    go_wp2
    go_loopw [10] (fun i wr => ∃ k : Nat, k ≤ rs.length ∧ i = .int .i64 k ∧ Hid (Rk rs k) ∧ Below w.heap.size w wr) (fun i _ => rs.length - (intOf i).toNat)
    case atStart => exact ⟨0, Nat.zero_le _, rfl, hid (rk_zero rs), Below.refl _ _⟩
    case round =>
      obtain ⟨k, hk, rfl, HF, hb⟩ := hrel
      have hn := HN.out
      by_cases hlt : k < rs.length
      · have hi : (k : Int) < (rs.length : Int) := by omega
        obtain ⟨b, o, rfl, hbl, e0, hs⟩ := (h.below hb).row hlt
        have hz := hb.size
        have hbw : b < wr.heap.size := by omega
        have HS := hid (fun hh => rk_succ HF.out hlt hh)
        have HNO := hid (fun hh => rows_not (ls := rs) hlt hh)
        have hm := HM.out _ (List.getElem_mem hlt)
        obtain ⟨x, hx⟩ : ∃ x, x = rs[k] := ⟨_, rfl⟩
        rw [← hx] at e0 hs HS HNO hm
        clear hx
        rcases hv : setsB x.l with _ | _
        · have HV := hid hv
          have HX := hid (HNO.out hv)
          clear hv
          go_wp2_with fail
          with_reducible refine (iValidSettings_any x.A x.c x.l _ (hs.more hz) hm).mono ?_
          rintro e w1 ⟨he, hb1⟩
          rw [HV.out] at he
          subst he
          go_wp2
          go_ret
          exact ⟨ret_bool HX.out.symm, hb.trans (hb1.mono hz)⟩
        · have HV := hid hv
          have HX := hid (HS.out hv)
          clear hv
          go_wp2_with fail
          with_reducible refine (iValidSettings_any x.A x.c x.l _ (hs.more hz) hm).mono ?_
          rintro e w1 ⟨he, hb1⟩
          rw [HV.out] at he
          subst he
          have hbb := hb.trans (hb1.mono hz)
          go_wp2
          go_roundw
          case rel => exact ⟨k + 1, by omega, by go_num, HX, hbb⟩
          case measure => simp [intOf]; omega
      · have hi : ¬ (k : Int) < (rs.length : Int) := by omega
        have HX := hid (rk_all HF.out hlt H6.out)
        go_wp2
        go_ret
        exact ⟨ret_bool HX.out.symm, hb⟩
  · have h6' : (rs.length : Int) > 6 := by omega
    have HX := hid (rows_long h6)
    clear h6
    go_enter Try.func20, Try.ntmps20
    go_wp2
    go_ret
    exact ⟨ret_bool HX.out.symm, Below.refl _ _⟩

set_option maxHeartbeats 4000000 in
theorem iCheapestReset_any (A1 A2 : Option Addr) (c1 c2 : Nat) (rs : List Rw) (m : List Stg) (w : World) (h : SeesR w w.heap.size A1 rs) (h' : Sees w w.heap.size A2 (strip stcl m)) (hn : rs.length ≤ 4194304) (hl : ∀ r ∈ rs, r.l.length ≤ 4194304) (hm : m.length ≤ 4194304) :
    Calls Try.prog 11 #[.slice A1 rs.length c1, .slice A2 m.length c2] w fun e w' => e = .returned (.int .i64 (cheV rs m)) ∧ Below w.heap.size w w' := by
  obtain ⟨i0, hi0, hz0, hz1, hz2⟩ := info_parts intInfo
  have HN := hid hn
  have HL := hid hl
  have HM := hid hm
  clear hn hl hm
  rcases hv : rowsB rs with _ | _
  · have E := hid (cheV_no (ls := rs) (m := m) (by simp [hv]))
    have HV := hid hv
    clear hv
    go_enter Try.func11, Try.ntmps11
    go_wp2_with fail
    with_reducible refine (validSettingLists_any A1 c1 rs _ h HN.out HL.out).mono ?_
    rintro e w1 ⟨he, hb1⟩
    rw [HV.out] at he
    subst he
    go_wp2
    go_ret
    exact ⟨by rw [E.out]; rfl, hb1⟩
  rcases hc : setsB m with _ | _
  · have E := hid (cheV_no (ls := rs) (m := m) (by simp [hc]))
    have HV := hid hv
    have HC := hid hc
    clear hv hc
    go_enter Try.func11, Try.ntmps11
    go_wp2_with fail
    with_reducible refine (validSettingLists_any A1 c1 rs _ h HN.out HL.out).mono ?_
    rintro e w1 ⟨he, hb1⟩
    rw [HV.out] at he
    subst he
    go_wp2_with fail
    with_reducible refine (iValidSettings_any A2 c2 m _ (h'.onT hb1) HM.out).mono ?_
    rintro e w2 ⟨he, hb2⟩
    rw [HC.out] at he
    subst he
    go_wp2
    go_ret
    exact ⟨by rw [E.out]; rfl, hb1.trans (hb2.mono hb1.size)⟩
  have E := hid (cheV_yes hv hc)
  have HV := hid hv
  have HC := hid hc
  have hl6 := (rowsB_iff.1 hv).1
  clear hv hc
  go_enter Try.func11, Try.ntmps11
  go_wp2_with fail
  with_reducible refine (validSettingLists_any A1 c1 rs _ h HN.out HL.out).mono ?_
  rintro e w1 ⟨he, hb1⟩
  rw [HV.out] at he
  subst he
  go_wp2_with fail
  with_reducible refine (iValidSettings_any A2 c2 m _ (h'.onT hb1) HM.out).mono ?_
  rintro e w2 ⟨he, hb2⟩
  rw [HC.out] at he
  subst he
  have hB2 := hb1.trans (hb2.mono hb1.size)
  clear hb1 hb2
  go_wp2
  go_loopw [5, 18] (fun v i wr => ∃ k : Nat, k ≤ rs.length ∧ i = .int .i64 k ∧ Own wr w.heap.size v ((chgsN rs m).take k) ∧ Below w.heap.size w wr) (fun _ i _ => rs.length - (intOf i).toNat)
  case atStart => exact ⟨0, Nat.zero_le _, rfl, Own.none_ _ _, hB2⟩
  case round =>
    clear hB2
    obtain ⟨k, hk, rfl, ho, hb⟩ := hrel
    by_cases hlt : k < rs.length
    · have hi : (k : Int) < (rs.length : Int) := by omega
      obtain ⟨b, o, rfl, hbl, e0, hs⟩ := (h.below hb).row hlt
      have hz := hb.size
      have hbw : b < wr.heap.size := by omega
      have hm := HL.out _ (List.getElem_mem hlt)
      have HT : Hid ((chgsN rs m).take (k + 1) = (chgsN rs m).take k ++ [((planL (rs[k]).l m).length : Int)]) := hid (by
        rw [List.take_succ_eq_append_getElem (by rw [chgs_len]; exact hlt)]
        congr 2
        unfold chgsN; simp)
      obtain ⟨x, hx⟩ : ∃ x, x = rs[k] := ⟨_, rfl⟩
      rw [← hx] at e0 hs hm HT
      clear hx
      have hrl : ((chgsN rs m).take k).length ≤ 6 := by rw [List.length_take, chgs_len]; omega
      obtain ⟨R, hR⟩ : ∃ R, R = (chgsN rs m).take k := ⟨_, rfl⟩
      rw [← hR] at HT ho hrl
      clear hR
      have hpl := planL_len x.l m
      go_wp2_with fail
      with_reducible refine (iResetPlan_any x.A A2 x.c c2 x.l m _ (hs.more hz) ((h'.below hb).more hz) hm HM.out).mono ?_
      rintro e w3 ⟨v3, rfl, ho3, hb3⟩
      obtain ⟨A3, c3, rfl, _, _, _⟩ := ho3.form
      have hbb := hb.trans (hb3.mono hz)
      have hoo := ho.below hb3
      obtain ⟨P, hP⟩ : ∃ P, P = (planL x.l m).length := ⟨_, rfl⟩
      rw [← hP] at HT hpl ⊢
      clear ho3 hb3 ho hb hP
      have hz3 := hbb.size
      go_wp2_with (at_builtin; refine wpList_append_own _ rfl _ _ 45 rfl w.heap.size 3 i0 (.int .i64 0) 1 8 Try.underlying45 hi0 hz0 hz1 hz2 rfl (by decide) _ _ _ rfl (hoo.alloc4 _).out ⟨w3.heap.size, 0, none⟩ 1 1 [.int .i64 (P : Int)] rfl rfl (by exact cells_new w3 [.int .i64 (P : Int)] _) ?c2 ?c3 ?c4 ?c5 ?_)
      case c2 => simp [Value.oneCell']
      case c3 => unfold maxLen; omega
      case c4 => omega
      case c5 => simp; omega
      case _ =>
        intro v1 w4 h1 hg1 _
        obtain ⟨ho1, hb1⟩ := hoo.snoc (x := (P : Int)) hbb (Nat.le_refl _) h1 hg1
        clear h1 hg1 hoo hbb
        go_wp2
        go_roundw
        case rel => exact ⟨k + 1, by omega, by go_num, by rw [HT.out]; exact ho1, hb1⟩
        case measure => simp [intOf]; omega
    · have hi : ¬ (k : Int) < (rs.length : Int) := by omega
      rw [take_whole (by rw [chgs_len]; exact hlt)] at ho
      obtain ⟨A3, c3, rfl, hs3⟩ := ho.form
      have HCL := hid (chgs_len rs m)
      have HQ : Hid ((chgsN rs m).length ≤ 4194304) := hid (by rw [chgs_len]; omega)
      rw [show rs.length = (chgsN rs m).length from (chgs_len rs m).symm] at E
      obtain ⟨Q, hQ⟩ : ∃ Q, Q = chgsN rs m := ⟨_, rfl⟩
      rw [← hQ] at hs3 HCL HQ E ⊢
      clear hQ ho
      go_wp2_with fail
      with_reducible refine (placeOfLeast_any A3 c3 Q _ hs3 HQ.out).mono ?_
      rintro e w5 ⟨he, hb5⟩
      subst he
      go_wp2
      go_ret
      exact ⟨by rw [E.out]; rfl, hb.trans (hb5.mono hb.size)⟩

/-! The least one so far, as the model keeps it. -/
def leastV (vs : List Int) (k : Nat) : Int := if lst vs k = -1 then 11 else vs.getD (lst vs k).toNat 0
theorem leastV_zero (vs : List Int) : leastV vs 0 = 11 := rfl
theorem leastV_take {vs : List Int} {k : Nat} (_h10 : vs.getD k 0 ≤ 10) (h : vs.getD k 0 < leastV vs k) : lst vs (k + 1) = k ∧ leastV vs (k + 1) = vs.getD k 0 := by
  have e : lst vs (k + 1) = k := by
    refine lst_take ?_
    unfold leastV at h
    split at h
    · rename_i h1; exact .inl h1
    · exact .inr h
  refine ⟨e, ?_⟩
  unfold leastV
  rw [e, if_neg (by omega), Int.toNat_natCast]
theorem leastV_keep {vs : List Int} {k : Nat} (h10 : vs.getD k 0 ≤ 10) (h : ¬ vs.getD k 0 < leastV vs k) : lst vs (k + 1) = lst vs k ∧ leastV vs (k + 1) = leastV vs k := by
  have e : lst vs (k + 1) = lst vs k := by
    refine lst_keep fun hh => h ?_
    unfold leastV
    split
    · omega
    · rename_i h1; exact hh.resolve_left h1
  refine ⟨e, ?_⟩
  unfold leastV
  rw [e]
set_option maxHeartbeats 4000000 in
theorem sCheapestReset_any (A1 A2 : Option Addr) (c1 c2 : Nat) (rs : List Rw) (m : List Stg) (w : World) (h : SeesR w w.heap.size A1 rs) (h' : Sees w w.heap.size A2 (strip stcl m)) (hn : rs.length ≤ 4194304) (hl : ∀ r ∈ rs, r.l.length ≤ 4194304) (hm : m.length ≤ 4194304) :
    Calls Try.prog 8 #[.slice A1 rs.length c1, .slice A2 m.length c2] w fun e w' => e = .returned (.int .i64 (cheV rs m)) ∧ Below w.heap.size w w' := by
  have HN := hid hn
  have HL := hid hl
  have HM := hid hm
  clear hn hl hm
  by_cases h6 : rs.length ≤ 6
  case neg =>
    have h6' : (rs.length : Int) > 6 := by omega
    have E := hid (cheV_no (ls := rs) (m := m) (by simp [rows_long h6]))
    clear h6
    go_enter Try.func8, Try.ntmps8
    go_wp2
    go_ret
    exact ⟨by rw [E.out]; rfl, Below.refl _ _⟩
  have h6' : ¬ (rs.length : Int) > 6 := by omega
  rcases hc : setsB m with _ | _
  · have E := hid (cheV_no (ls := rs) (m := m) (by simp [hc]))
    have HC := hid hc
    clear hc
    go_enter Try.func8, Try.ntmps8
    go_wp2_with fail
    with_reducible refine (svalidSettings_any A2 c2 m _ h' HM.out).mono ?_
    rintro e w2 ⟨he, hb2⟩
    rw [HC.out] at he
    subst he
    go_wp2
    go_ret
    exact ⟨by rw [E.out]; rfl, hb2⟩
  have HC := hid hc
  have H6 := hid h6
  clear hc h6
  go_enter Try.func8, Try.ntmps8
  go_wp2_with fail
  with_reducible refine (svalidSettings_any A2 c2 m _ h' HM.out).mono ?_
  rintro e w2 ⟨he, hB2⟩
  rw [HC.out] at he
  subst he
  go_wp2
  go_loopw [5, 6, 7] (fun v u i wr => ∃ k : Nat, k ≤ rs.length ∧ v = .int .i64 (lst (chgsN rs m) k) ∧ u = .int .i64 (leastV (chgsN rs m) k) ∧ i = .int .i64 k ∧ Hid (Rk rs k) ∧ Below w.heap.size w wr) (fun _ _ i _ => rs.length - (intOf i).toNat)
  case atStart => exact ⟨0, Nat.zero_le _, rfl, rfl, rfl, hid (rk_zero rs), hB2⟩
  case round =>
    clear hB2
    obtain ⟨k, hk, rfl, rfl, rfl, HF, hb⟩ := hrel
    have h6 := H6.out
    by_cases hlt : k < rs.length
    · have hi : (k : Int) < (rs.length : Int) := by omega
      obtain ⟨b, o, rfl, hbl, e0, hs⟩ := (h.below hb).row hlt
      have hz := hb.size
      have hbw : b < wr.heap.size := by omega
      have hm := HL.out _ (List.getElem_mem hlt)
      have HS := hid (fun hh => rk_succ HF.out hlt hh)
      have HNO := hid (fun hh => rows_not (ls := rs) hlt hh)
      have HAT := hid (chgs_at (m := m) hlt)
      obtain ⟨x, hx⟩ : ∃ x, x = rs[k] := ⟨_, rfl⟩
      rw [← hx] at e0 hs hm HS HNO HAT
      clear hx
      rcases hv : setsB x.l with _ | _
      · have HV := hid hv
        have HX := hid (cheV_no (ls := rs) (m := m) (by simp [HNO.out hv]))
        clear hv
        go_wp2_with fail
        with_reducible refine (svalidSettings_any x.A x.c x.l _ (hs.more hz) hm).mono ?_
        rintro e w1 ⟨he, hb1⟩
        rw [HV.out] at he
        subst he
        go_wp2
        go_ret
        exact ⟨by rw [HX.out]; rfl, hb.trans (hb1.mono hz)⟩
      have HV := hid hv
      have HX := hid (HS.out hv)
      have hpl := planL_len x.l m
      have HTK := hid (fun h1 h2 => leastV_take (vs := chgsN rs m) (k := k) h1 h2)
      have HKP := hid (fun h1 h2 => leastV_keep (vs := chgsN rs m) (k := k) h1 h2)
      clear hv
      obtain ⟨P, hP⟩ : ∃ P, P = (planL x.l m).length := ⟨_, rfl⟩
      rw [← hP] at HAT hpl
      have HP := hid hP
      clear hP
      obtain ⟨V, hV⟩ : ∃ V, V = lst (chgsN rs m) k := ⟨_, rfl⟩
      obtain ⟨U, hU⟩ : ∃ U, U = leastV (chgsN rs m) k := ⟨_, rfl⟩
      rw [← hV, ← hU] at HKP
      rw [← hU] at HTK
      simp only [← hV, ← hU]
      clear hV hU
      go_wp2_with fail
      with_reducible refine (svalidSettings_any x.A x.c x.l _ (hs.more hz) hm).mono ?_
      rintro e w1 ⟨he, hb1⟩
      rw [HV.out] at he
      subst he
      have hs1 := hs.below (hb1.mono hz)
      have ha1 := (h.below hb).1.below (hb1.mono hz)
      have hb1' := hb.trans (hb1.mono hz)
      have e1 := ((below_cell hb1).1 b (o + k) hbw).trans e0
      have hz1 := hb1'.size
      have hbw1 : b < w1.heap.size := by omega
      clear hb1 e0
      go_wp2_with fail
      with_reducible refine (sResetPlan_any x.A A2 x.c c2 x.l m _ (hs1.more hz1) ((h'.below hb1').more hz1) hm HM.out).mono ?_
      rintro e w3 ⟨v3, rfl, ho3, hb3⟩
      obtain ⟨A3, c3, rfl, _, _, _⟩ := ho3.form
      have hbb := hb1'.trans (hb3.mono hz1)
      rw [← HP.out]
      clear ho3 hb3 hb1' hb
      by_cases hlu : (P : Int) < U
      · have HX2 := hid (HTK.out (by rw [HAT.out]; omega) (by rw [HAT.out]; exact hlu))
        go_wp2
        go_roundw
        case rel => exact ⟨k + 1, by omega, by rw [HX2.out.1], by rw [HX2.out.2, HAT.out], by go_num, HX, hbb⟩
        case measure => simp [intOf]; omega
      · have HX2 := hid (HKP.out (by rw [HAT.out]; omega) (by rw [HAT.out]; omega))
        go_wp2
        go_roundw
        case rel => exact ⟨k + 1, by omega, by rw [HX2.out.1], by rw [HX2.out.2], by go_num, HX, hbb⟩
        case measure => simp [intOf]; omega
    · have hi : ¬ (k : Int) < (rs.length : Int) := by omega
      have hkl : k = rs.length := by omega
      have HX := hid (cheV_yes (rk_all HF.out hlt H6.out) HC.out)
      subst hkl
      go_wp2
      go_ret
      exact ⟨by rw [HX.out]; rfl, hb⟩

end Go.Proofs.Ytfnjphhanehoeaa

/-
  Lists of caches in memory; what BestCache answers, the program's and the model's. Condition: the lists lie in memory.
-/
import Derived.Test.YtfophplmdljhbaaCaF
namespace Go.Proofs.Ytfophplmdljhbaa
open Go.RowKit Cac Lea

/-- A cache as it lies in a list: where its names begin, what room they have. -/
structure Rc where
  A : Option Addr
  c : Nat
  m : Cch
def rccl (r : Rc) : List Value := [.int .i64 r.m.r, .slice r.A r.m.n.length r.c]
theorem rccl_ln : ∀ r, (rccl r).length = 2 := fun _ => rfl
def SeesC (w : World) (B : Nat) (A : Option Addr) (rs : List Rc) : Prop := Sees w B A (strip rccl rs) ∧ ∀ r ∈ rs, Sees w B r.A (ints r.m.n) ∧ r.m.n.length ≤ r.c
section
variable {w w' : World} {B B' : Nat} {A : Option Addr} {rs : List Rc}
theorem SeesC.below (h : SeesC w B A rs) (hb : Below B w w') : SeesC w' B A rs := ⟨h.1.below hb, fun r hr => ⟨(h.2 r hr).1.below hb, (h.2 r hr).2⟩⟩
theorem SeesC.more (h : SeesC w B A rs) (hB : B ≤ B') : SeesC w B' A rs := ⟨h.1.more hB, fun r hr => ⟨(h.2 r hr).1.more hB, (h.2 r hr).2⟩⟩
theorem SeesC.onT (h : SeesC w w.heap.size A rs) (hb : Below w.heap.size w w') : SeesC w' w'.heap.size A rs := (h.below hb).more hb.size
theorem SeesC.row (h : SeesC w B A rs) {k : Nat} (hk : k < rs.length) : ∃ b o, A = some ⟨b, o, none⟩ ∧ b < B ∧ w.cell? ⟨b, o + k * 2, none⟩ = some (.int .i64 rs[k].m.r) ∧ w.cell? ⟨b, o + k * 2 + 1, none⟩ = some (.slice rs[k].A rs[k].m.n.length rs[k].c) ∧ Sees w B rs[k].A (ints rs[k].m.n) ∧ rs[k].m.n.length ≤ rs[k].c := by
  obtain ⟨b, o, e, hb, hc⟩ := Sees.elem (f := rccl) (s := 2) rccl_ln (by decide) h.1 hk
  obtain ⟨h2, h3⟩ := h.2 _ (List.getElem_mem hk)
  exact ⟨b, o, e, hb, by simpa using hc 0 _ rfl, by simpa [Nat.add_assoc] using hc 1 _ rfl, h2, h3⟩
end
/-! The caches' values. -/
def chs (rs : List Rc) : List Cch := rs.map Rc.m
theorem chs_len (rs : List Rc) : (chs rs).length = rs.length := by unfold chs; simp
theorem chs_at {rs : List Rc} {k : Nat} (hk : k < rs.length) : (chs rs)[k]'(by rw [chs_len]; exact hk) = rs[k].m := by unfold chs; simp
def ccB (rs : List Rc) : Bool := decide (rs.length ≤ 6 ∧ ∀ r ∈ rs, cacheB r.m = true)
theorem ccB_iff {rs : List Rc} : ccB rs = true ↔ rs.length ≤ 6 ∧ ∀ r ∈ rs, cacheB r.m = true := by unfold ccB; simp
def besV (rs : List Rc) (l : List Int) : Int := bestV (chs rs) l
theorem besV_yes {rs : List Rc} {l : List Int} (h : ccB rs = true) (h2 : namesB l = true) (h3 : l.Nodup) : besV rs l = lst (misses (chs rs) l) rs.length := by
  obtain ⟨h0, h1⟩ := ccB_iff.1 h
  unfold besV
  rw [bestV_yes (bestB_iff.2 ⟨by rw [chs_len]; exact h0, fun c hc => ?_, h2, h3⟩), chs_len]
  obtain ⟨r, hr, rfl⟩ := List.mem_map.1 hc
  exact h1 r hr
theorem besV_no {rs : List Rc} {l : List Int} (h : ¬ (ccB rs = true ∧ namesB l = true ∧ l.Nodup)) : besV rs l = -1 := by
  refine bestV_no fun hh => h ⟨ccB_iff.2 ⟨by rw [← chs_len]; exact hh.1, fun r hr => hh.2.1 _ (List.mem_map_of_mem hr)⟩, hh.2.2⟩
theorem missr_at {rs : List Rc} {l : List Int} {k : Nat} (hk : k < rs.length) : (misses (chs rs) l).getD k 0 = (miss l rs[k].m.n : Int) := by
  rw [misses_at (by rw [chs_len]; exact hk), chs_at hk]
theorem missr_len (rs : List Rc) (l : List Int) : (misses (chs rs) l).length = rs.length := by rw [misses_len, chs_len]
def Ck (rs : List Rc) (k : Nat) : Prop := ∀ r ∈ rs.take k, cacheB r.m = true
theorem ck_zero (rs : List Rc) : Ck rs 0 := by unfold Ck; simp
theorem ck_succ {rs : List Rc} {k : Nat} (h : Ck rs k) (hk : k < rs.length) (h1 : cacheB (rs[k]).m = true) : Ck rs (k + 1) := by
  intro r hr
  rw [List.take_succ_eq_append_getElem hk, List.mem_append, List.mem_singleton] at hr
  rcases hr with hr | rfl
  · exact h r hr
  · exact h1
theorem ck_all {rs : List Rc} {k : Nat} (h : Ck rs k) (hk : ¬ k < rs.length) (h6 : rs.length ≤ 6) : ccB rs = true := by
  unfold Ck at h
  rw [List.take_of_length_le (by omega)] at h
  exact ccB_iff.2 ⟨h6, h⟩
theorem cc_not {rs : List Rc} {k : Nat} (hk : k < rs.length) (h : cacheB (rs[k]).m = false) : ccB rs = false := Bool.eq_false_iff.2 fun e => by
  have := (ccB_iff.1 e).2 _ (List.getElem_mem hk)
  rw [h] at this; cases this
theorem cc_long {rs : List Rc} (h : ¬ rs.length ≤ 6) : ccB rs = false := Bool.eq_false_iff.2 fun e => h (ccB_iff.1 e).1

set_option maxHeartbeats 2000000 in
theorem placeOfLeast_any (A : Option Addr) (c : Nat) (l : List Int) (w : World) (h : Sees w w.heap.size A (ints l)) (hn : l.length ≤ 4194304) :
    Calls Try.prog 25 #[.slice A l.length c] w fun e w' => e = .returned (.int .i64 (lst l l.length)) ∧ Below w.heap.size w w' := by
  have HN := hid hn; clear hn
  go_enter Try.func25, Try.ntmps25
  go_wp2
  go_loopw [3, 8] (fun v i wr => ∃ k : Nat, k ≤ l.length ∧ v = .int .i64 (lst l k) ∧ i = .int .i64 k ∧ Below w.heap.size w wr) (fun _ i _ => l.length - (intOf i).toNat)
  case atStart => exact ⟨0, Nat.zero_le _, rfl, rfl, Below.refl _ _⟩
  case round =>
    obtain ⟨k, hk, rfl, rfl, hb⟩ := hrel
    have hn := HN.out
    by_cases hlt : k < l.length
    · have hi : (k : Int) < (l.length : Int) := by omega
      obtain ⟨b, o, rfl, hbl, e0⟩ := (h.below hb).int hlt
      have hz := hb.size
      have hbw : b < wr.heap.size := by omega
      have HTK := hid (fun hh => lst_take (vs := l) (k := k) hh)
      have HKP := hid (fun hh => lst_keep (vs := l) (k := k) hh)
      have HRG := hid (lst_range l k)
      have HGK := hid (show l.getD k 0 = l[k] by simp [List.getD_eq_getElem?_getD, hlt])
      obtain ⟨x, hx⟩ : ∃ x, x = l[k] := ⟨_, rfl⟩
      rw [← hx] at e0 HGK
      clear hx
      obtain ⟨m, hm⟩ : ∃ m, m = lst l k := ⟨_, rfl⟩
      rw [← hm] at HTK HKP HRG ⊢
      by_cases hm1 : m = -1
      · have HX := hid (HTK.out (.inl hm1))
        clear hm
        subst hm1
        go_wp2
        go_roundw
        case rel => exact ⟨k + 1, by omega, by rw [HX.out], by go_num, hb⟩
        case measure => simp [intOf]; omega
      · have hk0 : 0 < k := by
          rcases Nat.eq_zero_or_pos k with e | e
          · subst e; rw [hm] at hm1; exact absurd rfl hm1
          · exact e
        have hmr := HRG.out hk0
        obtain ⟨j, hj⟩ : ∃ j : Nat, m = j := ⟨m.toNat, by omega⟩
        have hjl : j < l.length := by omega
        obtain ⟨b', o', e', _, f0⟩ := (h.below hb).int hjl
        obtain ⟨rfl, rfl⟩ : b = b' ∧ o = o' := by injection e' with e'; injection e' with a b; exact ⟨a, b⟩
        have HGJ := hid (show l.getD j 0 = l[j] by simp [List.getD_eq_getElem?_getD, hjl])
        obtain ⟨y, hy⟩ : ∃ y, y = l[j] := ⟨_, rfl⟩
        rw [← hy] at f0 HGJ
        have hm1' : ((j : Int) == -1) = false := beq_eq_false_iff_ne.2 (by omega)
        have hj0 : (0 : Int) ≤ (j : Int) := by omega
        have hjli : (j : Int) < (l.length : Int) := by omega
        clear hm e' hy
        subst hj
        have HM1 := hid hm1
        clear hm1
        by_cases hxy : x < y
        · have HX := hid (HTK.out (.inr (by rw [HGK.out, Int.toNat_natCast, HGJ.out]; exact hxy)))
          go_wp2
          go_roundw
          case rel => exact ⟨k + 1, by omega, by rw [HX.out], by go_num, hb⟩
          case measure => simp [intOf]; omega
        · have HX := hid (HKP.out (fun hh => hh.elim (fun e => HM1.out e) (fun e => hxy (by rw [HGK.out, Int.toNat_natCast, HGJ.out] at e; exact e))))
          go_wp2
          go_roundw
          case rel => exact ⟨k + 1, by omega, by rw [HX.out], by go_num, hb⟩
          case measure => simp [intOf]; omega
    · have hi : ¬ (k : Int) < (l.length : Int) := by omega
      have hkl : k = l.length := by omega
      subst hkl
      go_wp2
      go_ret
      exact ⟨rfl, hb⟩

set_option maxHeartbeats 2000000 in
theorem countMissing_any (A B : Option Addr) (c d : Nat) (l m : List Int) (w : World) (h : Sees w w.heap.size A (ints l)) (h' : Sees w w.heap.size B (ints m)) (hn : l.length ≤ 4194304) (hm : m.length ≤ 4194304) :
    Calls Try.prog 24 #[.slice A l.length c, .slice B m.length d] w fun e w' => e = .returned (.int .i64 (miss l m : Nat)) ∧ w = w' := by
  have HN := hid hn
  have HM := hid (Nat.le_trans hm (by decide : 4194304 ≤ 4611686018427387904))
  clear hn hm
  go_enter Try.func24, Try.ntmps24
  go_wp2
  go_loopw [5, 10] (fun v i wr => ∃ k : Nat, k ≤ l.length ∧ v = .int .i64 (miss (l.take k) m : Nat) ∧ i = .int .i64 k ∧ wr = w) (fun _ i _ => l.length - (intOf i).toNat)
  case atStart => exact ⟨0, Nat.zero_le _, rfl, rfl, rfl⟩
  case round =>
    obtain ⟨k, hk, rfl, rfl, rfl⟩ := hrel
    have hn := HN.out
    by_cases hlt : k < l.length
    · have hi : (k : Int) < (l.length : Int) := by omega
      obtain ⟨b, o, rfl, hbl, e0⟩ := h.int hlt
      have HS := hid (miss_succ (m := m) hlt)
      have hle := miss_le (l.take k) m
      rw [List.length_take] at hle
      obtain ⟨x, hx⟩ : ∃ x, x = l[k] := ⟨_, rfl⟩
      rw [← hx] at e0 HS
      clear hx
      obtain ⟨Q, hQ⟩ : ∃ Q, Q = miss (l.take k) m := ⟨_, rfl⟩
      rw [← hQ] at HS hle
      simp only [← hQ]
      clear hQ
      rcases hp : (Line.place m x == -1) with _ | _
      · have HQ : Hid (miss (l.take (k + 1)) m = Q) := hid (by
          rw [HS.out, if_pos (by rw [← place_in]; simpa using hp), Nat.add_zero])
        go_wp2_with fail
        with_reducible refine (placeOf_any B d m x _ h' HM.out).mono ?_
        rintro e w' ⟨rfl, rfl⟩
        go_wp2
        go_roundw
        case rel => exact ⟨k + 1, by omega, by rw [HQ.out], by go_num, by trivial⟩
        case measure => simp [intOf]; omega
      · have HQ : Hid (miss (l.take (k + 1)) m = Q + 1) := hid (by
          rw [HS.out, if_neg (by rw [← place_in]; simpa using hp)])
        go_wp2_with fail
        with_reducible refine (placeOf_any B d m x _ h' HM.out).mono ?_
        rintro e w' ⟨rfl, rfl⟩
        go_wp2
        go_roundw
        case rel => exact ⟨k + 1, by omega, by rw [HQ.out]; go_num, by go_num, by trivial⟩
        case measure => simp [intOf]; omega
    · have hi : ¬ (k : Int) < (l.length : Int) := by omega
      have HT := hid (show l.take k = l from List.take_of_length_le (by omega))
      rw [HT.out]
      go_wp2
      go_ret
      exact ⟨rfl, rfl⟩

set_option maxHeartbeats 2000000 in
theorem validCaches_any (A : Option Addr) (c : Nat) (rs : List Rc) (w : World) (h : SeesC w w.heap.size A rs) (hn : rs.length ≤ 4194304) (hm : ∀ r ∈ rs, r.m.n.length ≤ 4194304) :
    Calls Try.prog 21 #[.slice A rs.length c] w fun e w' => e = .returned (.bool (ccB rs)) ∧ Below w.heap.size w w' := by
  have HN := hid hn
  have HM := hid hm
  clear hn hm
  by_cases h6 : rs.length ≤ 6
  · have h6' : ¬ (rs.length : Int) > 6 := by omega
    have H6 := hid h6
    clear h6
    go_enter Try.func21, Try.ntmps21
    go_wp2
    go_loopw [10] (fun i wr => ∃ k : Nat, k ≤ rs.length ∧ i = .int .i64 k ∧ Hid (Ck rs k) ∧ Below w.heap.size w wr) (fun i _ => rs.length - (intOf i).toNat)
    case atStart => exact ⟨0, Nat.zero_le _, rfl, hid (ck_zero rs), Below.refl _ _⟩
    case round =>
      obtain ⟨k, hk, rfl, HF, hb⟩ := hrel
      have hn := HN.out
      by_cases hlt : k < rs.length
      · have hi : (k : Int) < (rs.length : Int) := by omega
        obtain ⟨b, o, rfl, hbl, e0, e1, hs, hcp⟩ := (h.below hb).row hlt
        have hz := hb.size
        have hbw : b < wr.heap.size := by omega
        have HS := hid (fun hh => ck_succ HF.out hlt hh)
        have HNO := hid (fun hh => cc_not (rs := rs) hlt hh)
        have hm := HM.out _ (List.getElem_mem hlt)
        obtain ⟨x, hx⟩ : ∃ x, x = rs[k] := ⟨_, rfl⟩
        rw [← hx] at e0 e1 hs HS HNO hm hcp
        clear hx
        have hs2 : SeesN (wr.alloc (.cells #[.int .i64 x.m.r, .slice x.A x.m.n.length x.c] 37)) (wr.alloc (.cells #[.int .i64 x.m.r, .slice x.A x.m.n.length x.c] 37)).heap.size x.A x.m := SeesN.alloc (hs.more hz) _
        have hba := hb.alloc hz (.cells #[.int .i64 x.m.r, .slice x.A x.m.n.length x.c] 37)
        rcases hv : cacheB x.m with _ | _
        · have HV := hid hv
          have HX := hid (HNO.out hv)
          clear hv
          go_wp2_with fail
          with_reducible refine (iValidCache_any x.m x.A x.c _ hs2 hcp hm).mono ?_
          rintro e w1 ⟨he, hb1⟩
          rw [HV.out] at he
          subst he
          go_wp2
          go_ret
          exact ⟨ret_bool HX.out.symm, hba.trans (hb1.mono hba.size)⟩
        · have HV := hid hv
          have HX := hid (HS.out hv)
          clear hv
          go_wp2_with fail
          with_reducible refine (iValidCache_any x.m x.A x.c _ hs2 hcp hm).mono ?_
          rintro e w1 ⟨he, hb1⟩
          rw [HV.out] at he
          subst he
          have hbb := hba.trans (hb1.mono hba.size)
          go_wp2
          go_roundw
          case rel => exact ⟨k + 1, by omega, by go_num, HX, hbb⟩
          case measure => simp [intOf]; omega
      · have hi : ¬ (k : Int) < (rs.length : Int) := by omega
        have HX := hid (ck_all HF.out hlt H6.out)
        go_wp2
        go_ret
        exact ⟨ret_bool HX.out.symm, hb⟩
  · have h6' : (rs.length : Int) > 6 := by omega
    have HX := hid (cc_long h6)
    clear h6
    go_enter Try.func21, Try.ntmps21
    go_wp2
    go_ret
    exact ⟨ret_bool HX.out.symm, Below.refl _ _⟩

set_option maxHeartbeats 4000000 in
theorem iBestCache_any (A1 A2 : Option Addr) (c1 c2 : Nat) (rs : List Rc) (l : List Int) (w : World) (h : SeesC w w.heap.size A1 rs) (h' : Sees w w.heap.size A2 (ints l)) (hc2 : l.length ≤ c2) (hn : rs.length ≤ 4194304) (hl : ∀ r ∈ rs, r.m.n.length ≤ 4194304) (hm : l.length ≤ 4194304) :
    Calls Try.prog 10 #[.slice A1 rs.length c1, .slice A2 l.length c2] w fun e w' => e = .returned (.int .i64 (besV rs l)) ∧ Below w.heap.size w w' := by
  obtain ⟨i0, hi0, hz0, hz1, hz2⟩ := info_parts intInfo
  have HN := hid hn
  have HL := hid hl
  have HM := hid hm
  have HC2 := hid hc2
  clear hn hl hm hc2
  rcases hv : ccB rs with _ | _
  · have E := hid (besV_no (rs := rs) (l := l) (by simp [hv]))
    have HV := hid hv
    clear hv
    go_enter Try.func10, Try.ntmps10
    go_wp2_with fail
    with_reducible refine (validCaches_any A1 c1 rs _ h HN.out HL.out).mono ?_
    rintro e w1 ⟨he, hb1⟩
    rw [HV.out] at he
    subst he
    go_wp2
    go_ret
    exact ⟨by rw [E.out]; rfl, hb1⟩
  rcases hc : namesB l with _ | _
  · have E := hid (besV_no (rs := rs) (l := l) (by simp [hc]))
    have HV := hid hv
    have HC := hid hc
    clear hv hc
    go_enter Try.func10, Try.ntmps10
    go_wp2_with fail
    with_reducible refine (validCaches_any A1 c1 rs _ h HN.out HL.out).mono ?_
    rintro e w1 ⟨he, hb1⟩
    rw [HV.out] at he
    subst he
    go_wp2_with fail
    with_reducible refine (validNames_any A2 c2 l _ (h'.on4 hb1) HM.out).mono ?_
    rintro e w2 ⟨he, rfl⟩
    rw [HC.out] at he
    subst he
    go_wp2
    go_ret
    exact ⟨by rw [E.out]; rfl, hb1⟩
  rcases hd : decide l.Nodup with _ | _
  · have E := hid (besV_no (rs := rs) (l := l) (fun hh => by rw [decide_eq_true hh.2.2] at hd; cases hd))
    have HV := hid hv
    have HC := hid hc
    have HD := hid hd
    clear hv hc hd
    go_enter Try.func10, Try.ntmps10
    go_wp2_with fail
    with_reducible refine (validCaches_any A1 c1 rs _ h HN.out HL.out).mono ?_
    rintro e w1 ⟨he, hb1⟩
    rw [HV.out] at he
    subst he
    go_wp2_with fail
    with_reducible refine (validNames_any A2 c2 l _ (h'.on4 hb1) HM.out).mono ?_
    rintro e w2 ⟨he, rfl⟩
    rw [HC.out] at he
    subst he
    go_wp2_with fail
    with_reducible refine (allDifferent_any A2 c2 l _ (h'.on4 hb1) HC2.out HM.out).mono ?_
    rintro e w2 ⟨he, rfl⟩
    rw [HD.out] at he
    subst he
    go_wp2
    go_ret
    exact ⟨by rw [E.out]; rfl, hb1⟩
  have E := hid (besV_yes hv hc (of_decide_eq_true hd))
  have HV := hid hv
  have HC := hid hc
  have HD := hid hd
  have hl6 := (ccB_iff.1 hv).1
  clear hv hc hd
  go_enter Try.func10, Try.ntmps10
  go_wp2_with fail
  with_reducible refine (validCaches_any A1 c1 rs _ h HN.out HL.out).mono ?_
  rintro e w1 ⟨he, hb1⟩
  rw [HV.out] at he
  subst he
  go_wp2_with fail
  with_reducible refine (validNames_any A2 c2 l _ (h'.on4 hb1) HM.out).mono ?_
  rintro e w2 ⟨he, rfl⟩
  rw [HC.out] at he
  subst he
  go_wp2_with fail
  with_reducible refine (allDifferent_any A2 c2 l _ (h'.on4 hb1) HC2.out HM.out).mono ?_
  rintro e w2 ⟨he, rfl⟩
  rw [HD.out] at he
  subst he
  go_wp2
  go_loopw [5, 23] (fun v i wr => ∃ k : Nat, k ≤ rs.length ∧ i = .int .i64 k ∧ Own wr w.heap.size v ((misses (chs rs) l).take k) ∧ Below w.heap.size w wr) (fun _ i _ => rs.length - (intOf i).toNat)
  case atStart => exact ⟨0, Nat.zero_le _, rfl, Own.none_ _ _, hb1⟩
  case round =>
    clear hb1
    obtain ⟨k, hk, rfl, ho, hb⟩ := hrel
    by_cases hlt : k < rs.length
    · have hi : (k : Int) < (rs.length : Int) := by omega
      obtain ⟨b, o, rfl, hbl, e0, e1, hs, hcp⟩ := (h.below hb).row hlt
      have hz := hb.size
      have hbw : b < wr.heap.size := by omega
      have hm := HL.out _ (List.getElem_mem hlt)
      have HT : Hid ((misses (chs rs) l).take (k + 1) = (misses (chs rs) l).take k ++ [(miss l rs[k].m.n : Int)]) := hid (by
        rw [List.take_succ_eq_append_getElem (by rw [missr_len]; exact hlt)]
        congr 2
        unfold misses chs; simp)
      obtain ⟨x, hx⟩ : ∃ x, x = rs[k] := ⟨_, rfl⟩
      rw [← hx] at e0 e1 hs hm HT
      clear hx hcp
      have hrl : ((misses (chs rs) l).take k).length ≤ 6 := by rw [List.length_take, missr_len]; omega
      obtain ⟨R, hR⟩ : ∃ R, R = (misses (chs rs) l).take k := ⟨_, rfl⟩
      rw [← hR] at HT ho hrl
      clear hR
      have hba := hb.alloc hz (.cells #[.int .i64 x.m.r, .slice x.A x.m.n.length x.c] 37)
      have hs2 := (hs.more hz).alloc (Nat.le_refl _) (.cells #[.int .i64 x.m.r, .slice x.A x.m.n.length x.c] 37)
      have hoo := ho.below ((Below.refl wr.heap.size wr).alloc (Nat.le_refl _) (.cells #[.int .i64 x.m.r, .slice x.A x.m.n.length x.c] 37))
      have hz3 := hba.size
      obtain ⟨p0, p1, pl, pf⟩ := (At.new wr 37 #[.int .i64 x.m.r, .slice x.A x.m.n.length x.c]).two
      go_wp2_with fail
      refine (countMissing_any A2 x.A c2 x.c l x.m.n _ (h'.on4 hba) (hs2.more (by simp)) HM.out hm).mono ?_
      rintro e w3 ⟨rfl, rfl⟩
      obtain ⟨P, hP⟩ : ∃ P, P = miss l x.m.n := ⟨_, rfl⟩
      rw [← hP] at HT ⊢
      obtain ⟨w3, hw3⟩ : ∃ w3, w3 = wr.alloc (.cells #[.int .i64 x.m.r, .slice x.A x.m.n.length x.c] 37) := ⟨_, rfl⟩
      rw [← hw3] at hba hoo hz3 ⊢
      clear ho hb hP hs2 hw3 p0 p1 pl pf e0 e1
      go_wp2_with (at_builtin; refine wpList_append_own _ rfl _ _ 23 rfl w.heap.size 3 i0 (.int .i64 0) 1 8 Try.underlying23 hi0 hz0 hz1 hz2 rfl (by decide) _ _ _ rfl (hoo.alloc4 _).out ⟨w3.heap.size, 0, none⟩ 1 1 [.int .i64 (P : Int)] rfl rfl (by exact cells_new w3 [.int .i64 (P : Int)] _) ?c2 ?c3 ?c4 ?c5 ?_)
      case c2 => simp [Value.oneCell']
      case c3 => unfold maxLen; omega
      case c4 => omega
      case c5 => simp; omega
      case _ =>
        intro v1 w4 h1 hg1 _
        obtain ⟨ho1, hb1⟩ := hoo.snoc (x := (P : Int)) hba (Nat.le_refl _) h1 hg1
        clear h1 hg1 hoo hba
        go_wp2
        go_roundw
        case rel => exact ⟨k + 1, by omega, by go_num, by rw [HT.out]; exact ho1, hb1⟩
        case measure => simp [intOf]; omega
    · have hi : ¬ (k : Int) < (rs.length : Int) := by omega
      rw [take_whole (by rw [missr_len]; exact hlt)] at ho
      obtain ⟨A3, c3, rfl, hs3⟩ := ho.form
      have HQ : Hid ((misses (chs rs) l).length ≤ 4194304) := hid (by rw [missr_len]; omega)
      rw [show rs.length = (misses (chs rs) l).length from (missr_len rs l).symm] at E
      obtain ⟨Q, hQ⟩ : ∃ Q, Q = misses (chs rs) l := ⟨_, rfl⟩
      rw [← hQ] at hs3 HQ E ⊢
      clear hQ ho
      go_wp2_with fail
      with_reducible refine (placeOfLeast_any A3 c3 Q _ hs3 HQ.out).mono ?_
      rintro e w5 ⟨he, hb5⟩
      subst he
      go_wp2
      go_ret
      exact ⟨by rw [E.out]; rfl, hb.trans (hb5.mono hb.size)⟩

end Go.Proofs.Ytfophplmdljhbaa

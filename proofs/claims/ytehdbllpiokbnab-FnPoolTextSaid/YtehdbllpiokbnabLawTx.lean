/-
  Words for the walks of the drawn laws on texts of pools: signs are counted; a text that is written is read again. No condition.
-/
import Derived.Test.YtehdbllpiokbnabLawPl0
import Derived.Test.YtehdbllpiokbnabTa
import Derived.Test.YtehdbllpiokbnabTxtT

namespace Go.Proofs.Ytehdbllpiokbnab
open Go.RowKit Txt Pol

theorem fmt_poT {p : Pl} (h : okB p = true) : fmtP p = poT p := fmtP_yes h
theorem fmt_ok {p : Pl} (h : fmtP p ≠ []) : okB p = true := by
  rcases hk : okB p with _ | _
  · exact absurd (fmtP_no hk) h
  · rfl
theorem fmt_back {p : Pl} (h : fmtP p ≠ []) : prsP (fmtP p) = p ∧ prsB (fmtP p) = true := by
  have hk := fmt_ok h
  rw [fmt_poT hk]
  exact ⟨prsP_poT (okB_iff.1 hk), prsB_poT (okB_iff.1 hk)⟩
theorem fmt_fore {S : List UInt8} (h : prsB S = true) : fmtP (prsP S) = S ∧ okB (prsP S) = true := by
  obtain ⟨e, hk⟩ := poT_prsP h
  exact ⟨by rw [fmt_poT (okB_iff.2 hk), e], okB_iff.2 hk⟩
theorem fmt_max {p : Pl} (h : okB p = true) : ∃ (d : UInt8) (R : List UInt8), fmtP p = d :: 32 :: R ∧ fmtP ⟨p.mx, [], [], []⟩ = [d, 32, 124, 124] := by
  have hok := okB_iff.1 h
  have hm := hok.1
  have hd : dec p.mx.toNat = [UInt8.ofNat (48 + p.mx.toNat)] := dec_lt (by omega)
  refine ⟨UInt8.ofNat (48 + p.mx.toNat), nums p.idle ++ [124] ++ hols p.held ++ [124] ++ nums p.wait, by rw [fmtP_yes h, hd]; simp only [List.append_assoc, List.cons_append, List.nil_append], ?_⟩
  rw [fmtP_yes (ok_bare hok), hd]
  rfl
theorem prsP_sm (S : List UInt8) : (prsP S).idle.length ≤ 6 ∧ (prsP S).held.length ≤ 6 ∧ (prsP S).wait.length ≤ 12 := by
  rcases h : prsB S with _ | _
  · rw [prsP_no h]; exact ⟨Nat.zero_le _, Nat.zero_le _, Nat.zero_le _⟩
  · exact (poT_prsP h).2.small
theorem cnt_free {c : UInt8} {l : List UInt8} (h : c ∉ l) : l.count c = 0 := List.count_eq_zero.2 h
theorem cnt_jn {c : UInt8} (hc : c ≠ 44) {m : Nat} {ls : List (List UInt8)} (h : ∀ t ∈ ls, t.count c = m) : ∀ k, k ≤ ls.length → (jn ls k).count c = m * k
  | 0, _ => by simp [jn]
  | k + 1, hk => by
    have ih := cnt_jn hc h k (by omega)
    have hg : (ls.getD k []).count c = m := by
      rw [List.getD_eq_getElem?_getD, List.getElem?_eq_getElem (by omega)]
      exact h _ (List.getElem_mem (by omega))
    have h44 : ([44] : List UInt8).count c = 0 := cnt_free (by simpa using hc)
    by_cases h0 : k = 0
    · subst h0; rw [jn_one, hg]; omega
    · rw [jn_succ _ h0, List.count_append, List.count_append, ih, h44, hg, Nat.mul_succ]; omega
theorem cnt_nums {c : UInt8} (hc : ¬ Dig c) (h : c ≠ 44) (l : List Int) : (nums l).count c = 0 := by
  have := cnt_jn h (m := 0) (ls := numTs l) (fun t ht => by obtain ⟨x, _, rfl⟩ := List.mem_map.1 ht; exact cnt_free (dec_free hc _)) l.length (by unfold numTs; simp)
  unfold nums; rw [this]; omega
theorem cnt_hols {c : UInt8} (hc : ¬ Dig c) (h : c ≠ 44) {m : Nat} (hm : ([58] : List UInt8).count c = m) (l : List Ho) : (hols l).count c = m * l.length := by
  refine cnt_jn h (m := m) (ls := holTs l) (fun t ht => ?_) l.length (by unfold holTs; simp)
  obtain ⟨x, _, rfl⟩ := List.mem_map.1 ht
  unfold holT
  rw [List.count_append, List.count_append, cnt_free (dec_free hc _), cnt_free (dec_free hc _), hm]; omega
theorem cnt_fmt {p : Pl} (h : okB p = true) {c : UInt8} (hc : ¬ Dig c) (h4 : c ≠ 44) {m : Nat} (hm : ([58] : List UInt8).count c = m) : (fmtP p).count c = ([32] : List UInt8).count c + ([124] : List UInt8).count c + m * p.held.length + ([124] : List UInt8).count c := by
  rw [fmtP_yes h]
  simp only [List.count_append, cnt_free (dec_free hc _), cnt_nums hc h4, cnt_hols hc h4 hm]
  omega
theorem cnt_bars {p : Pl} (h : okB p = true) : (fmtP p).count 124 = 2 := by rw [cnt_fmt h bar_no (by decide) (m := 0) (by decide)]; simp
theorem cnt_spaces {p : Pl} (h : okB p = true) : (fmtP p).count 32 = 1 := by rw [cnt_fmt h space_no (by decide) (m := 0) (by decide)]; simp
theorem cnt_colons {p : Pl} (h : okB p = true) : (fmtP p).count 58 = p.held.length := by rw [cnt_fmt h colon_no (by decide) (m := 1) (by decide)]; simp
theorem cnt_succ {T : List UInt8} {k : Nat} (hk : k < T.length) (c : UInt8) : (T.take (k + 1)).count c = (T.take k).count c + (if T[k] = c then 1 else 0) := by
  rw [List.take_succ_eq_append_getElem hk, List.count_append, List.count_singleton]
  simp
theorem cnt_le (T : List UInt8) (k : Nat) (c : UInt8) : (T.take k).count c ≤ T.length := Nat.le_trans List.count_le_length (by rw [List.length_take]; omega)
theorem cnt_yes {T : List UInt8} {k : Nat} (hk : k < T.length) {c : UInt8} (h : T[k] = c) : (T.take (k + 1)).count c = (T.take k).count c + 1 := by rw [cnt_succ hk, if_pos h]
theorem cnt_no {T : List UInt8} {k : Nat} (hk : k < T.length) {c : UInt8} (h : T[k] ≠ c) : (T.take (k + 1)).count c = (T.take k).count c := by rw [cnt_succ hk, if_neg h]; omega
theorem byte_eq {x c : UInt8} {cz : Int} (hc : cz = (c.toNat : Int)) (h : x = c) : ((x.toNat : Int) == cz) = true := by rw [h, hc]; simp
theorem byte_ne {x c : UInt8} {cz : Int} (hc : cz = (c.toNat : Int)) (h : x ≠ c) : ((x.toNat : Int) == cz) = false := by
  rw [hc]
  simp only [beq_eq_false_iff_ne, ne_eq]
  intro e
  exact h (UInt8.toNat_inj.1 (by omega))
end Go.Proofs.Ytehdbllpiokbnab

/-
  Plain facts that the laws on pools rest on. No condition; nothing of the program's text is used here.
-/
import Derived.Test.YtehdbllpiokbnaaPoolMath

namespace Go.Proofs.Ytehdbllpiokbnaa.Pol

theorem Pl.ext' {a b : Pl} (h1 : a.mx = b.mx) (h2 : a.idle = b.idle) (h3 : a.held = b.held) (h4 : a.wait = b.wait) : a = b := by
  cases a; cases b; simp_all
/-! Which pools are valid. -/
theorem ok_bare {p : Pl} (h : Ok p) : okB ⟨p.mx, [], [], []⟩ = true := okB_iff.2 ⟨h.1, by simp [opens], by simp [opens], by simp, by simp, by simp, .inl rfl⟩
theorem ok_nowait {p : Pl} (h : Ok p) : okB ⟨p.mx, p.idle, p.held, []⟩ = true := okB_iff.2 ⟨h.1, h.2.1, h.2.2.1, h.2.2.2.1, by simp, by simp, .inl rfl⟩
theorem ok_back {p : Pl} (h : Ok p) : okB ⟨p.mx, p.idle.reverse, p.held, p.wait⟩ = true := by
  obtain ⟨h1, h2, h3, h4, h5, h6, h7⟩ := h
  have hp : (p.idle.reverse ++ p.held.map Ho.c).Perm (p.idle ++ p.held.map Ho.c) := (List.reverse_perm _).append_right _
  refine okB_iff.2 ⟨h1, hp.nodup_iff.2 h2, fun x hx => h3 x (hp.mem_iff.1 hx), h4, h5, h6, h7⟩
theorem ok_idle_wait {p : Pl} (h : Ok p) : p.wait.length = 0 ∨ p.idle.length = 0 := by
  have := h.len
  rcases h.2.2.2.2.2.2 with e | e
  · exact .inl e
  · exact .inr (by omega)
/-! Closing. -/
theorem cls_no {p : Pl} {m : Int} (h : clsB p m = false) : clsN p m = -1 ∧ clsR p m = Pl.zero := by unfold clsN clsR; simp [h]
theorem clsB_iff {p : Pl} {m : Int} : clsB p m = true ↔ Ok p ∧ 0 ≤ m := by unfold clsB; simp [okB_iff]
theorem cls_yes {p : Pl} {m : Int} (h : clsB p m = true) : clsN p m = min m p.idle.length ∧ clsR p m = ⟨p.mx, p.idle.drop (min m p.idle.length).toNat, p.held, p.wait⟩ := by unfold clsN clsR; simp [h]
/-- As one number from 0 on. -/
theorem cls_nat {p : Pl} {m : Int} (h : clsB p m = true) : ∃ k : Nat, k ≤ p.idle.length ∧ clsN p m = k ∧ (k : Int) = min m p.idle.length ∧ clsR p m = ⟨p.mx, p.idle.drop k, p.held, p.wait⟩ := by
  obtain ⟨h1, h2⟩ := cls_yes h
  have hm := (clsB_iff.1 h).2
  exact ⟨(min m p.idle.length).toNat, by omega, by omega, by omega, h2⟩
theorem cls_ok {p : Pl} {k : Nat} (h : Ok p) : Ok ⟨p.mx, p.idle.drop k, p.held, p.wait⟩ := by
  obtain ⟨h1, h2, h3, h4, h5, h6, h7⟩ := h
  have hs : (p.idle.drop k ++ p.held.map Ho.c).Sublist (p.idle ++ p.held.map Ho.c) := List.Sublist.append (List.drop_sublist _ _) (List.Sublist.refl _)
  exact ⟨h1, h2.sublist hs, fun x hx => h3 x (hs.subset hx), h4, h5, h6, h7⟩
theorem clsR_ok {p : Pl} {m : Int} (h : clsB p m = true) : okB (clsR p m) = true := by
  obtain ⟨k, _, _, _, e⟩ := cls_nat h
  rw [e]; exact okB_iff.2 (cls_ok (clsB_iff.1 h).1)
theorem cls_len {p : Pl} {m : Int} : (clsR p m).idle.length ≤ p.idle.length ∧ (clsR p m).held.length ≤ p.held.length ∧ (clsR p m).wait.length ≤ p.wait.length := by
  unfold clsR
  split
  · exact ⟨by simp, Nat.le_refl _, Nat.le_refl _⟩
  · exact ⟨by simp [Pl.zero], by simp [Pl.zero], by simp [Pl.zero]⟩
/-- Closing goes in parts. -/
theorem cls_parts {p : Pl} {m h : Int} (hm : clsB p m = true) (h0 : 0 ≤ h) (h1 : h ≤ m) : clsB p h = true ∧ clsB (clsR p h) (m - h) = true ∧ clsR (clsR p h) (m - h) = clsR p m ∧ clsN p h + clsN (clsR p h) (m - h) = clsN p m := by
  obtain ⟨ho, hm0⟩ := clsB_iff.1 hm
  have hb : clsB p h = true := clsB_iff.2 ⟨ho, h0⟩
  obtain ⟨k, k1, k2, k3, k4⟩ := cls_nat hb
  have hb2 : clsB (clsR p h) (m - h) = true := clsB_iff.2 ⟨okB_iff.1 (clsR_ok hb), by omega⟩
  obtain ⟨j, j1, j2, j3, j4⟩ := cls_nat hb2
  obtain ⟨i, i1, i2, i3, i4⟩ := cls_nat hm
  rw [k4] at j1 j3
  simp only [List.length_drop] at j1 j3
  have hij : i = k + j := by omega
  refine ⟨hb, hb2, ?_, by rw [k2, j2, i2]; omega⟩
  rw [j4, i4, k4, hij]
  simp [List.drop_drop]
theorem cls_all {p : Pl} (h : Ok p) : clsB p 1000 = true ∧ (clsR p 1000).idle = [] ∧ clsN p 1000 = p.idle.length := by
  have hb : clsB p 1000 = true := clsB_iff.2 ⟨h, by omega⟩
  obtain ⟨k, k1, k2, k3, k4⟩ := cls_nat hb
  have hs := h.small.1
  have hk : k = p.idle.length := by omega
  subst hk
  exact ⟨hb, by rw [k4]; simp, k2⟩
theorem cls_none {p : Pl} (h : Ok p) : clsB p 0 = true ∧ clsR p 0 = p ∧ clsN p 0 = 0 := by
  have hb : clsB p 0 = true := clsB_iff.2 ⟨h, by omega⟩
  obtain ⟨k, k1, k2, k3, k4⟩ := cls_nat hb
  have hk : k = 0 := by omega
  subst hk
  exact ⟨hb, by rw [k4]; simp, k2⟩
/-! Asking. -/
theorem acqB_iff {p : Pl} {o : Int} : acqB p o = true ↔ Ok p ∧ (0 ≤ o ∧ o < 5) ∧ ¬ (fullB p = true ∧ p.wait.length = 12) := by
  unfold acqB
  rw [Bool.and_eq_true, Bool.and_eq_true, okB_iff, Bool.not_eq_true', Bool.and_eq_false_iff, decide_eq_true_eq, decide_eq_false_iff_not]
  rcases hf : fullB p with _ | _ <;> simp
theorem acq_no {p : Pl} {o : Int} (h : acqB p o = false) : acqN p o = -1 ∧ acqR p o = Pl.zero := by unfold acqN acqR; simp [h]
theorem acq_yes {p : Pl} {o : Int} (h : acqB p o = true) : acqN p o = acqC p ∧ acqR p o = acqP p o := by unfold acqN acqR; simp [h]
theorem acqR_ok {p : Pl} {o : Int} (h : acqB p o = true) : okB (acqR p o) = true := by
  obtain ⟨h1, h2, h3⟩ := acqB_iff.1 h
  rw [(acq_yes h).2]
  exact okB_iff.2 ((acq_ok h1 h2.1 h2.2).2 h3)
theorem acqR_small (p : Pl) (o : Int) : (acqR p o).idle.length ≤ 6 ∧ (acqR p o).held.length ≤ 6 ∧ (acqR p o).wait.length ≤ 12 := by
  rcases h : acqB p o with _ | _
  · rw [(acq_no h).2]; simp [Pl.zero]
  · exact (okB_iff.1 (acqR_ok h)).small
theorem fullB_iff {p : Pl} : fullB p = true ↔ (p.held.length : Int) = p.mx := by unfold fullB; simp
theorem fullB_no {p : Pl} : fullB p = false ↔ ¬ (p.held.length : Int) = p.mx := by unfold fullB; simp
/-- Nobody gets one where all are held, and who gets none waits last. -/
theorem acq_full {p : Pl} {o : Int} (h : acqB p o = true) (hf : fullB p = true) : acqN p o = -1 ∧ acqR p o = ⟨p.mx, p.idle, p.held, p.wait ++ [o]⟩ := by
  obtain ⟨a, b⟩ := acq_yes h
  rw [a, b]; unfold acqC acqP; simp [hf]
theorem acq_one {p : Pl} {o : Int} (h : acqB p o = true) (hf : fullB p = false) : acqN p o = pickC p ∧ acqR p o = ⟨p.mx, p.idle.dropLast, p.held ++ [⟨pickC p, o⟩], p.wait⟩ ∧ 0 ≤ pickC p ∧ p.wait = [] := by
  obtain ⟨a, b⟩ := acq_yes h
  have ho := (acqB_iff.1 h).1
  refine ⟨by rw [a]; unfold acqC; simp [hf], by rw [b]; unfold acqP; simp [hf], (pick_ok ho hf).1, ?_⟩
  exact List.eq_nil_of_length_eq_zero (ho.2.2.2.2.2.2.resolve_right (fullB_no.1 hf))
theorem acq_neg {p : Pl} {o : Int} (h : acqB p o = true) : (acqN p o = -1 ↔ fullB p = true) ∧ (acqN p o < 0 ↔ fullB p = true) := by
  rcases hf : fullB p with _ | _
  · obtain ⟨a, _, c, _⟩ := acq_one h hf
    rw [a]; constructor <;> constructor <;> intro e <;> first | omega | cases e
  · obtain ⟨a, _⟩ := acq_full h hf
    rw [a]; simp
theorem held_by {p : Pl} {o : Int} (h : okB p = true) : heldBy p o = (p.held.filter fun h => decide (h.o = o)).map Ho.c := by unfold heldBy; rw [if_pos h]
theorem held_no {p : Pl} {o : Int} (h : okB p = false) : heldBy p o = [] := by unfold heldBy; rw [if_neg (by rw [h]; simp)]
theorem held_mem {p : Pl} {o x : Int} (h : x ∈ heldBy p o) : x ∈ p.held.map Ho.c := by
  rcases hk : okB p with _ | _
  · rw [held_no hk] at h; cases h
  · rw [held_by hk] at h
    exact (List.Sublist.map Ho.c List.filter_sublist).subset h
theorem held_idle {p : Pl} {o x : Int} (h : x ∈ heldBy p o) : x ∉ p.idle := by
  rcases hk : okB p with _ | _
  · rw [held_no hk] at h; cases h
  · intro hi
    exact (List.nodup_append.1 (okB_iff.1 hk).2.1).2.2 x hi x (held_mem h) rfl
theorem acq_new {p : Pl} {o o' : Int} (h : acqB p o = true) (hf : fullB p = false) : acqN p o ∉ heldBy p o' := fun hm => by
  rw [(acq_one h hf).1] at hm
  exact (pick_ok (acqB_iff.1 h).1 hf).2.2.1 (held_mem hm)
theorem acq_held {p : Pl} {o : Int} (h : acqB p o = true) (hf : fullB p = false) : heldBy (acqR p o) o = heldBy p o ++ [acqN p o] := by
  obtain ⟨a, b, _, _⟩ := acq_one h hf
  rw [held_by (acqR_ok h), held_by (okB_iff.2 (acqB_iff.1 h).1), a, b]
  simp
theorem acq_last {p : Pl} {o : Int} (h : acqB p o = true) (hi : p.idle ≠ []) : acqN p o = p.idle.getLast hi ∧ (acqR p o).idle = p.idle.dropLast := by
  have ho := (acqB_iff.1 h).1
  have hl := ho.len
  have hf : fullB p = false := fullB_no.2 (by have := List.length_pos_iff.2 hi; omega)
  obtain ⟨a, b, _, _⟩ := acq_one h hf
  rw [a, b]
  refine ⟨?_, rfl⟩
  unfold pickC
  rw [List.getLast?_eq_some_getLast hi]
theorem acq_idle {p : Pl} {o : Int} (hi : p.idle = []) : (acqR p o).idle = [] := by
  unfold acqR acqP
  split
  · split <;> simp [hi]
  · rfl
/-! Giving back. -/
theorem relB_iff {p : Pl} {c : Int} : relB p c = true ↔ Ok p ∧ c ∈ p.held.map Ho.c := by unfold relB; simp [okB_iff]
theorem rel_no {p : Pl} {c : Int} (h : relB p c = false) : relN p c = -1 ∧ relR p c = Pl.zero := by unfold relN relR; simp [h]
theorem rel_yes {p : Pl} {c : Int} (h : relB p c = true) : relN p c = relW p ∧ relR p c = relP p c := by unfold relN relR; simp [h]
theorem relR_ok {p : Pl} {c : Int} (h : relB p c = true) : okB (relR p c) = true := by
  obtain ⟨h1, h2⟩ := relB_iff.1 h
  rw [(rel_yes h).2]; exact okB_iff.2 (rel_ok h1 h2)
theorem relR_small (p : Pl) (c : Int) : (relR p c).idle.length ≤ 6 ∧ (relR p c).held.length ≤ 6 ∧ (relR p c).wait.length ≤ 12 := by
  rcases h : relB p c with _ | _
  · rw [(rel_no h).2]; simp [Pl.zero]
  · exact (okB_iff.1 (relR_ok h)).small
theorem nodup_held {p : Pl} (h : Ok p) : (p.held.map Ho.c).Nodup := h.2.1.sublist (List.sublist_append_right _ _)
theorem rel_none {p : Pl} {c : Int} (h : relB p c = true) (hw : p.wait = []) : relN p c = -1 ∧ relR p c = ⟨p.mx, p.idle ++ [c], without p.held c, []⟩ ∧ (without p.held c).length + 1 = p.held.length := by
  obtain ⟨a, b⟩ := rel_yes h
  obtain ⟨h1, h2⟩ := relB_iff.1 h
  rw [a, b]; unfold relW relP; rw [hw]
  exact ⟨rfl, rfl, without_len (nodup_held h1) h2⟩
theorem rel_some {p : Pl} {c o : Int} {l : List Int} (h : relB p c = true) (hw : p.wait = o :: l) : relN p c = o ∧ relR p c = ⟨p.mx, p.idle, without p.held c ++ [⟨c, o⟩], l⟩ ∧ (without p.held c).length + 1 = p.held.length := by
  obtain ⟨a, b⟩ := rel_yes h
  obtain ⟨h1, h2⟩ := relB_iff.1 h
  rw [a, b]; unfold relW relP; rw [hw]
  exact ⟨rfl, rfl, without_len (nodup_held h1) h2⟩
theorem rel_got {p : Pl} {c o : Int} {l : List Int} (h : relB p c = true) (hw : p.wait = o :: l) : c ∈ heldBy (relR p c) o := by
  rw [held_by (relR_ok h), (rel_some h hw).2.1]
  simp
theorem without_app {l : List Ho} {h : Ho} (hc : h.c ∉ l.map Ho.c) : without (l ++ [h]) h.c = l := by
  unfold without
  rw [List.filter_append]
  have e : l.filter (fun x => decide (x.c ≠ h.c)) = l := List.filter_eq_self.2 fun x hx => by
    simp only [decide_eq_true_eq]; exact fun e => hc (e ▸ List.mem_map_of_mem hx)
  rw [e]; simp
/-- Taken and given back at once. -/
theorem acq_back {p : Pl} {o : Int} (h : acqB p o = true) (hf : fullB p = false) : relB (acqR p o) (acqN p o) = true ∧ relN (acqR p o) (acqN p o) = -1 ∧ relR (acqR p o) (acqN p o) = ⟨p.mx, p.idle.dropLast ++ [acqN p o], p.held, []⟩ ∧ (p.idle ≠ [] → relR (acqR p o) (acqN p o) = p) := by
  obtain ⟨a, b, c, hw⟩ := acq_one h hf
  have ho := (acqB_iff.1 h).1
  have hr : relB (acqR p o) (acqN p o) = true := relB_iff.2 ⟨okB_iff.1 (acqR_ok h), by rw [a, b]; simp⟩
  have hw2 : (acqR p o).wait = [] := by rw [b]; exact hw
  obtain ⟨n1, n2, _⟩ := rel_none hr hw2
  have hh : without (acqR p o).held (acqN p o) = p.held := by
    rw [a, b]
    exact without_app (h := ⟨pickC p, o⟩) (pick_ok ho hf).2.2.1
  have e : relR (acqR p o) (acqN p o) = ⟨p.mx, p.idle.dropLast ++ [acqN p o], p.held, []⟩ := by
    rw [n2, hh]
    rw [b]
  refine ⟨hr, n1, e, fun hi => ?_⟩
  rw [e]
  refine Pl.ext' rfl ?_ rfl hw.symm
  rw [(acq_last h hi).1]
  exact List.dropLast_concat_getLast hi
/-! Giving all back, one after the other. -/
/-- What stays to be done, and what was there. -/
def todo (p : Pl) : Nat := p.wait.length + p.held.length
theorem rel_step {p : Pl} {c : Int} (h : relB p c = true) : okB (relR p c) = true ∧ todo (relR p c) + 1 = todo p ∧ (relR p c).idle.length + (relR p c).held.length = p.idle.length + p.held.length := by
  refine ⟨relR_ok h, ?_⟩
  rcases hw : p.wait with _ | ⟨o, l⟩
  · obtain ⟨_, e, hl⟩ := rel_none h hw
    rw [e]; unfold todo; rw [hw]; simp; omega
  · obtain ⟨_, e, hl⟩ := rel_some h hw
    rw [e]; unfold todo; rw [hw]; simp; omega
theorem rel_first {p : Pl} (h : okB p = true) (hl : 0 < p.held.length) : relB p (p.held[0]).c = true := relB_iff.2 ⟨okB_iff.1 h, List.mem_map_of_mem (List.getElem_mem hl)⟩
theorem ok_done {p : Pl} (h : okB p = true) (hl : p.held.length = 0) : p.wait.length = 0 := by
  obtain ⟨h1, _, _, _, _, _, h7⟩ := okB_iff.1 h
  rcases h7 with e | e
  · exact e
  · omega
/-! Who waits is served in order. -/
theorem rel_wait {p q : Pl} {c : Int} {k : Nat} (h : relB q c = true) (hw : q.wait = p.wait.drop k) (hk : k < p.wait.length) : relN q c = p.wait[k] ∧ relB (relR q c) c = true ∧ (relR q c).wait = p.wait.drop (k + 1) := by
  rw [List.drop_eq_getElem_cons hk] at hw
  obtain ⟨a, b, _⟩ := rel_some h hw
  refine ⟨a, relB_iff.2 ⟨okB_iff.1 (relR_ok h), by rw [b]; simp⟩, by rw [b]⟩
/-! Each connection has one holder. -/
theorem held_sum (l : List Ho) : ∀ n : Nat, ((List.range n).map fun (i : Nat) => (l.filter fun h => decide (h.o = (i : Int))).length).sum = (l.filter fun h => decide (0 ≤ h.o ∧ h.o < (n : Int))).length
  | 0 => by
    have : l.filter (fun h => decide (0 ≤ h.o ∧ h.o < ((0 : Nat) : Int))) = [] := List.filter_eq_nil_iff.2 fun x _ => by rw [decide_eq_true_eq]; omega
    rw [this]; rfl
  | n + 1 => by
    rw [List.range_succ, List.map_append, List.sum_append, held_sum l n]
    simp only [List.map_cons, List.map_nil, List.sum_cons, List.sum_nil, Nat.add_zero]
    induction l with
    | nil => rfl
    | cons h l ih =>
      simp only [List.filter_cons]
      by_cases e1 : 0 ≤ h.o ∧ h.o < (n : Int)
      · have e2 : ¬ h.o = (n : Int) := by omega
        have e3 : 0 ≤ h.o ∧ h.o < ((n + 1 : Nat) : Int) := by omega
        simp only [e1, e2, e3, decide_true, decide_false, if_true, and_self, List.length_cons, Bool.false_eq_true, if_false]
        omega
      · by_cases e2 : h.o = (n : Int)
        · have e3 : 0 ≤ h.o ∧ h.o < ((n + 1 : Nat) : Int) := by omega
          have e1' : decide (0 ≤ h.o ∧ h.o < (n : Int)) = false := decide_eq_false e1
          have e2' : decide (h.o = (n : Int)) = true := decide_eq_true e2
          have e3' : decide (0 ≤ h.o ∧ h.o < ((n + 1 : Nat) : Int)) = true := decide_eq_true e3
          rw [e1', e2', e3']
          simp only [if_true, Bool.false_eq_true, if_false, List.length_cons]
          omega
        · have e3 : ¬ (0 ≤ h.o ∧ h.o < ((n + 1 : Nat) : Int)) := by omega
          have e1' : decide (0 ≤ h.o ∧ h.o < (n : Int)) = false := decide_eq_false e1
          have e2' : decide (h.o = (n : Int)) = false := decide_eq_false e2
          have e3' : decide (0 ≤ h.o ∧ h.o < ((n + 1 : Nat) : Int)) = false := decide_eq_false e3
          rw [e1', e2', e3']
          simp only [Bool.false_eq_true, if_false]
          omega
def heldSum (p : Pl) (n : Nat) : Nat := ((List.range n).map fun (i : Nat) => (heldBy p (i : Int)).length).sum
theorem heldSum_zero (p : Pl) : heldSum p 0 = 0 := rfl
theorem heldSum_succ (p : Pl) (n : Nat) : heldSum p (n + 1) = heldSum p n + (heldBy p (n : Int)).length := by
  unfold heldSum; rw [List.range_succ, List.map_append, List.sum_append]; simp
theorem heldSum_all {p : Pl} (h : okB p = true) : heldSum p 5 = p.held.length := by
  have e : heldSum p 5 = ((List.range 5).map fun (i : Nat) => (p.held.filter fun h => decide (h.o = (i : Int))).length).sum := by
    unfold heldSum
    congr 1
    refine List.map_congr_left fun i _ => ?_
    rw [held_by h, List.length_map]
  rw [e, held_sum]
  congr 1
  refine List.filter_eq_self.2 fun x hx => ?_
  have := (okB_iff.1 h).2.2.2.1 x.o (List.mem_map_of_mem hx)
  simp only [decide_eq_true_eq]
  omega
theorem heldSum_le (p : Pl) (n : Nat) : heldSum p n ≤ 6 * n := by
  induction n with
  | zero => simp [heldSum_zero]
  | succ n ih => rw [heldSum_succ]; have := heldBy_len p (n : Int); omega
end Go.Proofs.Ytehdbllpiokbnaa.Pol

/-
  Plain facts on settings: which are valid, what changes make of them, which changes lead from one to another. No condition; nothing of the program's text is used here.
-/
import Derived.Test.YtehdbllpiokbnabLeastMath

namespace Go.Proofs.Ytehdbllpiokbnab.Stt
open Lea

structure Stg where
  n : Int
  v : Int
deriving DecidableEq
def Asc (l : List Stg) : Prop := l.Pairwise fun a b => a.n < b.n
instance (l : List Stg) : Decidable (Asc l) := inferInstanceAs (Decidable (List.Pairwise _ l))
def nmB (x : Int) : Bool := decide (0 ≤ x ∧ x ≤ 9)
theorem nmB_iff {x : Int} : nmB x = true ↔ 0 ≤ x ∧ x ≤ 9 := by unfold nmB; simp
def Stg.ok (x : Stg) : Prop := (0 ≤ x.n ∧ x.n ≤ 9) ∧ 0 ≤ x.v ∧ x.v ≤ 20
instance (x : Stg) : Decidable x.ok := inferInstanceAs (Decidable (_ ∧ _))
def setsB (l : List Stg) : Bool := decide ((∀ x ∈ l, x.ok) ∧ Asc l)
theorem setsB_iff {l : List Stg} : setsB l = true ↔ (∀ x ∈ l, x.ok) ∧ Asc l := by unfold setsB; simp
theorem sets_nil : setsB [] = true := by decide
theorem asc_at {l : List Stg} (h : Asc l) {i j : Nat} (hij : i < j) (hj : j < l.length) : (l[i]'(by omega)).n < l[j].n := List.pairwise_iff_getElem.1 h i j (by omega) hj hij
/-- The first k are valid. -/
def Vk (l : List Stg) (k : Nat) : Prop := (∀ x ∈ l.take k, x.ok) ∧ Asc (l.take k)
theorem vk_zero (l : List Stg) : Vk l 0 := ⟨by simp, by simp [Asc]⟩
theorem vk_succ {l : List Stg} {k : Nat} (h : Vk l k) (hk : k < l.length) (ho : (l[k]).ok) (hp : ∀ h0 : 0 < k, (l[k - 1]'(by omega)).n < l[k].n) : Vk l (k + 1) := by
  obtain ⟨h1, h2⟩ := h
  refine ⟨fun x hx => ?_, ?_⟩
  · rw [List.take_succ_eq_append_getElem hk, List.mem_append, List.mem_singleton] at hx
    rcases hx with hx | rfl
    · exact h1 x hx
    · exact ho
  · unfold Asc
    rw [List.take_succ_eq_append_getElem hk, List.pairwise_append]
    refine ⟨h2, by simp, fun a ha b hb => ?_⟩
    rw [List.mem_singleton] at hb
    subst hb
    obtain ⟨i, hi, rfl⟩ := List.getElem_of_mem ha
    rw [List.length_take] at hi
    have hp := hp (by omega)
    rw [List.getElem_take]
    rcases Nat.lt_or_ge i (k - 1) with e | e
    · have := asc_at h2 (i := i) (j := k - 1) e (by rw [List.length_take]; omega)
      rw [List.getElem_take, List.getElem_take] at this
      omega
    · have : i = k - 1 := by omega
      subst this; exact hp
theorem vk_all {l : List Stg} {k : Nat} (h : Vk l k) (hk : ¬ k < l.length) : setsB l = true := by
  unfold Vk at h
  rw [List.take_of_length_le (by omega)] at h
  exact setsB_iff.2 h
theorem sets_not_ok {l : List Stg} {k : Nat} (hk : k < l.length) (h : ¬ (l[k]).ok) : setsB l = false := Bool.eq_false_iff.2 fun e => h ((setsB_iff.1 e).1 _ (List.getElem_mem hk))
theorem sets_not_asc {l : List Stg} {k : Nat} (hk : k < l.length) (h0 : 0 < k) (h : ¬ (l[k - 1]'(by omega)).n < l[k].n) : setsB l = false := Bool.eq_false_iff.2 fun e => h (asc_at (setsB_iff.1 e).2 (by omega) hk)

/-! The value of a setting. -/
def val : List Stg → Int → Int
  | [], _ => -1
  | x :: l, n => if x.n = n then x.v else val l n
theorem val_none : ∀ {l : List Stg} {n : Int} (_ : ∀ x ∈ l, x.n ≠ n), val l n = -1
  | [], _, _ => rfl
  | x :: l, n, h => by rw [val, if_neg (h x (by simp)), val_none fun y hy => h y (by simp [hy])]
theorem val_at : ∀ {l : List Stg} {n : Int} {k : Nat} (hk : k < l.length) (_ : ∀ x ∈ l.take k, x.n ≠ n) (_ : l[k].n = n), val l n = l[k].v
  | x :: l, n, 0, _, _, e => by simp at e; simp [val, e]
  | x :: l, n, k + 1, hk, h, e => by
    have h1 : x.n ≠ n := h x (by simp)
    rw [val, if_neg h1, val_at (l := l) (k := k) (by simpa using hk) (fun y hy => h y (by simp [hy])) (by simpa using e)]
    simp
theorem val_mem : ∀ {l : List Stg} (_ : Asc l) {x : Stg} (_ : x ∈ l), val l x.n = x.v
  | y :: l, h, x, hx => by
    unfold Asc at h
    rw [List.pairwise_cons] at h
    rcases List.mem_cons.1 hx with rfl | hx
    · simp [val]
    · have := h.1 x hx
      rw [val, if_neg (by omega), val_mem (l := l) h.2 hx]
theorem val_in : ∀ {l : List Stg} {n : Int} (_ : val l n ≠ -1), ⟨n, val l n⟩ ∈ l
  | [], _, h => absurd rfl h
  | x :: l, n, h => by
    unfold val at h ⊢
    split
    · rename_i e; subst e; exact List.mem_cons_self
    · rename_i e; rw [if_neg e] at h; exact List.mem_cons_of_mem _ (val_in h)
theorem val_range {l : List Stg} (h : ∀ x ∈ l, x.ok) (n : Int) : -1 ≤ val l n ∧ val l n ≤ 20 ∧ (val l n ≠ -1 → 0 ≤ val l n ∧ 0 ≤ n ∧ n ≤ 9) := by
  by_cases e : val l n = -1
  · omega
  · have := h _ (val_in e)
    obtain ⟨⟨h1, h2⟩, h3, h4⟩ := this
    simp only at h1 h2 h3 h4
    omega
/-- The settings with these values, of names below k. -/
def tab (f : Int → Int) : Nat → List Stg
  | 0 => []
  | k + 1 => if 0 ≤ f k then tab f k ++ [⟨k, f k⟩] else tab f k
theorem tab_len (f : Int → Int) : ∀ k, (tab f k).length ≤ k
  | 0 => Nat.le_refl _
  | k + 1 => by
    have := tab_len f k
    unfold tab
    split
    · rw [List.length_append]; simp; omega
    · omega
theorem tab_mem (f : Int → Int) : ∀ k {x : Stg}, x ∈ tab f k ↔ (0 ≤ x.n ∧ x.n < k) ∧ x.v = f x.n ∧ 0 ≤ f x.n
  | 0, x => by simp [tab]; omega
  | k + 1, x => by
    have hx : x = ⟨x.n, x.v⟩ := rfl
    unfold tab
    split
    · rename_i h
      rw [List.mem_append, tab_mem f k, List.mem_singleton]
      constructor
      · rintro (⟨h1, h2⟩ | rfl)
        · exact ⟨by omega, h2⟩
        · exact ⟨by simp only; omega, rfl, h⟩
      · rintro ⟨h1, h2, h3⟩
        rcases Int.lt_or_le x.n k with e | e
        · exact .inl ⟨by omega, h2, h3⟩
        · have : x.n = k := by omega
          right; rw [hx, h2, this]
    · rename_i h
      rw [tab_mem f k]
      constructor
      · rintro ⟨h1, h2⟩; exact ⟨by omega, h2⟩
      · rintro ⟨h1, h2, h3⟩
        rcases Int.lt_or_le x.n k with e | e
        · exact ⟨by omega, h2, h3⟩
        · have : x.n = k := by omega
          rw [this] at h3; exact absurd h3 h
theorem tab_asc (f : Int → Int) : ∀ k, Asc (tab f k)
  | 0 => by simp [tab, Asc]
  | k + 1 => by
    unfold tab
    split
    · unfold Asc
      rw [List.pairwise_append]
      refine ⟨tab_asc f k, by simp, fun a ha b hb => ?_⟩
      rw [List.mem_singleton] at hb
      subst hb
      exact ((tab_mem f k).1 ha).1.2
    · exact tab_asc f k
/-- Lists that ascend and have the same members are the same. -/
theorem asc_one : ∀ {l m : List Stg} (_ : Asc l) (_ : Asc m) (_ : ∀ x, x ∈ l ↔ x ∈ m), l = m
  | [], [], _, _, _ => rfl
  | [], y :: m, _, _, h => by have := (h y).2 (by simp); simp at this
  | x :: l, [], _, _, h => by have := (h x).1 (by simp); simp at this
  | x :: l, y :: m, hl, hm, h => by
    unfold Asc at hl hm
    rw [List.pairwise_cons] at hl hm
    have e : x = y := by
      rcases List.mem_cons.1 ((h x).1 (by simp)) with e | e
      · exact e
      · rcases List.mem_cons.1 ((h y).2 (by simp)) with e' | e'
        · exact e'.symm
        · have := hl.1 y e'; have := hm.1 x e; omega
    subst e
    rw [asc_one (l := l) (m := m) hl.2 hm.2 fun z => ?_]
    constructor
    · intro hz
      rcases List.mem_cons.1 ((h z).1 (by simp [hz])) with e | e
      · subst e; have := hl.1 z hz; omega
      · exact e
    · intro hz
      rcases List.mem_cons.1 ((h z).2 (by simp [hz])) with e | e
      · subst e; have := hm.1 z hz; omega
      · exact e
theorem sets_mem {l : List Stg} (h : setsB l = true) {x : Stg} : x ∈ l ↔ (0 ≤ x.n ∧ x.n < 10) ∧ x.v = val l x.n ∧ 0 ≤ val l x.n := by
  obtain ⟨h1, h2⟩ := setsB_iff.1 h
  constructor
  · intro hx
    have ho := h1 x hx
    have hv := val_mem h2 hx
    obtain ⟨⟨a, b⟩, c, d⟩ := ho
    omega
  · rintro ⟨_, e, e'⟩
    have : x = ⟨x.n, val l x.n⟩ := by rw [← e]
    rw [this]
    exact val_in (by omega)
theorem sets_tab {l : List Stg} (h : setsB l = true) : l = tab (val l) 10 :=
  asc_one (setsB_iff.1 h).2 (tab_asc _ _) fun x => by rw [sets_mem h, tab_mem]; simp
theorem sets_len {l : List Stg} (h : setsB l = true) : l.length ≤ 10 := by rw [sets_tab h]; exact tab_len _ _
theorem tab_valid {f : Int → Int} (h : ∀ n, 0 ≤ n → n < 10 → f n ≤ 20) : setsB (tab f 10) = true := by
  refine setsB_iff.2 ⟨fun x hx => ?_, tab_asc _ _⟩
  obtain ⟨⟨a, b⟩, c, d⟩ := (tab_mem f 10).1 hx
  have := h x.n a b
  unfold Stg.ok
  omega
theorem tab_congr {f g : Int → Int} : ∀ {k : Nat}, (∀ n : Int, 0 ≤ n → n < k → f n = g n) → tab f k = tab g k
  | 0, _ => rfl
  | k + 1, h => by
    unfold tab
    rw [h k (by omega) (by omega), tab_congr fun n h0 hn => h n h0 (by omega)]
theorem val_tab {f : Int → Int} (hf : ∀ n, -1 ≤ f n) {k : Nat} {n : Int} (h0 : 0 ≤ n) (hn : n < k) : val (tab f k) n = f n := by
  by_cases h : 0 ≤ f n
  · exact val_mem (tab_asc f k) (x := ⟨n, f n⟩) ((tab_mem f k).2 ⟨⟨h0, hn⟩, rfl, h⟩)
  · rw [val_none fun x hx e => ?_]
    · have := hf n; omega
    · have := ((tab_mem f k).1 hx).2.2
      rw [e] at this; exact h this
theorem val_out {l : List Stg} (h : ∀ x ∈ l, x.ok) {n : Int} (hn : n < 0 ∨ 9 < n) : val l n = -1 := by
  have := (val_range h n).2.2
  by_cases e : val l n = -1
  · exact e
  · omega
theorem sets_ext {l m : List Stg} (hl : setsB l = true) (hm : setsB m = true) (h : ∀ n, 0 ≤ n → n < 10 → val l n = val m n) : l = m := by
  rw [sets_tab hl, sets_tab hm]
  exact tab_congr (k := 10) h

/-! Changes. -/
def Stg.cok (x : Stg) : Prop := (0 ≤ x.n ∧ x.n ≤ 9) ∧ -1 ≤ x.v ∧ x.v ≤ 20
instance (x : Stg) : Decidable x.cok := inferInstanceAs (Decidable (_ ∧ _))
def chgsB (cs : List Stg) : Bool := decide (cs.length ≤ 16 ∧ ∀ x ∈ cs, x.cok)
theorem chgsB_iff {cs : List Stg} : chgsB cs = true ↔ cs.length ≤ 16 ∧ ∀ x ∈ cs, x.cok := by unfold chgsB; simp
theorem chgs_no {cs : List Stg} {k : Nat} (hk : k < cs.length) (h : ¬ (cs[k]).cok) : chgsB cs = false := Bool.eq_false_iff.2 fun e => h ((chgsB_iff.1 e).2 _ (List.getElem_mem hk))
/-- The program's way. -/
def put (l : List Stg) (c : Stg) : List Stg := l.filter (fun x => decide (x.n < c.n)) ++ ((if c.v = -1 then [] else [c]) ++ l.filter (fun x => decide (x.n > c.n)))
/-- The model's way. -/
def set1 (l : List Stg) (c : Stg) (n : Int) : Int := if n = c.n then c.v else val l n
theorem put_val {l : List Stg} (h : setsB l = true) {c : Stg} (hc : c.cok) : put l c = tab (set1 l c) 10 := by
  obtain ⟨h1, h2⟩ := setsB_iff.1 h
  have hcc : c = ⟨c.n, c.v⟩ := rfl
  refine asc_one ?_ (tab_asc _ _) fun x => ?_
  · unfold Asc put
    rw [List.pairwise_append, List.pairwise_append]
    refine ⟨h2.filter _, ⟨by split <;> simp, h2.filter _, fun a ha b hb => ?_⟩, fun a ha b hb => ?_⟩
    · split at ha
      · simp at ha
      · rw [List.mem_singleton] at ha
        subst ha
        simp at hb; omega
    · simp at ha
      rcases List.mem_append.1 hb with hb | hb
      · split at hb
        · simp at hb
        · rw [List.mem_singleton] at hb; subst hb; omega
      · simp at hb; omega
  · have hx : x = ⟨x.n, x.v⟩ := rfl
    rw [tab_mem]
    unfold put set1
    rw [List.mem_append, List.mem_append, List.mem_filter, List.mem_filter, sets_mem h]
    simp only [decide_eq_true_eq]
    obtain ⟨⟨c1, c2⟩, c3, c4⟩ := hc
    by_cases e : x.n = c.n
    · rw [if_pos e]
      constructor
      · rintro (⟨_, hh⟩ | hh | ⟨_, hh⟩)
        · omega
        · split at hh
          · simp at hh
          · rw [List.mem_singleton] at hh; subst hh; exact ⟨by simp; omega, rfl, by omega⟩
        · omega
      · rintro ⟨_, a, b⟩
        right; left
        rw [if_neg (by omega), List.mem_singleton, hx, hcc, e, a]
    · rw [if_neg e]
      constructor
      · rintro (⟨hh, _⟩ | hh | ⟨hh, _⟩)
        · exact ⟨by simp; exact hh.1, hh.2⟩
        · split at hh
          · simp at hh
          · rw [List.mem_singleton] at hh; subst hh; exact absurd rfl e
        · exact ⟨by simp; exact hh.1, hh.2⟩
      · rintro ⟨a, b⟩
        have a' : 0 ≤ x.n ∧ x.n < 10 := by simpa using a
        rcases Int.lt_or_le x.n c.n with hlt | hge
        · exact .inl ⟨⟨a', b⟩, hlt⟩
        · exact .inr (.inr ⟨⟨a', b⟩, by omega⟩)
theorem put_valid {l : List Stg} (h : setsB l = true) {c : Stg} (hc : c.cok) : setsB (put l c) = true := by
  rw [put_val h hc]
  refine tab_valid fun n _ _ => ?_
  unfold set1
  split
  · exact hc.2.2
  · exact (val_range (setsB_iff.1 h).1 n).2.1
theorem put_at {l : List Stg} (h : setsB l = true) {c : Stg} (hc : c.cok) (n : Int) : val (put l c) n = if n = c.n then c.v else val l n := by
  by_cases hn : 0 ≤ n ∧ n < 10
  · rw [put_val h hc, val_tab (fun n => ?_) hn.1 hn.2]
    · rfl
    · unfold set1
      split
      · exact hc.2.1
      · exact (val_range (setsB_iff.1 h).1 n).1
  · rw [val_out (setsB_iff.1 (put_valid h hc)).1 (by omega), val_out (setsB_iff.1 h).1 (by omega), if_neg]
    have := hc.1
    omega
def app (l : List Stg) : List Stg → List Stg
  | [] => l
  | c :: cs => app (put l c) cs
theorem app_app : ∀ (l cs ds : List Stg), app l (cs ++ ds) = app (app l cs) ds
  | _, [], _ => rfl
  | l, c :: cs, ds => by simp [app, app_app (put l c) cs ds]
theorem app_succ {l cs : List Stg} {k : Nat} (hk : k < cs.length) : app l (cs.take (k + 1)) = put (app l (cs.take k)) cs[k] := by
  rw [List.take_succ_eq_append_getElem hk, app_app]; rfl
theorem app_valid : ∀ {l cs : List Stg} (_ : setsB l = true) (_ : ∀ x ∈ cs, x.cok), setsB (app l cs) = true
  | _, [], h, _ => h
  | l, c :: cs, h, hc => app_valid (l := put l c) (put_valid h (hc c (by simp))) fun x hx => hc x (by simp [hx])
def applyB (l cs : List Stg) : Bool := setsB l && chgsB cs
theorem applyB_iff {l cs : List Stg} : applyB l cs = true ↔ setsB l = true ∧ chgsB cs = true := by unfold applyB; simp
def applyL (l cs : List Stg) : List Stg := if applyB l cs = true then app l cs else []
theorem applyL_yes {l cs : List Stg} (h : applyB l cs = true) : applyL l cs = app l cs := if_pos h
theorem applyL_no {l cs : List Stg} (h : applyB l cs = false) : applyL l cs = [] := if_neg (by simp [h])
theorem apply_valid {l cs : List Stg} (h : applyB l cs = true) : setsB (applyL l cs) = true := by
  obtain ⟨h1, h2⟩ := applyB_iff.1 h
  rw [applyL_yes h]
  exact app_valid h1 (chgsB_iff.1 h2).2
theorem applyL_len (l cs : List Stg) : (applyL l cs).length ≤ 10 := by
  unfold applyL
  split
  · rename_i h
    have := sets_len (apply_valid h)
    rwa [applyL_yes h] at this
  · simp
theorem chgs_take {cs : List Stg} (h : chgsB cs = true) (k : Nat) : chgsB (cs.take k) = true := by
  obtain ⟨h1, h2⟩ := chgsB_iff.1 h
  exact chgsB_iff.2 ⟨by rw [List.length_take]; omega, fun x hx => h2 x (List.mem_of_mem_take hx)⟩
theorem chgs_drop {cs : List Stg} (h : chgsB cs = true) (k : Nat) : chgsB (cs.drop k) = true := by
  obtain ⟨h1, h2⟩ := chgsB_iff.1 h
  exact chgsB_iff.2 ⟨by rw [List.length_drop]; omega, fun x hx => h2 x (List.mem_of_mem_drop hx)⟩
theorem apply_parts {l cs : List Stg} (h : applyB l cs = true) (k : Nat) : applyB l (cs.take k) = true ∧ applyB (applyL l (cs.take k)) (cs.drop k) = true ∧ applyL (applyL l (cs.take k)) (cs.drop k) = applyL l cs := by
  obtain ⟨h1, h2⟩ := applyB_iff.1 h
  have ha := applyB_iff.2 ⟨h1, chgs_take h2 k⟩
  have hb := applyB_iff.2 ⟨apply_valid ha, chgs_drop h2 k⟩
  refine ⟨ha, hb, ?_⟩
  rw [applyL_yes hb, applyL_yes ha, ← app_app, List.take_append_drop, applyL_yes h]
theorem apply_none {l : List Stg} (h : setsB l = true) : applyB l [] = true ∧ applyL l [] = l := by
  have hb := applyB_iff.2 ⟨h, (by decide : chgsB [] = true)⟩
  exact ⟨hb, applyL_yes hb⟩
/-- Names that no change has keep their values. -/
theorem app_other : ∀ {l cs : List Stg} (_ : setsB l = true) (_ : ∀ x ∈ cs, x.cok) {n : Int} (_ : ∀ x ∈ cs, x.n ≠ n), val (app l cs) n = val l n
  | _, [], _, _, _, _ => rfl
  | l, c :: cs, h, hc, n, hn => by
    rw [app, app_other (put_valid h (hc c (by simp))) (fun x hx => hc x (by simp [hx])) (fun x hx => hn x (by simp [hx])), put_at h (hc c (by simp)), if_neg (fun e => hn c (by simp) e.symm)]
theorem apply_last {l cs : List Stg} (h : applyB l cs = true) {k : Nat} (hk : k < cs.length) (he : k + 1 = cs.length) : val (applyL l cs) cs[k].n = cs[k].v := by
  obtain ⟨h1, h2⟩ := applyB_iff.1 h
  have hc := (chgsB_iff.1 h2).2
  have e : cs = cs.take (k + 1) := (List.take_of_length_le (by omega)).symm
  rw [applyL_yes h]
  have : app l cs = put (app l (cs.take k)) cs[k] := by rw [← app_succ hk, ← e]
  rw [this, put_at (app_valid h1 fun x hx => hc x (List.mem_of_mem_take hx)) (hc _ (List.getElem_mem hk)), if_pos rfl]
/-- Those that no change names. -/
def others (l cs : List Stg) : List Stg := l.filter fun x => !decide (x.n ∈ cs.map Stg.n)
theorem apply_others {l cs : List Stg} (h : applyB l cs = true) : others l cs = others (applyL l cs) cs := by
  obtain ⟨h1, h2⟩ := applyB_iff.1 h
  have hc := (chgsB_iff.1 h2).2
  have hv := apply_valid h
  refine asc_one ((setsB_iff.1 h1).2.filter _) ((setsB_iff.1 hv).2.filter _) fun x => ?_
  unfold others
  rw [List.mem_filter, List.mem_filter, sets_mem h1, sets_mem hv]
  simp only [Bool.not_eq_true', decide_eq_false_iff_not]
  by_cases hx : x.n ∈ cs.map Stg.n
  · simp [hx]
  · have : val (applyL l cs) x.n = val l x.n := by
      rw [applyL_yes h]
      exact app_other h1 hc fun y hy e => hx (List.mem_map.2 ⟨y, hy, e⟩)
    rw [this]

/-! Plans. -/
def plan (a b : List Stg) : Nat → List Stg
  | 0 => []
  | k + 1 => if val a k = val b k then plan a b k else plan a b k ++ [⟨k, val b k⟩]
theorem plan_len (a b : List Stg) : ∀ k, (plan a b k).length ≤ k
  | 0 => Nat.le_refl _
  | k + 1 => by
    have := plan_len a b k
    unfold plan
    split
    · omega
    · rw [List.length_append]; simp; omega
theorem plan_same (a b : List Stg) (k : Nat) : ∀ m, k ≤ m → (∀ n : Nat, k ≤ n → n < m → val a n = val b n) → plan a b m = plan a b k
  | 0, h, _ => by rw [show k = 0 by omega]
  | m + 1, h, hv => by
    rcases Nat.lt_or_ge m k with e | e
    · rw [show k = m + 1 by omega]
    · rw [plan, if_pos (hv m e (by omega)), plan_same a b k m e fun n h1 h2 => hv n h1 (by omega)]
theorem plan_mem (a b : List Stg) : ∀ k {x : Stg}, x ∈ plan a b k ↔ (0 ≤ x.n ∧ x.n < k) ∧ x.v = val b x.n ∧ val a x.n ≠ val b x.n
  | 0, x => by simp [plan]; omega
  | k + 1, x => by
    have hx : x = ⟨x.n, x.v⟩ := rfl
    unfold plan
    split
    · rename_i h
      rw [plan_mem a b k]
      constructor
      · rintro ⟨h1, h2⟩; exact ⟨by omega, h2⟩
      · rintro ⟨h1, h2, h3⟩
        rcases Int.lt_or_le x.n k with e | e
        · exact ⟨by omega, h2, h3⟩
        · have : x.n = k := by omega
          rw [this] at h3; exact absurd h h3
    · rename_i h
      rw [List.mem_append, plan_mem a b k, List.mem_singleton]
      constructor
      · rintro (⟨h1, h2⟩ | rfl)
        · exact ⟨by omega, h2⟩
        · exact ⟨by simp only; omega, rfl, h⟩
      · rintro ⟨h1, h2, h3⟩
        rcases Int.lt_or_le x.n k with e | e
        · exact .inl ⟨by omega, h2, h3⟩
        · have : x.n = k := by omega
          right; rw [hx, h2, this]
theorem plan_asc (a b : List Stg) : ∀ k, Asc (plan a b k)
  | 0 => by simp [plan, Asc]
  | k + 1 => by
    unfold plan
    split
    · exact plan_asc a b k
    · unfold Asc
      rw [List.pairwise_append]
      refine ⟨plan_asc a b k, by simp, fun x hx y hy => ?_⟩
      rw [List.mem_singleton] at hy
      subst hy
      exact ((plan_mem a b k).1 hx).1.2
theorem plan_back (a b : List Stg) : ∀ k, (plan b a k).length = (plan a b k).length
  | 0 => rfl
  | k + 1 => by
    unfold plan
    by_cases h : val a k = val b k
    · rw [if_pos h, if_pos h.symm, plan_back a b k]
    · rw [if_neg h, if_neg (fun e => h e.symm), List.length_append, List.length_append, plan_back a b k]; rfl
def planB (a b : List Stg) : Bool := setsB a && setsB b
theorem planB_iff {a b : List Stg} : planB a b = true ↔ setsB a = true ∧ setsB b = true := by unfold planB; simp
def planL (a b : List Stg) : List Stg := if planB a b = true then plan a b 10 else []
theorem planL_yes {a b : List Stg} (h : setsB a = true) (h' : setsB b = true) : planL a b = plan a b 10 := if_pos (planB_iff.2 ⟨h, h'⟩)
theorem planL_no {a b : List Stg} (h : ¬ (setsB a = true ∧ setsB b = true)) : planL a b = [] := if_neg fun e => h (planB_iff.1 e)
theorem planL_len (a b : List Stg) : (planL a b).length ≤ 10 := by
  unfold planL
  split
  · exact plan_len a b 10
  · simp
theorem planL_ok {a b : List Stg} (h : planL a b ≠ []) : setsB a = true ∧ setsB b = true := by
  unfold planL at h
  split at h
  · rename_i e; exact planB_iff.1 e
  · exact absurd rfl h
theorem planL_mem {a b : List Stg} (h : setsB a = true) (h' : setsB b = true) {x : Stg} : x ∈ planL a b ↔ (0 ≤ x.n ∧ x.n < 10) ∧ x.v = val b x.n ∧ val a x.n ≠ val b x.n := by
  rw [planL_yes h h', plan_mem]; simp
theorem plan_chgs {a b : List Stg} (h : setsB a = true) (h' : setsB b = true) {m : List Stg} (hm : ∀ x ∈ m, x ∈ planL a b) (hl : m.length ≤ 10) : chgsB m = true := by
  refine chgsB_iff.2 ⟨by omega, fun x hx => ?_⟩
  obtain ⟨⟨h1, h2⟩, h3, _⟩ := (planL_mem h h').1 (hm x hx)
  have := val_range (setsB_iff.1 h').1 x.n
  unfold Stg.cok
  omega
/-- What changes with different names make. -/
theorem app_at : ∀ {l cs : List Stg} (_ : setsB l = true) (_ : ∀ x ∈ cs, x.cok) (_ : Asc cs) {x : Stg} (_ : x ∈ cs), val (app l cs) x.n = x.v
  | l, c :: cs, h, hc, ha, x, hx => by
    unfold Asc at ha
    rw [List.pairwise_cons] at ha
    have hc1 := hc c (by simp)
    have hc2 : ∀ x ∈ cs, x.cok := fun x hx => hc x (by simp [hx])
    rcases List.mem_cons.1 hx with rfl | hx
    · rw [app, app_other (put_valid h hc1) hc2 (fun y hy => by have := ha.1 y hy; omega), put_at h hc1, if_pos rfl]
    · rw [app, app_at (put_valid h hc1) hc2 ha.2 hx]
theorem plan_apply {a b : List Stg} (h : setsB a = true) (h' : setsB b = true) : applyB a (planL a b) = true ∧ applyL a (planL a b) = b := by
  have hp := plan_chgs h h' (m := planL a b) (fun x hx => hx) (planL_len a b)
  have hb := applyB_iff.2 ⟨h, hp⟩
  refine ⟨hb, sets_ext (apply_valid hb) h' fun n h0 hn => ?_⟩
  rw [applyL_yes hb]
  have hc := (chgsB_iff.1 hp).2
  have ha : Asc (planL a b) := by rw [planL_yes h h']; exact plan_asc a b 10
  by_cases e : val a n = val b n
  · rw [app_other h hc fun x hx ex => ?_]
    · exact e
    · subst ex
      exact ((planL_mem h h').1 hx).2.2 e
  · exact app_at h hc ha (x := ⟨n, val b n⟩) ((planL_mem h h').2 ⟨⟨h0, hn⟩, rfl, e⟩)
theorem plan_short {a b : List Stg} (h : setsB a = true) (h' : setsB b = true) {k : Nat} (hk : k < (planL a b).length) : applyB a ((planL a b).take k ++ (planL a b).drop (k + 1)) = true ∧ applyL a ((planL a b).take k ++ (planL a b).drop (k + 1)) ≠ b := by
  have hl := planL_len a b
  have hin : ∀ x ∈ (planL a b).take k ++ (planL a b).drop (k + 1), x ∈ planL a b := fun x hx => by
    rcases List.mem_append.1 hx with hx | hx
    · exact List.mem_of_mem_take hx
    · exact List.mem_of_mem_drop hx
  have hp := plan_chgs h h' hin (by rw [List.length_append, List.length_take, List.length_drop]; omega)
  have hb := applyB_iff.2 ⟨h, hp⟩
  refine ⟨hb, fun e => ?_⟩
  have ha : Asc (planL a b) := by rw [planL_yes h h']; exact plan_asc a b 10
  obtain ⟨_, _, hne⟩ := (planL_mem h h').1 (List.getElem_mem hk)
  have hv : val (applyL a ((planL a b).take k ++ (planL a b).drop (k + 1))) (planL a b)[k].n = val a (planL a b)[k].n := by
    rw [applyL_yes hb]
    refine app_other h (chgsB_iff.1 hp).2 fun x hx ex => ?_
    rcases List.mem_append.1 hx with hx | hx
    · obtain ⟨i, hi, rfl⟩ := List.getElem_of_mem hx
      rw [List.length_take] at hi
      rw [List.getElem_take] at ex
      have := asc_at ha (i := i) (j := k) (by omega) hk
      omega
    · obtain ⟨i, hi, rfl⟩ := List.getElem_of_mem hx
      rw [List.length_drop] at hi
      rw [List.getElem_drop] at ex
      have := asc_at ha (i := k) (j := k + 1 + i) (by omega) (by omega)
      omega
  rw [e] at hv
  exact hne hv.symm
theorem plan_none {a b : List Stg} (h : setsB a = true) (h' : setsB b = true) : planL a b = [] ↔ a = b := by
  constructor
  · intro e
    refine sets_ext h h' fun n h0 hn => ?_
    by_cases hv : val a n = val b n
    · exact hv
    · have : (⟨n, val b n⟩ : Stg) ∈ planL a b := (planL_mem h h').2 ⟨⟨h0, hn⟩, rfl, hv⟩
      rw [e] at this; simp at this
  · intro e
    subst e
    refine List.eq_nil_iff_forall_not_mem.2 fun x hx => ((planL_mem h h').1 hx).2.2 rfl
theorem planL_back (a b : List Stg) : (planL b a).length = (planL a b).length := by
  unfold planL planB
  rw [Bool.and_comm]
  split
  · exact plan_back a b 10
  · rfl
/-- Each change is of a setting of one of the lists. -/
theorem plan_most {a b : List Stg} (pa : ∀ n, val a n ≠ -1 → 0 ≤ val a n) (pb : ∀ n, val b n ≠ -1 → 0 ≤ val b n) : ∀ k, (plan a b k).length ≤ (tab (val a) k).length + (tab (val b) k).length
  | 0 => by simp [plan, tab]
  | k + 1 => by
    have := plan_most pa pb k
    have ea := pa k
    have eb := pb k
    unfold plan tab
    by_cases h : val a k = val b k
    · rw [if_pos h]
      split <;> split <;> simp <;> omega
    · rw [if_neg h, List.length_append]
      by_cases ha : 0 ≤ val a k
      · rw [if_pos ha, List.length_append]
        split <;> simp <;> omega
      · by_cases hb : 0 ≤ val b k
        · rw [if_neg ha, if_pos hb, List.length_append]; simp; omega
        · exact absurd (show val a k = val b k by omega) h
theorem planL_most {a b : List Stg} (h : setsB a = true) (h' : setsB b = true) : (planL a b).length ≤ a.length + b.length := by
  have := plan_most (a := a) (b := b) (fun n hn => ((val_range (setsB_iff.1 h).1 n).2.2 hn).1) (fun n hn => ((val_range (setsB_iff.1 h').1 n).2.2 hn).1) 10
  rw [← sets_tab h, ← sets_tab h'] at this
  rw [planL_yes h h']; exact this
end Go.Proofs.Ytehdbllpiokbnab.Stt

/-
  Plain facts on states of transactions: which are valid, what commands make of them, what is kept. No condition; nothing of the program's text is used here.
-/
import Derived.Test.YtocaddibdiikpaaBrkMath
namespace Go.Proofs.Ytocaddibdiikpaa.Nes

theorem getD_get {l : List Int} {k : Nat} (h : k < l.length) : l.getD k 0 = l[k] := by simp [List.getD_eq_getElem?_getD, h]
structure Nst where
  d : Int
  w : Int
  m : List Int
  b : Bool
deriving DecidableEq
def zeroN : Nst := ⟨0, 0, [], false⟩
/-- Which states are valid. -/
def Ok (n : Nst) : Prop := (0 ≤ n.d ∧ n.d ≤ 4) ∧ (0 ≤ n.w ∧ n.w ≤ 12) ∧ (n.m.length : Int) = n.d ∧ n.m.getD 0 0 = 0 ∧ Brk.nofall n.m = true ∧ (∀ x ∈ n.m, 0 ≤ x ∧ x ≤ n.w) ∧ (n.d = 0 → n.w = 0 ∧ n.b = false)
instance (n : Nst) : Decidable (Ok n) := inferInstanceAs (Decidable (_ ∧ _))
def nestB (n : Nst) : Bool := decide (Ok n)
theorem nestB_iff {n : Nst} : nestB n = true ↔ Ok n := by unfold nestB; simp
theorem nest_no {n : Nst} (h : ¬ Ok n) : nestB n = false := by unfold nestB; simpa using h
theorem zero_ok : Ok zeroN := by decide
theorem nest_zero : nestB zeroN = true := by decide
theorem ok_len {n : Nst} (h : Ok n) : n.m.length ≤ 4 := by have := h.1; have := h.2.2.1; omega
theorem nest_len {n : Nst} (h : nestB n = true) : n.m.length ≤ 4 := ok_len (nestB_iff.1 h)
theorem ok_zero {n : Nst} (h : Ok n) (hd : n.d = 0) : n = zeroN := by
  obtain ⟨_, _, h3, _, _, _, h7⟩ := h
  obtain ⟨a, b, c, e⟩ := n
  simp only at h3 h7 hd
  obtain ⟨rfl, rfl⟩ := h7 hd
  subst hd
  have : c = [] := List.eq_nil_of_length_eq_zero (by omega)
  subst this
  rfl
/-- The last mark. -/
def lastM (n : Nst) : Int := n.m.getD (n.m.length - 1) 0
theorem lastM_in {n : Nst} (h : 0 < n.m.length) : lastM n ∈ n.m := by
  unfold lastM
  rw [getD_get (by omega)]
  exact List.getElem_mem _
/-- Marks that do not fall, the first one 0 and the last one at most the work, are valid. -/
theorem marks_all {l : List Int} {w : Int} (h1 : Brk.nofall l = true) (h2 : l.getD 0 0 = 0) (h3 : l.getD (l.length - 1) 0 ≤ w) : ∀ x ∈ l, 0 ≤ x ∧ x ≤ w := by
  intro x hx
  obtain ⟨i, hi, rfl⟩ := List.mem_iff_getElem.1 hx
  have a := Brk.nofall_le h1 (Nat.zero_le i) hi
  have b := Brk.nofall_le h1 (show i ≤ l.length - 1 by omega) (by omega)
  rw [getD_get hi] at a b
  omega

/-! Commands. -/
def canB (n : Nst) (k : Int) : Bool :=
  if n.b = true then decide (k = 2 ∨ k = 4)
  else decide (k = 0 ∧ n.d < 4 ∨ k = 1 ∧ 0 < n.d ∧ n.w < 12 ∨ (k = 2 ∨ k = 3 ∨ k = 4) ∧ 0 < n.d)
/-- The innermost transaction is closed, and so much work is left. -/
def shut (n : Nst) (w : Int) : Nst := if n.d = 1 then zeroN else ⟨n.d - 1, w, n.m.take (n.m.length - 1), false⟩
def stepC (n : Nst) (k : Int) : Nst :=
  if k = 0 then ⟨n.d + 1, n.w, n.m ++ [n.w], n.b⟩ else if k = 1 then ⟨n.d, n.w + 1, n.m, n.b⟩ else if k = 2 then ⟨n.d, n.w, n.m, true⟩
  else if k = 3 then shut n n.w else shut n (lastM n)
def stepB (n : Nst) (k : Int) : Bool := nestB n && canB n k
def stepS (n : Nst) (k : Int) : Nst := if stepB n k = true then stepC n k else zeroN
theorem stepB_iff {n : Nst} {k : Int} : stepB n k = true ↔ Ok n ∧ canB n k = true := by unfold stepB; rw [Bool.and_eq_true, nestB_iff]
theorem stepS_yes {n : Nst} {k : Int} (h : stepB n k = true) : stepS n k = stepC n k := if_pos h
theorem stepS_no {n : Nst} {k : Int} (h : stepB n k = false) : stepS n k = zeroN := if_neg (by simp [h])
theorem can_pos {n : Nst} {k : Int} (h : Ok n) (hk : canB n k = true) (h0 : k ≠ 0) : 0 < n.d := by
  have h1 := h.1.1
  have h7 := h.2.2.2.2.2.2
  rcases Int.lt_or_eq_of_le h1 with e | e
  · exact e
  · have := h7 e.symm
    unfold canB at hk
    rw [this.2] at hk
    simp at hk
    omega
theorem can_kind {n : Nst} {k : Int} (hk : canB n k = true) : k = 0 ∨ k = 1 ∨ k = 2 ∨ k = 3 ∨ k = 4 := by
  unfold canB at hk
  split at hk <;> simp at hk <;> omega
theorem can_open {n : Nst} : canB n 0 = true ↔ n.b = false ∧ n.d < 4 := by
  unfold canB
  cases n.b <;> simp
theorem can_work {n : Nst} : canB n 1 = true ↔ n.b = false ∧ 0 < n.d ∧ n.w < 12 := by
  unfold canB
  cases n.b <;> simp
theorem can_keep {n : Nst} : canB n 3 = true ↔ n.b = false ∧ 0 < n.d := by
  unfold canB
  cases n.b <;> simp
theorem can_fail {n : Nst} (h : Ok n) : canB n 2 = true ↔ 0 < n.d := by
  have h1 := h.1.1
  have h7 := h.2.2.2.2.2.2
  constructor
  · intro e; exact can_pos h e (by decide)
  · intro e; unfold canB; split <;> simp [e]
theorem can_back {n : Nst} (h : Ok n) : canB n 4 = true ↔ 0 < n.d := by
  constructor
  · intro e; exact can_pos h e (by decide)
  · intro e; unfold canB; split <;> simp [e]
theorem take_nofall {l : List Int} (h : Brk.nofall l = true) (k : Nat) : Brk.nofall (l.take k) = true := by
  refine Brk.nofall_iff.2 fun i hi => ?_
  rw [List.length_take] at hi
  have := Brk.nofall_iff.1 h i (by omega)
  rw [getD_get (by omega), getD_get (by omega)] at this
  rw [getD_get (by rw [List.length_take]; omega), getD_get (by rw [List.length_take]; omega), List.getElem_take, List.getElem_take]
  exact this
theorem snoc_nofall {l : List Int} {x : Int} (h : Brk.nofall l = true) (hx : ∀ y ∈ l, y ≤ x) : Brk.nofall (l ++ [x]) = true := by
  refine Brk.nofall_iff.2 fun i hi => ?_
  rw [List.length_append, List.length_singleton] at hi
  rcases Nat.lt_or_ge (i + 1) l.length with e | e
  · have := Brk.nofall_iff.1 h i e
    rw [getD_get (by omega), getD_get (by omega)] at this
    rw [getD_get (by rw [List.length_append]; omega), getD_get (by rw [List.length_append]; omega), List.getElem_append_left (by omega), List.getElem_append_left (by omega)]
    exact this
  · have e2 : i + 1 = l.length := by omega
    have e3 : (l ++ [x]).getD (i + 1) 0 = x := by rw [e2]; simp [List.getD_eq_getElem?_getD]
    rw [e3, getD_get (by rw [List.length_append]; omega), List.getElem_append_left (by omega)]
    exact hx _ (List.getElem_mem _)
theorem shut_ok {n : Nst} (h : Ok n) (hd : 0 < n.d) {w : Int} (h1 : lastM n ≤ w) (h2 : w ≤ n.w) : Ok (shut n w) := by
  unfold shut
  split
  · exact zero_ok
  · rename_i h0
    obtain ⟨a1, a2, a3, a4, a5, a6, a7⟩ := h
    have hl : 2 ≤ n.m.length := by omega
    refine ⟨⟨by simp only; omega, by simp only; omega⟩, ⟨?_, by simp only; omega⟩, by simp only [List.length_take]; omega, ?_, take_nofall a5 _, ?_, fun e => by simp only at e; omega⟩
    · have := a6 _ (lastM_in (n := n) (by omega))
      simp only; omega
    · simp only
      rw [getD_get (by rw [List.length_take]; omega), List.getElem_take]
      rwa [getD_get (by omega)] at a4
    · intro x hx
      simp only at hx ⊢
      obtain ⟨i, hi, rfl⟩ := List.mem_iff_getElem.1 hx
      rw [List.length_take] at hi
      have b := Brk.nofall_le a5 (show i ≤ n.m.length - 1 by omega) (by omega)
      rw [getD_get (by omega)] at b
      rw [List.getElem_take]
      have := a6 n.m[i] (List.getElem_mem _)
      unfold lastM at h1
      omega
theorem lastM_le {n : Nst} (h : Ok n) (hd : 0 < n.d) : 0 ≤ lastM n ∧ lastM n ≤ n.w := by
  have := h.2.2.1
  exact h.2.2.2.2.2.1 _ (lastM_in (by omega))
theorem shut_d {n : Nst} {w : Int} : (shut n w).d = n.d - 1 := by
  unfold shut
  split
  · rename_i e; rw [e]; rfl
  · rfl
theorem step_ok {n : Nst} {k : Int} (h : stepB n k = true) : Ok (stepC n k) := by
  obtain ⟨ho, hk⟩ := stepB_iff.1 h
  have hk5 := can_kind hk
  obtain ⟨a1, a2, a3, a4, a5, a6, a7⟩ := id ho
  unfold stepC
  by_cases k0 : k = 0
  · subst k0
    rw [if_pos rfl]
    obtain ⟨b1, b2⟩ := can_open.1 hk
    refine ⟨⟨by simp only; omega, by simp only; omega⟩, a2, by simp only [List.length_append, List.length_singleton]; omega, ?_, snoc_nofall a5 fun y hy => (a6 y hy).2, ?_, fun e => by simp only at e; omega⟩
    · simp only
      rcases hm : n.m with _ | ⟨x, l⟩
      · rw [hm] at a3; simp at a3
        have := (a7 a3.symm).1
        simpa using this
      · rw [hm] at a4; simpa using a4
    · intro x hx
      simp only [List.mem_append, List.mem_singleton] at hx ⊢
      rcases hx with hx | rfl
      · exact a6 x hx
      · exact ⟨a2.1, Int.le_refl _⟩
  rw [if_neg k0]
  have hd := can_pos ho hk k0
  by_cases k1 : k = 1
  · subst k1
    rw [if_pos rfl]
    obtain ⟨b1, b2, b3⟩ := can_work.1 hk
    exact ⟨a1, ⟨by simp only; omega, by simp only; omega⟩, a3, a4, a5, fun x hx => by have := a6 x hx; simp only; omega, fun e => by simp only at e; omega⟩
  rw [if_neg k1]
  by_cases k2 : k = 2
  · subst k2
    rw [if_pos rfl]
    exact ⟨a1, a2, a3, a4, a5, a6, fun e => by simp only at e; omega⟩
  rw [if_neg k2]
  have hl := lastM_le ho hd
  split
  · exact shut_ok ho hd hl.2 (Int.le_refl _)
  · exact shut_ok ho hd (Int.le_refl _) hl.2
theorem step_d {n : Nst} {k : Int} (h : stepB n k = true) : (stepC n k).d = n.d + (if k = 0 then 1 else if k = 3 ∨ k = 4 then -1 else 0) := by
  obtain ⟨ho, hk⟩ := stepB_iff.1 h
  rcases can_kind hk with rfl | rfl | rfl | rfl | rfl
  · rfl
  · simp [stepC]
  · simp [stepC]
  · simp [stepC, shut_d]; omega
  · simp [stepC, shut_d]; omega
theorem stepS_len (n : Nst) (k : Int) : (stepS n k).m.length ≤ 4 := by
  unfold stepS
  split
  · rename_i h; exact ok_len (step_ok h)
  · simp [zeroN]
/-- What is taken back was not done. -/
theorem shut_open {n : Nst} (h : Ok n) (hc : canB n 0 = true) (w : Int) : shut ⟨n.d + 1, w, n.m ++ [n.w], n.b⟩ n.w = n := by
  obtain ⟨b1, b2⟩ := can_open.1 hc
  unfold shut
  by_cases e : n.d = 0
  · rw [if_pos (by simp only; omega)]
    exact (ok_zero h e).symm
  · rw [if_neg (by simp only; omega)]
    obtain ⟨a, b, c, f⟩ := n
    simp only at b1
    subst b1
    simp
theorem lastM_open (n : Nst) (w : Int) (f : Bool) (d : Int) : lastM ⟨d, w, n.m ++ [n.w], f⟩ = n.w := by
  unfold lastM
  simp [List.getD_eq_getElem?_getD]
theorem back_open {n : Nst} (h : Ok n) (hc : canB n 0 = true) (w : Int) (hw : n.w ≤ w ∧ w ≤ 12) : stepB ⟨n.d + 1, w, n.m ++ [n.w], n.b⟩ 4 = true ∧ stepC ⟨n.d + 1, w, n.m ++ [n.w], n.b⟩ 4 = n := by
  have ho : Ok ⟨n.d + 1, n.w, n.m ++ [n.w], n.b⟩ := step_ok (n := n) (k := 0) (stepB_iff.2 ⟨h, hc⟩)
  have ho2 : Ok ⟨n.d + 1, w, n.m ++ [n.w], n.b⟩ := by
    obtain ⟨a1, a2, a3, a4, a5, a6, a7⟩ := ho
    refine ⟨a1, ⟨by simp only at a2 ⊢; omega, hw.2⟩, a3, a4, a5, fun x hx => ?_, fun e => ?_⟩
    · have := a6 x hx; simp only at this ⊢; omega
    · have := h.1.1; simp only at e; omega
  refine ⟨stepB_iff.2 ⟨ho2, (can_back ho2).2 (by have := h.1.1; simp only; omega)⟩, ?_⟩
  unfold stepC
  rw [if_neg (by decide), if_neg (by decide), if_neg (by decide), if_neg (by decide), lastM_open, shut_open h hc]
theorem open_no {n : Nst} (h : Ok n) (hc : stepB n 0 = false) : (n.b || n.d == 4) = true := by
  have h4 := h.1.2
  have : ¬ canB n 0 = true := fun e => by rw [stepB_iff.2 ⟨h, e⟩] at hc; cases hc
  rw [can_open] at this
  cases hb : n.b with
  | true => rfl
  | false =>
    have : ¬ n.d < 4 := fun e => this ⟨hb, e⟩
    simp
    omega
theorem back_law {n : Nst} (h : Ok n) (hc : stepB n 0 = true) :
    (stepB (stepC n 0) 1 = true → stepB (stepC (stepC n 0) 1) 4 = true ∧ stepC (stepC (stepC n 0) 1) 4 = n) ∧ stepB (stepC n 0) 4 = true ∧ stepC (stepC n 0) 4 = n := by
  have hc0 := (stepB_iff.1 hc).2
  have h2 := h.2.1
  refine ⟨fun e => ?_, back_open h hc0 n.w ⟨Int.le_refl _, h2.2⟩⟩
  have := (can_work.1 (stepB_iff.1 e).2).2.2
  have hw : n.w < 12 := this
  exact back_open h hc0 (n.w + 1) ⟨by omega, by omega⟩
/-- What is kept inside is kept. -/
theorem keep_law {n : Nst} (h : Ok n) (hc : stepB n 0 = true) (hw : stepB (stepC n 0) 1 = true) :
    stepB (stepC (stepC n 0) 1) 3 = true ∧ (n.d = 0 → stepC (stepC (stepC n 0) 1) 3 = n ∧ stepB n 1 = false) ∧ (0 < n.d → stepB n 1 = true ∧ stepC (stepC (stepC n 0) 1) 3 = stepC n 1) := by
  have hc0 := (stepB_iff.1 hc).2
  obtain ⟨b1, b2⟩ := can_open.1 hc0
  have h1 := step_ok hw
  obtain ⟨c1, c2, c3⟩ := can_work.1 (stepB_iff.1 hw).2
  have c3 : n.w < 12 := c3
  have hd := h.1.1
  have e1 : stepC (stepC n 0) 1 = ⟨n.d + 1, n.w + 1, n.m ++ [n.w], n.b⟩ := rfl
  have e2 : stepC (stepC (stepC n 0) 1) 3 = shut ⟨n.d + 1, n.w + 1, n.m ++ [n.w], n.b⟩ (n.w + 1) := rfl
  refine ⟨stepB_iff.2 ⟨h1, can_keep.2 ⟨b1, by rw [e1]; simp only; omega⟩⟩, fun e => ⟨?_, ?_⟩, fun e => ⟨stepB_iff.2 ⟨h, can_work.2 ⟨b1, e, c3⟩⟩, ?_⟩⟩
  · rw [e2]; unfold shut; rw [if_pos (by simp only; omega)]; exact (ok_zero h e).symm
  · rw [Bool.eq_false_iff]
    intro f
    have := (can_work.1 (stepB_iff.1 f).2).2.1
    omega
  · rw [e2]; unfold shut; rw [if_neg (by simp only; omega)]
    have e3 : stepC n 1 = ⟨n.d, n.w + 1, n.m, n.b⟩ := rfl
    rw [e3, b1]
    simp
theorem keep_zero (w : Nst) (h : w = zeroN) : stepB w 3 = false := by subst h; decide
theorem work_zero : stepB zeroN 1 = false := by decide
/-- Broken states only go back. -/
theorem broken_law {n : Nst} (h : Ok n) (hb : n.b = true) : (∀ k, stepB n k = decide (k = 2 ∨ k = 4)) ∧ stepB n 4 = true ∧ (stepC n 4).b = false := by
  have h1 : ∀ k, stepB n k = decide (k = 2 ∨ k = 4) := fun k => by
    unfold stepB canB
    rw [nestB_iff.2 h, if_pos hb]; rfl
  refine ⟨h1, by rw [h1]; decide, ?_⟩
  show (shut n (lastM n)).b = false
  unfold shut
  split <;> rfl

/-! Commands, one after the other. -/
structure Acc where
  s : Nst
  bad : Int
  kept : Int
deriving DecidableEq
def astep (a : Acc) (k : Int) : Acc :=
  if stepB a.s k = true then ⟨stepC a.s k, a.bad, a.kept + if k = 3 ∧ (stepC a.s k).d = 0 then a.s.w else 0⟩ else ⟨a.s, a.bad + 1, a.kept⟩
def acc (l : List Int) : Acc := l.foldl astep ⟨zeroN, 0, 0⟩
theorem acc_nil : acc [] = ⟨zeroN, 0, 0⟩ := rfl
theorem acc_snoc (l : List Int) (k : Int) : acc (l ++ [k]) = astep (acc l) k := by simp [acc]
theorem acc_take {l : List Int} {k : Nat} (h : k < l.length) : acc (l.take (k + 1)) = astep (acc (l.take k)) l[k] := by
  rw [List.take_succ_eq_append_getElem h, acc_snoc]
theorem astep_ok {a : Acc} (h : Ok a.s) (k : Int) : Ok (astep a k).s := by
  unfold astep
  split
  · rename_i e; exact step_ok e
  · exact h
/-- What is said of all lists holds if each command keeps it. -/
theorem snoc_ind {P : List Int → Prop} (h0 : P []) (hs : ∀ l x, P l → P (l ++ [x])) : ∀ l, P l := by
  intro l
  have : ∀ n, ∀ l : List Int, l.length = n → P l := by
    intro n
    induction n with
    | zero => intro l hl; rw [List.eq_nil_of_length_eq_zero hl]; exact h0
    | succ n ih =>
      intro l hl
      have e := List.dropLast_concat_getLast (l := l) (by rintro rfl; simp at hl)
      rw [← e]
      exact hs _ _ (ih _ (by rw [List.length_dropLast]; omega))
  exact this _ l rfl
theorem acc_ok (l : List Int) : Ok (acc l).s := by
  refine snoc_ind (P := fun l => Ok (acc l).s) zero_ok (fun l x h => ?_) l
  rw [acc_snoc]; exact astep_ok h x
theorem acc_bad (l : List Int) : 0 ≤ (acc l).bad ∧ (acc l).bad ≤ l.length := by
  refine snoc_ind (P := fun l => 0 ≤ (acc l).bad ∧ (acc l).bad ≤ l.length) (by simp [acc]) (fun l x h => ?_) l
  rw [acc_snoc, List.length_append, List.length_singleton]
  unfold astep
  split <;> simp only <;> omega
/-- How many commands of a kind there are. -/
def ones (l : List Int) : Int := ((l.filter fun x => x == 1).length : Nat)
theorem ones_snoc (l : List Int) (x : Int) : ones (l ++ [x]) = ones l + if x = 1 then 1 else 0 := by
  unfold ones
  rw [List.filter_append, List.length_append]
  by_cases h : x = 1
  · subst h; simp
  · rw [if_neg h, List.filter_cons, if_neg (by simpa using h)]; simp
theorem ones_take {l : List Int} {k : Nat} (h : k < l.length) : ones (l.take (k + 1)) = ones (l.take k) + if l[k] = 1 then 1 else 0 := by
  rw [List.take_succ_eq_append_getElem h, ones_snoc]
theorem ones_range (l : List Int) : 0 ≤ ones l ∧ ones l ≤ l.length := by
  unfold ones
  have := List.length_filter_le (fun x : Int => x == 1) l
  omega
theorem step_w {n : Nst} {k : Int} (h : stepB n k = true) : (stepC n k).w + (if k = 3 ∧ (stepC n k).d = 0 then n.w else 0) ≤ n.w + if k = 1 then 1 else 0 := by
  obtain ⟨ho, hk⟩ := stepB_iff.1 h
  have h2 := ho.2.1
  rcases can_kind hk with rfl | rfl | rfl | rfl | rfl
  · simp [stepC]
  · simp [stepC]
  · simp [stepC]
  · have hd := can_pos ho hk (by decide)
    have e0 : stepC n 3 = shut n n.w := rfl
    rw [e0, if_neg (by decide : ¬ (3 : Int) = 1)]
    by_cases e : n.d = 1
    · have e1 : shut n n.w = zeroN := if_pos e
      rw [e1, if_pos ⟨rfl, rfl⟩]
      simp [zeroN]
    · have e1 : shut n n.w = ⟨n.d - 1, n.w, n.m.take (n.m.length - 1), false⟩ := if_neg e
      rw [e1, if_neg (fun f => by have := f.2; simp only at this; omega)]
      simp
  · have hd := can_pos ho hk (by decide)
    have hl := lastM_le ho hd
    have e0 : stepC n 4 = shut n (lastM n) := rfl
    rw [e0, if_neg (by decide : ¬ (4 : Int) = 1), if_neg (fun f => by have := f.1; omega)]
    unfold shut
    split
    · simp [zeroN]; omega
    · simp; omega
theorem acc_work (l : List Int) : (acc l).s.w + (acc l).kept ≤ ones l ∧ 0 ≤ (acc l).kept ∧ (0 < (acc l).kept → 3 ∈ l) := by
  refine snoc_ind (P := fun l => (acc l).s.w + (acc l).kept ≤ ones l ∧ 0 ≤ (acc l).kept ∧ (0 < (acc l).kept → 3 ∈ l)) (by simp [acc, zeroN, ones]) (fun l x h => ?_) l
  obtain ⟨h1, h2, h3⟩ := h
  have hok := acc_ok l
  have hw := hok.2.1
  rw [acc_snoc, ones_snoc]
  unfold astep
  split
  · rename_i e
    have := step_w e
    refine ⟨by simp only; omega, ?_, fun g => ?_⟩
    · simp only; split <;> omega
    · simp only at g
      by_cases c : x = 3 ∧ (stepC (acc l).s x).d = 0
      · rw [List.mem_append]; exact .inr (by rw [c.1]; simp)
      · rw [if_neg c] at g
        rw [List.mem_append]; exact .inl (h3 (by omega))
  · refine ⟨by simp only; split <;> omega, h2, fun g => ?_⟩
    rw [List.mem_append]; exact .inl (h3 g)
theorem acc_kept (l : List Int) : 0 ≤ (acc l).kept ∧ (acc l).kept ≤ l.length := by
  have h1 := acc_work l
  have h2 := ones_range l
  have h3 := (acc_ok l).2.1
  omega

def fewB (l : List Int) : Bool := decide (l.length ≤ 16)
def runS (l : List Int) : Nst := if l.length ≤ 16 then (acc l).s else zeroN
def runV (l : List Int) : Int := if l.length ≤ 16 then (acc l).bad else -1
def keptV (l : List Int) : Int := if l.length ≤ 16 then (acc l).kept else -1
theorem runS_yes {l : List Int} (h : l.length ≤ 16) : runS l = (acc l).s := if_pos h
theorem runS_no {l : List Int} (h : ¬ l.length ≤ 16) : runS l = zeroN := if_neg h
theorem runV_yes {l : List Int} (h : l.length ≤ 16) : runV l = (acc l).bad := if_pos h
theorem runV_no {l : List Int} (h : ¬ l.length ≤ 16) : runV l = -1 := if_neg h
theorem keptV_yes {l : List Int} (h : l.length ≤ 16) : keptV l = (acc l).kept := if_pos h
theorem keptV_no {l : List Int} (h : ¬ l.length ≤ 16) : keptV l = -1 := if_neg h
theorem runS_ok (l : List Int) : Ok (runS l) := by
  unfold runS
  split
  · exact acc_ok l
  · exact zero_ok
theorem runS_len (l : List Int) : (runS l).m.length ≤ 4 := ok_len (runS_ok l)
theorem runV_range (l : List Int) : -1 ≤ runV l ∧ runV l ≤ 16 := by
  unfold runV
  have := acc_bad l
  split <;> omega
theorem keptV_range (l : List Int) : -1 ≤ keptV l ∧ keptV l ≤ 16 := by
  unfold keptV
  have := acc_kept l
  split <;> omega
theorem runV_few {l : List Int} (h : ¬ runV l < 0) : l.length ≤ 16 := by
  by_cases e : l.length ≤ 16
  · exact e
  · rw [runV_no e] at h; omega
theorem keptV_few {l : List Int} (h : ¬ keptV l < 0) : l.length ≤ 16 := by
  by_cases e : l.length ≤ 16
  · exact e
  · rw [keptV_no e] at h; omega
/-- Runs go command by command. -/
theorem run_law {l : List Int} {k : Nat} (hl : l.length ≤ 16) (hk : l.length = k + 1) (hk2 : k < l.length) :
    (stepB (runS (l.take k)) l[k] = false → runV l = runV (l.take k) + 1 ∧ runS l = runS (l.take k)) ∧
    (stepB (runS (l.take k)) l[k] = true → runV l = runV (l.take k) ∧ runS l = stepS (runS (l.take k)) l[k]) := by
  have e1 : (l.take k).length ≤ 16 := by rw [List.length_take]; omega
  have e2 := acc_take hk2
  rw [List.take_of_length_le (by omega)] at e2
  rw [runS_yes e1, runV_yes e1, runS_yes hl, runV_yes hl, e2]
  constructor
  · intro e
    unfold astep
    rw [if_neg (by simp [e])]
    exact ⟨rfl, rfl⟩
  · intro e
    unfold astep
    rw [if_pos e, stepS_yes e]
    exact ⟨rfl, rfl⟩
/-- Later commands lose nothing that was kept. -/
theorem kept_law {l : List Int} {k : Nat} (hl : l.length ≤ 16) (hk : l.length = k + 1) (hk2 : k < l.length) :
    keptV (l.take k) = keptV l ∨ keptV l = keptV (l.take k) + (runS (l.take k)).w ∧ l[k] = 3 := by
  have e1 : (l.take k).length ≤ 16 := by rw [List.length_take]; omega
  have e2 := acc_take hk2
  rw [List.take_of_length_le (by omega)] at e2
  rw [runS_yes e1, keptV_yes e1, keptV_yes hl, e2]
  unfold astep
  split
  · by_cases c : l[k] = 3 ∧ (stepC (acc (l.take k)).s l[k]).d = 0
    · right; simp only; rw [if_pos c]; exact ⟨rfl, c.1⟩
    · left; simp only; rw [if_neg c]; omega
  · exact .inl rfl
/-- Work that is kept at once is all kept. -/
theorem kept_simple {l : List Int} (hl : l.length + 4 ≤ 16) (hd : (runS l).d = 0) : keptV (l ++ [0, 1, 1, 3]) = keptV l + 2 := by
  have h1 := acc_ok l
  rw [runS_yes (by omega)] at hd
  have h2 := ok_zero h1 hd
  rw [keptV_yes (l := l) (by omega), keptV_yes (by rw [List.length_append]; exact hl)]
  have e : acc (l ++ [0, 1, 1, 3]) = astep (astep (astep (astep (acc l) 0) 1) 1) 3 := by simp [acc]
  rw [e]
  have ha : ∃ b k, acc l = ⟨zeroN, b, k⟩ := by
    rcases h3 : acc l with ⟨s, b, k⟩
    rw [h3] at h2
    simp only at h2
    subst h2
    exact ⟨b, k, rfl⟩
  obtain ⟨b, k, ha⟩ := ha
  rw [ha]
  have g0 : astep ⟨zeroN, b, k⟩ 0 = ⟨⟨1, 0, [0], false⟩, b, k⟩ := by
    have h : stepB zeroN 0 = true := by decide
    unfold astep
    rw [if_pos h]
    show Acc.mk (stepC zeroN 0) b (k + if (0 : Int) = 3 ∧ (stepC zeroN 0).d = 0 then zeroN.w else 0) = _
    rw [if_neg (by decide), show stepC zeroN 0 = ⟨1, 0, [0], false⟩ by decide, Int.add_zero]
  have g1 : ∀ w : Int, w = 0 ∨ w = 1 → astep ⟨⟨1, w, [0], false⟩, b, k⟩ 1 = ⟨⟨1, w + 1, [0], false⟩, b, k⟩ := by
    intro w hw
    have h : stepB ⟨1, w, [0], false⟩ 1 = true := by rcases hw with rfl | rfl <;> decide
    unfold astep
    rw [if_pos h]
    show Acc.mk ⟨1, w + 1, [0], false⟩ b (k + if (1 : Int) = 3 ∧ _ then w else 0) = _
    rw [if_neg (fun e => by have := e.1; omega), Int.add_zero]
  have g3 : astep ⟨⟨1, 2, [0], false⟩, b, k⟩ 3 = ⟨zeroN, b, k + 2⟩ := by
    have h : stepB ⟨1, 2, [0], false⟩ 3 = true := by decide
    unfold astep
    rw [if_pos h]
    show Acc.mk (stepC ⟨1, 2, [0], false⟩ 3) b (k + if (3 : Int) = 3 ∧ (stepC ⟨1, 2, [0], false⟩ 3).d = 0 then 2 else 0) = _
    rw [if_pos (by decide), show stepC ⟨1, 2, [0], false⟩ 3 = zeroN by decide]
  rw [g0, g1 0 (.inl rfl), show (0 : Int) + 1 = 1 from rfl, g1 1 (.inr rfl), show (1 : Int) + 1 = 2 from rfl, g3]

/-! Cleaning. -/
def cleanL (n : Nst) : List Int := if nestB n = true then List.replicate n.d.toNat 4 else []
theorem clean_yes {n : Nst} (h : nestB n = true) : cleanL n = List.replicate n.d.toNat 4 := if_pos h
theorem clean_no {n : Nst} (h : nestB n = false) : cleanL n = [] := if_neg (by simp [h])
theorem clean_len (n : Nst) : (cleanL n).length ≤ 4 := by
  unfold cleanL
  split
  · rename_i h
    have := (nestB_iff.1 h).1
    rw [List.length_replicate]; omega
  · simp
theorem clean_in {n : Nst} {x : Int} (h : x ∈ cleanL n) : x = 4 := by
  unfold cleanL at h
  split at h
  · exact (List.mem_replicate.1 h).2
  · cases h
theorem clean_zero : cleanL zeroN = [] := by decide
/-- The state behind k commands that take back. -/
def backs (n : Nst) : Nat → Nst
  | 0 => n
  | k + 1 => stepC (backs n k) 4
theorem backs_ok {n : Nst} (h : Ok n) : ∀ k : Nat, (k : Int) ≤ n.d → Ok (backs n k) ∧ (backs n k).d = n.d - k
  | 0, _ => ⟨h, by simp [backs]⟩
  | k + 1, hk => by
    obtain ⟨h1, h2⟩ := backs_ok h k (by omega)
    have h3 : stepB (backs n k) 4 = true := stepB_iff.2 ⟨h1, (can_back h1).2 (by omega)⟩
    refine ⟨step_ok h3, ?_⟩
    show (stepC (backs n k) 4).d = _
    rw [step_d h3, h2]
    simp
    omega
theorem backs_step {n : Nst} (h : Ok n) {k : Nat} (hk : (k : Int) < n.d) : stepB (backs n k) 4 = true ∧ stepS (backs n k) 4 = backs n (k + 1) := by
  obtain ⟨h1, h2⟩ := backs_ok h k (by omega)
  have h3 : stepB (backs n k) 4 = true := stepB_iff.2 ⟨h1, (can_back h1).2 (by omega)⟩
  exact ⟨h3, stepS_yes h3⟩
theorem backs_end {n : Nst} (h : Ok n) {k : Nat} (hk : (k : Int) = n.d) : backs n k = zeroN := by
  obtain ⟨h1, h2⟩ := backs_ok h k (by omega)
  exact ok_zero h1 (by omega)
end Go.Proofs.Ytocaddibdiikpaa.Nes

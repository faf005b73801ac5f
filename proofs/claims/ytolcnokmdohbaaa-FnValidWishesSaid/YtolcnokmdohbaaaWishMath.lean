/-
  Plain facts on wishes: which are valid, when they are served by connections that are free at some times. No condition; nothing of the program's text is used here.
-/
namespace Go.Proofs.Ytolcnokmdohbaaa.Wis

structure Wi where
  a : Int
  h : Int
  p : Int
deriving DecidableEq

def Wi.ok (x : Wi) : Bool := decide (0 ≤ x.a ∧ x.a ≤ 1000 ∧ 1 ≤ x.h ∧ x.h ≤ 100 ∧ 0 ≤ x.p ∧ x.p ≤ 100)
theorem Wi.ok_iff {x : Wi} : x.ok = true ↔ 0 ≤ x.a ∧ x.a ≤ 1000 ∧ 1 ≤ x.h ∧ x.h ≤ 100 ∧ 0 ≤ x.p ∧ x.p ≤ 100 := by unfold Wi.ok; simp
def Fine (l : List Wi) : Prop := (∀ x ∈ l, x.ok = true) ∧ l.Pairwise (fun x y => x.a ≤ y.a)
instance (l : List Wi) : Decidable (Fine l) := inferInstanceAs (Decidable (_ ∧ _))
def wishB (l : List Wi) : Bool := decide (l.length ≤ 12 ∧ Fine l)
theorem wishB_iff {l : List Wi} : wishB l = true ↔ l.length ≤ 12 ∧ Fine l := by unfold wishB; simp
theorem Fine.nil : Fine [] := ⟨by simp, List.Pairwise.nil⟩
theorem Fine.sub {l m : List Wi} (h : Fine m) (hs : l.Sublist m) : Fine l := ⟨fun x hx => h.1 x (hs.subset hx), h.2.sublist hs⟩
theorem Fine.take {l : List Wi} (h : Fine l) (k : Nat) : Fine (l.take k) := h.sub (List.take_sublist k l)
theorem wish_sub {l m : List Wi} (h : wishB m = true) (hs : l.Sublist m) : wishB l = true := by
  obtain ⟨h1, h2⟩ := wishB_iff.1 h
  exact wishB_iff.2 ⟨Nat.le_trans hs.length_le h1, h2.sub hs⟩
theorem fine_take_succ {l : List Wi} {k : Nat} (hk : k < l.length) : Fine (l.take (k + 1)) ↔ Fine (l.take k) ∧ l[k].ok = true ∧ (0 < k → l[k - 1].a ≤ l[k].a) := by
  rw [List.take_succ_eq_append_getElem hk]
  unfold Fine
  rw [List.pairwise_append]
  constructor
  · rintro ⟨h1, h2, _, h3⟩
    refine ⟨⟨fun x hx => h1 x (List.mem_append_left _ hx), h2⟩, h1 _ (List.mem_append_right _ (by simp)), fun h0 => h3 _ ?_ _ (by simp)⟩
    exact List.mem_take_iff_getElem.2 ⟨k - 1, by omega, rfl⟩
  · rintro ⟨⟨h1, h2⟩, h3, h4⟩
    refine ⟨fun x hx => ?_, h2, by simp, ?_⟩
    · rcases List.mem_append.1 hx with hx | hx
      · exact h1 x hx
      · rw [List.mem_singleton.1 hx]; exact h3
    · intro x hx y hy
      rw [List.mem_singleton.1 hy]
      obtain ⟨j, hj, rfl⟩ := List.mem_take_iff_getElem.1 hx
      have h0 : 0 < k := by omega
      have h5 := h4 h0
      rcases Nat.lt_or_ge j (k - 1) with e | e
      · have := List.pairwise_iff_getElem.1 h2 j (k - 1) (by simp; omega) (by simp; omega) e
        simp at this
        omega
      · have : j = k - 1 := by omega
        subst this; exact h5
theorem fine_get {l : List Wi} (h : Fine l) {j k : Nat} (hj : j < l.length) (hk : k < l.length) (hjk : j ≤ k) : l[j].a ≤ l[k].a := by
  rcases Nat.lt_or_ge j k with e | e
  · exact List.pairwise_iff_getElem.1 h.2 j k hj hk e
  · have : j = k := by omega
    subst this; exact Int.le_refl _
theorem ok_of {l : List Wi} {k : Nat} (hk : k < l.length) (hv : wishB l = true) : l[k].ok = true := (wishB_iff.1 hv).2.1 _ (List.getElem_mem hk)

/-! Times at which connections are free, ascending. -/
def Asc (f : List Int) : Prop := f.Pairwise (· ≤ ·)
/-- A number put into ascending ones. -/
def ins (t : Int) : List Int → List Int
  | [] => [t]
  | x :: l => if t ≤ x then t :: x :: l else x :: ins t l
theorem ins_perm (t : Int) : ∀ l : List Int, (ins t l).Perm (t :: l)
  | [] => List.Perm.refl _
  | x :: l => by
    unfold ins
    split
    · exact List.Perm.refl _
    · exact ((ins_perm t l).cons x).trans (List.Perm.swap t x l)
theorem ins_len (t : Int) (l : List Int) : (ins t l).length = l.length + 1 := by rw [(ins_perm t l).length_eq]; rfl
theorem ins_asc {t : Int} : ∀ {l : List Int}, Asc l → Asc (ins t l)
  | [], _ => by simp [ins, Asc]
  | x :: l, h => by
    unfold ins
    obtain ⟨h1, h2⟩ := List.pairwise_cons.1 h
    split
    · rename_i e
      exact List.pairwise_cons.2 ⟨fun y hy => (List.mem_cons.1 hy).elim (fun e2 => by omega) (fun hy => by have := h1 y hy; omega), h⟩
    · rename_i e
      refine List.pairwise_cons.2 ⟨fun y hy => ?_, ins_asc h2⟩
      rcases List.mem_cons.1 ((ins_perm t l).mem_iff.1 hy) with e2 | hy
      · omega
      · exact h1 y hy
/-- When a wish can be served at the soonest. -/
def soon (f : List Int) (x : Wi) : Int := max x.a (f.headD 0)
def okAt (f : List Int) (x : Wi) : Bool := decide (soon f x ≤ x.a + x.p)
def servT (f : List Int) (x : Wi) : Int := if okAt f x = true then soon f x else -1
def servF (f : List Int) (x : Wi) : List Int := if okAt f x = true then ins (soon f x + x.h) f.tail else f
def after (f : List Int) (l : List Wi) : List Int := l.foldl servF f
def run (f : List Int) : List Wi → List Int
  | [] => []
  | x :: l => servT f x :: run (servF f x) l
theorem run_len (f : List Int) (l : List Wi) : (run f l).length = l.length := by
  induction l generalizing f with
  | nil => rfl
  | cons x l ih => simp [run, ih]
theorem run_app (f : List Int) (l m : List Wi) : run f (l ++ m) = run f l ++ run (after f l) m := by
  induction l generalizing f with
  | nil => rfl
  | cons x l ih => simp [run, after, ih]
theorem after_app (f : List Int) (l m : List Wi) : after f (l ++ m) = after (after f l) m := by simp [after]
theorem run_succ {f : List Int} {l : List Wi} {k : Nat} (hk : k < l.length) : run f (l.take (k + 1)) = run f (l.take k) ++ [servT (after f (l.take k)) l[k]] := by
  rw [List.take_succ_eq_append_getElem hk, run_app]; rfl
theorem after_succ {f : List Int} {l : List Wi} {k : Nat} (hk : k < l.length) : after f (l.take (k + 1)) = servF (after f (l.take k)) l[k] := by
  rw [List.take_succ_eq_append_getElem hk, after_app]; rfl
theorem run_take (f : List Int) (l : List Wi) (k : Nat) : run f (l.take k) = (run f l).take k := by
  have h := run_app f (l.take k) (l.drop k)
  rw [List.take_append_drop] at h
  rw [h]
  rcases Nat.lt_or_ge k l.length with e | e
  · rw [List.take_left' (by rw [run_len, List.length_take]; omega)]
  · rw [List.drop_of_length_le e]; simp [run, List.take_of_length_le (Nat.le_trans (Nat.le_of_eq (run_len _ _)) (List.length_take_le _ _))]
theorem run_get {f : List Int} {l : List Wi} {k : Nat} (hk : k < l.length) : (run f l)[k]? = some (servT (after f (l.take k)) l[k]) := by
  have h : (run f l).take (k + 1) = _ := (run_take f l (k + 1)).symm.trans (run_succ hk)
  have h2 : ((run f l).take (k + 1))[k]? = (run f l)[k]? := by rw [List.getElem?_take]; simp
  rw [← h2, h, List.getElem?_append_right (by rw [run_len, List.length_take]; omega), run_len, List.length_take]
  have : k - min k l.length = 0 := by omega
  rw [this]; rfl
theorem stepF_len {f : List Int} {x : Wi} (h : f ≠ []) : (servF f x).length = f.length := by
  unfold servF
  split
  · rw [ins_len, List.length_tail]
    have := List.length_pos_iff.2 h
    omega
  · rfl
theorem after_len {f : List Int} {l : List Wi} (h : f ≠ []) : (after f l).length = f.length := by
  induction l generalizing f with
  | nil => rfl
  | cons x l ih =>
    have e := stepF_len (x := x) h
    have : servF f x ≠ [] := by
      intro e2; rw [e2] at e
      exact h (List.eq_nil_of_length_eq_zero e.symm)
    show (after (servF f x) l).length = _
    rw [ih this, e]
def InT (f : List Int) : Prop := Asc f ∧ ∀ t ∈ f, 0 ≤ t ∧ t ≤ 1200
theorem head_mem {f : List Int} (h : f ≠ []) : f.headD 0 ∈ f := by
  cases f with
  | nil => exact absurd rfl h
  | cons x l => simp
theorem head_le {f : List Int} (h : Asc f) {t : Int} (ht : t ∈ f) : f.headD 0 ≤ t := by
  cases f with
  | nil => simp at ht
  | cons x l =>
    rcases List.mem_cons.1 ht with e | e
    · simp [e]
    · exact (List.pairwise_cons.1 h).1 t e
theorem soon_bd {f : List Int} {x : Wi} (hx : x.ok = true) (hf : InT f) (hn : f ≠ []) : 0 ≤ soon f x ∧ soon f x ≤ 1200 ∧ x.a ≤ soon f x := by
  have h1 := Wi.ok_iff.1 hx
  have h2 := hf.2 _ (head_mem hn)
  unfold soon
  omega
theorem stepF_in {f : List Int} {x : Wi} (hx : x.ok = true) (hf : InT f) (hn : f ≠ []) : InT (servF f x) := by
  have h1 := Wi.ok_iff.1 hx
  have h2 := soon_bd hx hf hn
  unfold servF
  split
  · rename_i e
    have e := of_decide_eq_true e
    refine ⟨ins_asc (hf.1.sublist (List.tail_sublist f)), fun t ht => ?_⟩
    rcases List.mem_cons.1 ((ins_perm _ _).mem_iff.1 ht) with e2 | ht
    · omega
    · exact hf.2 t (List.mem_of_mem_tail ht)
  · exact hf
theorem after_ne {f : List Int} {l : List Wi} (h : f ≠ []) : after f l ≠ [] := by
  intro e
  have := after_len (l := l) h
  rw [e] at this
  exact h (List.eq_nil_of_length_eq_zero this.symm)
theorem after_in {f : List Int} {l : List Wi} (hl : ∀ x ∈ l, x.ok = true) (hf : InT f) (hn : f ≠ []) : InT (after f l) := by
  induction l generalizing f with
  | nil => exact hf
  | cons x l ih =>
    have e := stepF_len (x := x) hn
    refine ih (fun y hy => hl y (by simp [hy])) (stepF_in (hl x (by simp)) hf hn) ?_
    intro e2; rw [e2] at e
    exact hn (List.eq_nil_of_length_eq_zero e.symm)
def zeros (m : Nat) : List Int := List.replicate m 0
theorem zeros_ne {m : Nat} (h : 0 < m) : zeros m ≠ [] := by unfold zeros; cases m with | zero => omega | succ m => simp [List.replicate_succ]
theorem zeros_in (m : Nat) : InT (zeros m) := by
  unfold zeros InT Asc
  refine ⟨?_, fun t ht => ?_⟩
  · exact List.pairwise_replicate.2 (.inr (Int.le_refl _))
  · rw [(List.mem_replicate.1 ht).2]; omega
theorem take_ok {l : List Wi} (hv : wishB l = true) (k : Nat) : ∀ x ∈ l.take k, x.ok = true := fun x hx => (wishB_iff.1 hv).2.1 x (List.mem_of_mem_take hx)
theorem state_in {l : List Wi} (hv : wishB l = true) {m : Nat} (hm : 0 < m) (k : Nat) : InT (after (zeros m) (l.take k)) := after_in (take_ok hv k) (zeros_in m) (zeros_ne hm)

/-! What the functions answer. -/
def serveB (l : List Wi) (m : Int) : Bool := wishB l && decide (1 ≤ m ∧ m ≤ 6)
def serveL (l : List Wi) (m : Int) : List Int := if serveB l m = true then run (zeros m.toNat) l else []
def servN (l : List Int) : Int := (l.countP (fun t => decide (t ≠ -1)) : Nat)
def countS (l : List Wi) (m : Int) : Int := if serveB l m = true then servN (run (zeros m.toNat) l) else -1
def waits : List Int → List Wi → Int
  | t :: ts, x :: l => max (waits ts l) (if t = -1 then 0 else t - x.a)
  | _, _ => 0
def longest (l : List Wi) (m : Int) : Int := if serveB l m = true then waits (run (zeros m.toNat) l) l else -1
def firstAll (l : List Wi) : Nat → Nat → Int
  | _, 0 => -1
  | n, k + 1 => if countS l n = l.length then n else firstAll l (n + 1) k
def connsFor (l : List Wi) : Int := if wishB l = true then firstAll l 1 6 else -1
theorem serve_len (l : List Wi) (m : Int) : (serveL l m).length ≤ l.length := by
  unfold serveL; split
  · rw [run_len]; exact Nat.le_refl _
  · simp
theorem stepT_cases (f : List Int) (x : Wi) : (okAt f x = true ∧ servT f x = soon f x) ∨ (okAt f x = false ∧ servT f x = -1) := by
  unfold servT
  rcases h : okAt f x with _ | _ <;> simp
theorem stepT_ge {f : List Int} {x : Wi} (hx : x.ok = true) (hf : InT f) (hn : f ≠ []) : (servT f x = -1 ∨ 0 ≤ servT f x) ∧ servT f x ≤ 1200 := by
  have := soon_bd hx hf hn
  rcases stepT_cases f x with ⟨_, e⟩ | ⟨_, e⟩ <;> rw [e] <;> omega

/-! A heap of times. -/
def at_ (H : List Int) (i : Nat) : Int := H.getD i 0
theorem at_get {H : List Int} {i : Nat} (h : i < H.length) : at_ H i = H[i] := by simp [at_, h]
theorem at_set {H : List Int} {i j : Nat} {v : Int} (h : i < H.length) : at_ (H.set i v) j = if i = j then v else at_ H j := by
  unfold at_
  rw [List.getD_eq_getElem?_getD, List.getElem?_set, List.getD_eq_getElem?_getD]
  split
  · rename_i e; subst e; simp
  · rfl
def IsHeap (H : List Int) : Prop := ∀ i, 0 < i → i < H.length → at_ H ((i - 1) / 2) ≤ at_ H i
theorem heap_least {H : List Int} (h : IsHeap H) : ∀ i, i < H.length → at_ H 0 ≤ at_ H i := by
  intro i
  induction i using Nat.strongRecOn with
  | ind i ih =>
    intro hi
    rcases Nat.eq_zero_or_pos i with e | e
    · subst e; exact Int.le_refl _
    · have h1 := h i e hi
      have h2 := ih ((i - 1) / 2) (by omega) (by omega)
      omega
theorem heap_head {H f : List Int} (h : IsHeap H) (hp : H.Perm f) (hf : Asc f) (hn : f ≠ []) : at_ H 0 = f.headD 0 := by
  have hl : 0 < H.length := by rw [hp.length_eq]; exact List.length_pos_iff.2 hn
  have h1 : at_ H 0 ∈ f := hp.mem_iff.1 (by rw [at_get hl]; exact List.getElem_mem hl)
  have h2 := head_le hf h1
  obtain ⟨i, hi, e⟩ := List.mem_iff_getElem.1 (hp.mem_iff.2 (head_mem hn))
  have h3 := heap_least h i hi
  rw [at_get hi, e] at h3
  omega
/-- The place of the lesser child of a place, -1 if it has none. -/
def lesser (H : List Int) (p : Nat) : Int :=
  if 2 * p + 1 < H.length then (if 2 * p + 2 < H.length ∧ at_ H (2 * p + 2) < at_ H (2 * p + 1) then ((2 * p + 2 : Nat) : Int) else ((2 * p + 1 : Nat) : Int)) else -1
theorem lesser_cases (H : List Int) (p : Nat) : (lesser H p = -1 ∧ H.length ≤ 2 * p + 1) ∨ ∃ c : Nat, lesser H p = c ∧ c < H.length ∧ (c = 2 * p + 1 ∨ c = 2 * p + 2) ∧ ∀ i, i < H.length → 0 < i → (i - 1) / 2 = p → at_ H c ≤ at_ H i := by
  unfold lesser
  split
  · rename_i h1
    right
    split
    · rename_i h2
      refine ⟨2 * p + 2, rfl, h2.1, .inr rfl, fun i hi h0 hp => ?_⟩
      have : i = 2 * p + 1 ∨ i = 2 * p + 2 := by omega
      rcases this with e | e
      · subst e; omega
      · subst e; exact Int.le_refl _
    · rename_i h2
      refine ⟨2 * p + 1, rfl, h1, .inl rfl, fun i hi h0 hp => ?_⟩
      have : i = 2 * p + 1 ∨ i = 2 * p + 2 := by omega
      rcases this with e | e
      · subst e; exact Int.le_refl _
      · subst e; rcases Decidable.em (at_ H (2 * p + 2) < at_ H (2 * p + 1)) with h3 | h3
        · exact absurd ⟨hi, h3⟩ h2
        · omega
  · exact .inl ⟨rfl, by omega⟩
/-- A heap with a hole at a place, into which a number can sink. -/
def Hole (H : List Int) (p : Nat) (t : Int) : Prop :=
  p < H.length ∧ (∀ i, 0 < i → i < H.length → i ≠ p → (i - 1) / 2 ≠ p → at_ H ((i - 1) / 2) ≤ at_ H i) ∧
  (∀ i, 0 < i → i < H.length → (i - 1) / 2 = p → 0 < p → at_ H ((p - 1) / 2) ≤ at_ H i) ∧ (0 < p → at_ H ((p - 1) / 2) ≤ t)
theorem hole_start {H : List Int} (h : IsHeap H) (hn : 0 < H.length) (t : Int) : Hole H 0 t :=
  ⟨hn, fun i h0 hi _ _ => h i h0 hi, fun i _ _ _ h0 => absurd h0 (by omega), fun h0 => absurd h0 (by omega)⟩
theorem hole_step {H : List Int} {p c : Nat} {t : Int} (h : Hole H p t) (hc : lesser H p = c) (hlt : at_ H c < t) : Hole (H.set p (at_ H c)) c t ∧ p < c := by
  obtain ⟨h0, h1, h2, h3⟩ := h
  rcases lesser_cases H p with ⟨e, _⟩ | ⟨c', e, hcl, hcc, hmin⟩
  · omega
  · obtain rfl : c = c' := by omega
    have hpc : (c - 1) / 2 = p := by omega
    refine ⟨⟨by simpa using hcl, ?_, ?_, ?_⟩, by omega⟩
    · intro i i0 il ic ip
      rw [List.length_set] at il
      rw [at_set h0, at_set h0]
      by_cases e1 : p = (i - 1) / 2
      · rw [if_pos e1, if_neg (by omega)]
        exact hmin i il i0 e1.symm
      · rw [if_neg e1]
        by_cases e2 : p = i
        · rw [if_pos e2]
          have := h2 c (by omega) hcl hpc (by omega)
          subst e2; exact this
        · rw [if_neg e2]
          exact h1 i i0 il (fun e => e2 e.symm) (fun e => e1 e.symm)
    · intro i i0 il ip c0
      rw [List.length_set] at il
      rw [at_set h0, at_set h0, if_pos hpc.symm, if_neg (by omega)]
      have := h1 i i0 il (by omega) (by omega)
      rw [ip] at this; exact this
    · intro c0
      rw [at_set h0, if_pos hpc.symm]; omega
theorem hole_end {H : List Int} {p : Nat} {t : Int} (h : Hole H p t) (he : lesser H p = -1 ∨ ∃ c : Nat, lesser H p = c ∧ ¬ at_ H c < t) : IsHeap (H.set p t) := by
  obtain ⟨h0, h1, h2, h3⟩ := h
  intro i i0 il
  rw [List.length_set] at il
  rw [at_set h0, at_set h0]
  by_cases e1 : p = (i - 1) / 2
  · rw [if_pos e1, if_neg (by omega)]
    rcases he with e | ⟨c, e, hc⟩
    · rcases lesser_cases H p with ⟨_, hl⟩ | ⟨c', e', _⟩
      · omega
      · omega
    · rcases lesser_cases H p with ⟨e', _⟩ | ⟨c', e', _, _, hmin⟩
      · omega
      · obtain rfl : c = c' := by omega
        have := hmin i il i0 e1.symm
        omega
  · rw [if_neg e1]
    by_cases e2 : p = i
    · rw [if_pos e2]; subst e2; exact h3 i0
    · rw [if_neg e2]; exact h1 i i0 il (fun e => e2 e.symm) (fun e => e1 e.symm)
theorem set_swap_perm {H : List Int} {p c : Nat} (hp : p < H.length) (hc : c < H.length) (hne : p ≠ c) (t : Int) : ((H.set p (at_ H c)).set c t).Perm (H.set p t) := by
  have h1 := List.set_set_perm (as := H.set p t) (i := p) (j := c) (by simpa using hp) (by simpa using hc)
  have e1 : (H.set p t)[c]'(by simpa using hc) = at_ H c := by rw [List.getElem_set_ne hne, at_get hc]
  have e2 : (H.set p t)[p]'(by simpa using hp) = t := by simp
  rw [e1, e2, List.set_set] at h1
  exact h1
theorem set_zero_perm {H : List Int} {t : Int} : (H.set 0 t).tail = H.tail := by cases H <;> rfl
theorem least_perm {H H' f : List Int} {t : Int} (hp : H.Perm f) (h0 : at_ H 0 = f.headD 0) (hn : f ≠ []) (h : H'.Perm (H.set 0 t)) : H'.Perm (ins t f.tail) := by
  have hl : H ≠ [] := fun e => hn (by subst e; exact List.Perm.eq_nil hp.symm)
  refine h.trans (List.Perm.trans ?_ (ins_perm t f.tail).symm)
  cases H with
  | nil => exact absurd rfl hl
  | cons a H =>
    cases f with
    | nil => exact absurd rfl hn
    | cons b f =>
      have e : a = b := by simpa [at_] using h0
      subst e
      simp only [List.set_cons_zero, List.tail_cons]
      exact (List.Perm.cons_inv hp).cons t
/-- The same for any place that has the least number. -/
theorem least_perm_at {H f : List Int} {t : Int} {i : Nat} (hp : H.Perm f) (hi : i < H.length) (h0 : H[i] = f.headD 0) (hn : f ≠ []) : (H.set i t).Perm (ins t f.tail) := by
  refine List.Perm.trans ?_ (ins_perm t f.tail).symm
  cases f with
  | nil => exact absurd rfl hn
  | cons b f =>
    simp only [List.headD_cons] at h0
    simp only [List.tail_cons]
    have hs : H.set i t = H.take i ++ t :: H.drop (i + 1) := by rw [List.set_eq_take_append_cons_drop, if_pos hi]
    have hh : H = H.take i ++ H[i] :: H.drop (i + 1) := by rw [← List.drop_eq_getElem_cons hi, List.take_append_drop]
    have h1 : H.Perm (H[i] :: (H.take i ++ H.drop (i + 1))) := by
      conv => lhs; rw [hh]
      exact List.perm_middle
    have h2 : (H.set i t).Perm (t :: (H.take i ++ H.drop (i + 1))) := by rw [hs]; exact List.perm_middle
    rw [h0] at h1
    exact h2.trans ((List.Perm.cons_inv (h1.symm.trans hp)).cons t)
end Go.Proofs.Ytolcnokmdohbaaa.Wis

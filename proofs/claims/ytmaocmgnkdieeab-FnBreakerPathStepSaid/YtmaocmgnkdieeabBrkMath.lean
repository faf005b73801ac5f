/-
  Plain facts on breakers: which are valid, what beginning and ending a call make of them, the states of a path. No condition; nothing of the program's text is used here.
-/
namespace Go.Proofs.Ytmaocmgnkdieeab.Brk

structure Br where
  li : Int
  re : Int
  st : Int
  fa : Int
  si : Int
deriving DecidableEq
def Br.zero : Br := ⟨0, 0, 0, 0, 0⟩
theorem Br.ext' {a b : Br} (h1 : a.li = b.li) (h2 : a.re = b.re) (h3 : a.st = b.st) (h4 : a.fa = b.fa) (h5 : a.si = b.si) : a = b := by
  cases a; cases b; simp_all

def Ok (b : Br) : Prop := (1 ≤ b.li ∧ b.li ≤ 8) ∧ (1 ≤ b.re ∧ b.re ≤ 1000) ∧ (0 ≤ b.st ∧ b.st ≤ 2) ∧ (0 ≤ b.fa ∧ b.fa ≤ b.li - 1) ∧ (0 ≤ b.si ∧ b.si ≤ 1000) ∧ (b.st = 0 ∨ b.fa = 0)
instance (b : Br) : Decidable (Ok b) := inferInstanceAs (Decidable (_ ∧ _))
def okB (b : Br) : Bool := decide (Ok b)
theorem okB_iff {b : Br} : okB b = true ↔ Ok b := by unfold okB; simp
def momB (b : Br) (t : Int) : Bool := okB b && decide (b.si ≤ t ∧ t ≤ 1000)
theorem momB_iff {b : Br} {t : Int} : momB b t = true ↔ Ok b ∧ b.si ≤ t ∧ t ≤ 1000 := by unfold momB; simp [okB_iff]
def lets (b : Br) (t : Int) : Bool := decide (b.st = 0 ∨ (b.st = 1 ∧ b.re ≤ t - b.si))
theorem lets_iff {b : Br} {t : Int} : lets b t = true ↔ b.st = 0 ∨ (b.st = 1 ∧ b.re ≤ t - b.si) := by unfold lets; simp
def letsB (b : Br) (t : Int) : Bool := momB b t && lets b t
theorem letsB_iff {b : Br} {t : Int} : letsB b t = true ↔ (Ok b ∧ b.si ≤ t ∧ t ≤ 1000) ∧ (b.st = 0 ∨ (b.st = 1 ∧ b.re ≤ t - b.si)) := by unfold letsB; rw [Bool.and_eq_true, momB_iff, lets_iff]
def beg (b : Br) (t : Int) : Br := if b.st = 1 then ⟨b.li, b.re, 2, b.fa, t⟩ else b
def begR (b : Br) (t : Int) : Br := if letsB b t = true then beg b t else Br.zero
/-- The state after a call has ended. -/
def stA (b : Br) (g : Bool) : Int := if b.st = 1 then 1 else if g = true then 0 else if b.st = 2 ∨ b.fa + 1 = b.li then 1 else 0
def faA (b : Br) (g : Bool) : Int := if g = true ∨ stA b g ≠ 0 then 0 else b.fa + 1
def fin (b : Br) (g : Bool) (t : Int) : Br := ⟨b.li, b.re, stA b g, faA b g, if stA b g = b.st then b.si else t⟩
def finR (b : Br) (g : Bool) (t : Int) : Br := if momB b t = true then fin b g t else Br.zero
theorem stA_cases (b : Br) (g : Bool) : stA b g = 0 ∨ stA b g = 1 := by
  unfold stA
  split
  · exact .inr rfl
  · split
    · exact .inl rfl
    · split
      · exact .inr rfl
      · exact .inl rfl
theorem beg_ok {b : Br} {t : Int} (h : Ok b) (h0 : b.si ≤ t) (h1 : t ≤ 1000) : Ok (beg b t) ∧ (beg b t).si ≤ t := by
  unfold beg
  obtain ⟨a, b', c, d, e, f⟩ := h
  split
  · rename_i hs
    refine ⟨⟨a, b', ⟨(by omega : (0 : Int) ≤ 2), (by omega : (2 : Int) ≤ 2)⟩, d, ⟨by show 0 ≤ t; omega, h1⟩, .inr (f.resolve_left (by omega))⟩, Int.le_refl _⟩
  · exact ⟨⟨a, b', c, d, e, f⟩, h0⟩
theorem fin_ok {b : Br} {g : Bool} {t : Int} (h : Ok b) (h0 : b.si ≤ t) (h1 : t ≤ 1000) : Ok (fin b g t) ∧ (fin b g t).si ≤ t := by
  obtain ⟨a, b', c, d, e, f⟩ := h
  have hc := stA_cases b g
  have hsi : (0 : Int) ≤ (if stA b g = b.st then b.si else t) ∧ (if stA b g = b.st then b.si else t) ≤ t := by split <;> constructor <;> omega
  have hfa : (0 ≤ faA b g ∧ faA b g ≤ b.li - 1) ∧ (stA b g = 0 ∨ faA b g = 0) := by
    unfold faA
    split
    · exact ⟨⟨by omega, by omega⟩, .inr rfl⟩
    · rename_i hn
      have hg : g = false := by cases g <;> simp_all
      have h0 : stA b g = 0 := Decidable.byContradiction fun hh => hn (.inr hh)
      refine ⟨⟨by omega, ?_⟩, .inl h0⟩
      unfold stA at h0
      rw [hg] at h0
      split at h0
      · omega
      · simp only [Bool.false_eq_true, if_false] at h0
        split at h0
        · omega
        · omega
  refine ⟨⟨a, b', ?_, hfa.1, ⟨hsi.1, by show (if stA b g = b.st then b.si else t) ≤ 1000; omega⟩, hfa.2⟩, hsi.2⟩
  show 0 ≤ stA b g ∧ stA b g ≤ 2
  omega
/-- What one call makes of a breaker: it begins and ends at once, if it is let pass. -/
def once (b : Br) (g : Bool) (t : Int) : Br := if lets b t = true then fin (beg b t) g t else b
theorem once_ok {b : Br} {g : Bool} {t : Int} (h : Ok b) (h0 : b.si ≤ t) (h1 : t ≤ 1000) : Ok (once b g t) ∧ (once b g t).si ≤ t := by
  unfold once
  split
  · obtain ⟨a, b'⟩ := beg_ok h h0 h1
    exact fin_ok a b' h1
  · exact ⟨h, h0⟩
/-- The breaker after k calls. -/
def brAt (b : Br) (gs : List Bool) (ts : List Int) : Nat → Br
  | 0 => b
  | k + 1 => once (brAt b gs ts k) (gs.getD k false) (ts.getD k 0)
def nofall (ts : List Int) : Bool := decide (∀ i ∈ List.range ts.length, i + 1 < ts.length → ts.getD i 0 ≤ ts.getD (i + 1) 0)
theorem nofall_iff {ts : List Int} : nofall ts = true ↔ ∀ i, i + 1 < ts.length → ts.getD i 0 ≤ ts.getD (i + 1) 0 := by
  unfold nofall
  rw [decide_eq_true_eq]
  exact ⟨fun h i hi => h i (by rw [List.mem_range]; omega) hi, fun h i _ hi => h i hi⟩
def PathOk (b : Br) (gs : List Bool) (ts : List Int) : Prop := Ok b ∧ ts.length = gs.length ∧ gs.length ≤ 12 ∧ (∀ x ∈ ts, b.si ≤ x ∧ x ≤ 1000) ∧ nofall ts = true
instance (b : Br) (gs : List Bool) (ts : List Int) : Decidable (PathOk b gs ts) := inferInstanceAs (Decidable (_ ∧ _))
def pathB (b : Br) (gs : List Bool) (ts : List Int) : Bool := decide (PathOk b gs ts)
theorem pathB_iff {b : Br} {gs : List Bool} {ts : List Int} : pathB b gs ts = true ↔ PathOk b gs ts := by unfold pathB; simp
def states (b : Br) (gs : List Bool) (ts : List Int) (n : Nat) : List Int := (List.range n).map fun k => (brAt b gs ts (k + 1)).st
def path (b : Br) (gs : List Bool) (ts : List Int) : List Int := if pathB b gs ts = true then states b gs ts gs.length else []
theorem states_succ (b : Br) (gs : List Bool) (ts : List Int) (n : Nat) : states b gs ts (n + 1) = states b gs ts n ++ [(brAt b gs ts (n + 1)).st] := by simp [states, List.range_succ]
theorem states_len (b : Br) (gs : List Bool) (ts : List Int) (n : Nat) : (states b gs ts n).length = n := by simp [states]
theorem path_len (b : Br) (gs : List Bool) (ts : List Int) : (path b gs ts).length ≤ 12 := by
  unfold path
  split
  · rename_i h
    rw [states_len]; exact (pathB_iff.1 h).2.2.1
  · simp
theorem path_len' {b : Br} {gs : List Bool} {ts : List Int} (h : pathB b gs ts = true) : (path b gs ts).length = gs.length := by
  unfold path; rw [if_pos h, states_len]
/-- Times that do not fall: all that came before are no greater. -/
theorem nofall_le {ts : List Int} (h : nofall ts = true) : ∀ {i j : Nat}, i ≤ j → j < ts.length → ts.getD i 0 ≤ ts.getD j 0 := by
  intro i j hij hj
  induction j with
  | zero => have : i = 0 := by omega
            subst this; exact Int.le_refl _
  | succ j ih =>
    rcases Nat.lt_or_ge j i with e | e
    · have : i = j + 1 := by omega
      subst this; exact Int.le_refl _
    · exact Int.le_trans (ih (by omega) (by omega)) (nofall_iff.1 h j hj)
theorem brAt_ok {b : Br} {gs : List Bool} {ts : List Int} (h : PathOk b gs ts) : ∀ k, k ≤ gs.length → Ok (brAt b gs ts k) ∧ ∀ j, k ≤ j → j < gs.length → (brAt b gs ts k).si ≤ ts.getD j 0 := by
  obtain ⟨h1, h2, h3, h4, h5⟩ := h
  have hm : ∀ j, j < gs.length → b.si ≤ ts.getD j 0 ∧ ts.getD j 0 ≤ 1000 := fun j hj => by
    have hj' : j < ts.length := by omega
    have : ts.getD j 0 ∈ ts := by simp [List.getD_eq_getElem?_getD, hj']
    exact h4 _ this
  intro k hk
  induction k with
  | zero => exact ⟨h1, fun j _ hj => (hm j hj).1⟩
  | succ k ih =>
    obtain ⟨a, b'⟩ := ih (by omega)
    obtain ⟨o1, o2⟩ := once_ok (g := gs.getD k false) a (b' k (Nat.le_refl _) (by omega)) (hm k (by omega)).2
    refine ⟨o1, fun j hj hj' => Int.le_trans o2 (nofall_le h5 (by omega) (by omega))⟩
theorem brAt_take {b : Br} {gs : List Bool} {ts : List Int} {n : Nat} : ∀ {k : Nat}, k ≤ n → brAt b (gs.take n) (ts.take n) k = brAt b gs ts k
  | 0, _ => rfl
  | k + 1, hk => by
    show once _ _ _ = once _ _ _
    rw [brAt_take (k := k) (by omega)]
    have e1 : (gs.take n).getD k false = gs.getD k false := by simp [List.getD_eq_getElem?_getD, show k < n by omega]
    have e2 : (ts.take n).getD k 0 = ts.getD k 0 := by simp [List.getD_eq_getElem?_getD, show k < n by omega]
    rw [e1, e2]
theorem getD_take {ts : List Int} {n k : Nat} (h : k < n) : (ts.take n).getD k 0 = ts.getD k 0 := by simp [List.getD_eq_getElem?_getD, h]
theorem pathOk_take {b : Br} {gs : List Bool} {ts : List Int} (h : PathOk b gs ts) (n : Nat) : PathOk b (gs.take n) (ts.take n) := by
  obtain ⟨h1, h2, h3, h4, h5⟩ := h
  refine ⟨h1, by simp [h2], by simp; omega, fun x hx => h4 x (List.mem_of_mem_take hx), nofall_iff.2 fun i hi => ?_⟩
  have hl : i + 1 < n ∧ i + 1 < ts.length := by simp at hi; omega
  rw [getD_take (by omega), getD_take hl.1]
  exact nofall_iff.1 h5 i hl.2
/-- The path of the first calls is the beginning of the path. -/
theorem path_take {b : Br} {gs : List Bool} {ts : List Int} (h : pathB b gs ts = true) {n : Nat} (hn : n ≤ gs.length) : path b (gs.take n) (ts.take n) = (path b gs ts).take n := by
  have hp := pathB_iff.1 h
  unfold path
  rw [if_pos (pathB_iff.2 (pathOk_take hp n)), if_pos h]
  have e : (gs.take n).length = n := by simp; omega
  rw [e]
  unfold states
  rw [← List.map_take, List.take_range, Nat.min_eq_left hn]
  apply List.map_congr_left
  intro k hk
  rw [List.mem_range] at hk
  rw [brAt_take (by omega)]
theorem brAt_tail {b : Br} {g : Bool} {t : Int} {gs : List Bool} {ts : List Int} : ∀ k, brAt b (g :: gs) (t :: ts) (k + 1) = brAt (once b g t) gs ts k
  | 0 => rfl
  | k + 1 => by
    show once (brAt b (g :: gs) (t :: ts) (k + 1)) _ _ = once (brAt (once b g t) gs ts k) _ _
    rw [brAt_tail k]
    rfl
theorem pathOk_tail {b : Br} {g : Bool} {t : Int} {gs : List Bool} {ts : List Int} (h : PathOk b (g :: gs) (t :: ts)) : PathOk (once b g t) gs ts := by
  have hb := brAt_ok h 1 (by simp)
  have hn := h.2.2.2.2
  obtain ⟨h1, h2, h3, h4, h5⟩ := h
  refine ⟨hb.1, by simpa using h2, by simp at h3; omega, fun x hx => ?_, nofall_iff.2 fun i hi => by simpa using nofall_iff.1 h5 (i + 1) (by simp; omega)⟩
  obtain ⟨j, hj, e⟩ := List.mem_iff_getElem.1 hx
  have h6 := hb.2 (j + 1) (by omega) (by simp at h2 ⊢; omega)
  have e6 : (t :: ts).getD (j + 1) 0 = x := by simp [List.getD_eq_getElem?_getD, hj, e]
  rw [e6] at h6
  exact ⟨h6, (h4 x (by simp [hx])).2⟩
theorem path_tail {b : Br} {g : Bool} {t : Int} {gs : List Bool} {ts : List Int} (h : pathB b (g :: gs) (t :: ts) = true) : path b (g :: gs) (t :: ts) = (once b g t).st :: path (once b g t) gs ts := by
  have hp := pathB_iff.1 h
  unfold path
  rw [if_pos h, if_pos (pathB_iff.2 (pathOk_tail hp))]
  unfold states
  rw [List.length_cons, List.range_succ_eq_map, List.map_cons, List.map_map]
  congr 1
  apply List.map_congr_left
  intro k _
  show (brAt b (g :: gs) (t :: ts) (k + 1 + 1)).st = _
  rw [brAt_tail]
/-- From a shut breaker, good calls leave it shut. -/
theorem brAt_good {b : Br} {gs : List Bool} {ts : List Int} (hs : b.st = 0) (hg : ∀ k, k < gs.length → gs.getD k false = true) : ∀ k, k ≤ gs.length → (brAt b gs ts k).st = 0
  | 0, _ => hs
  | k + 1, hk => by
    have ih := brAt_good (ts := ts) hs hg k (by omega)
    show (once _ _ _).st = 0
    rw [hg k (by omega)]
    unfold once
    have hl : lets (brAt b gs ts k) (ts.getD k 0) = true := lets_iff.2 (.inl ih)
    rw [if_pos hl]
    unfold fin beg stA
    rw [if_neg (by omega)]
    simp [ih]
end Go.Proofs.Ytmaocmgnkdieeab.Brk

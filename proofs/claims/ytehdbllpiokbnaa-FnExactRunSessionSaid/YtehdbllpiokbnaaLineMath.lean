/-
  Plain facts on lines of tickets: which are valid, who waits, what becomes of a line. No condition; nothing of the program's text is used here.
-/

namespace Go.Proofs.Ytehdbllpiokbnaa.Line

/-! ### Ascending lists -/
def Asc (l : List Int) : Prop := l.Pairwise (· < ·)
instance (l : List Int) : Decidable (Asc l) := inferInstanceAs (Decidable (List.Pairwise _ l))

theorem Asc.nil : Asc [] := List.Pairwise.nil
theorem Asc.filter {l : List Int} (h : Asc l) (p : Int → Bool) : Asc (l.filter p) := List.Pairwise.filter p h
theorem asc_cons {a : Int} {l : List Int} : Asc (a :: l) ↔ (∀ x ∈ l, a < x) ∧ Asc l := List.pairwise_cons

theorem Asc.ext : ∀ {a b : List Int}, Asc a → Asc b → (∀ x, x ∈ a ↔ x ∈ b) → a = b
  | [], [], _, _, _ => rfl
  | [], y :: ys, _, _, h => absurd ((h y).2 (by simp)) (by simp)
  | x :: xs, [], _, _, h => absurd ((h x).1 (by simp)) (by simp)
  | x :: xs, y :: ys, ha, hb, h => by
    obtain ⟨hx, ha'⟩ := asc_cons.1 ha
    obtain ⟨hy, hb'⟩ := asc_cons.1 hb
    have e : x = y := by
      have h1 := (h x).1 (by simp)
      have h2 := (h y).2 (by simp)
      rcases List.mem_cons.1 h1 with e | m
      · exact e
      · rcases List.mem_cons.1 h2 with e' | m'
        · exact e'.symm
        · have := hx _ m'; have := hy _ m; omega
    subst e
    have ht : ∀ z, z ∈ xs ↔ z ∈ ys := by
      intro z
      constructor
      · intro m
        have := hx z m
        rcases List.mem_cons.1 ((h z).1 (by simp [m])) with e | m'
        · omega
        · exact m'
      · intro m
        have := hy z m
        rcases List.mem_cons.1 ((h z).2 (by simp [m])) with e | m'
        · omega
        · exact m'
    rw [Asc.ext ha' hb' ht]

theorem asc_append {a b : List Int} : Asc (a ++ b) ↔ Asc a ∧ Asc b ∧ ∀ x ∈ a, ∀ y ∈ b, x < y := List.pairwise_append

theorem Asc.length_le : ∀ {l : List Int} {lo hi : Int}, Asc l → (∀ x ∈ l, lo ≤ x ∧ x < hi) → (l.length : Int) ≤ max 0 (hi - lo)
  | [], _, _, _, _ => by simp; omega
  | a :: l, lo, hi, h, hb => by
    obtain ⟨h1, h2⟩ := asc_cons.1 h
    have ha := hb a (by simp)
    have := Asc.length_le (lo := a + 1) (hi := hi) h2 (fun x hx => ⟨by have := h1 x hx; omega, (hb x (by simp [hx])).2⟩)
    simp only [List.length_cons]
    omega

/-- The index form that the program's loops go by. -/
theorem asc_take_succ {l : List Int} {k : Nat} (hk : k < l.length) (h : Asc (l.take k)) (hs : ∀ h0 : 0 < k, l[k - 1] < l[k]) : Asc (l.take (k + 1)) := by
  rw [List.take_succ_eq_append_getElem hk, asc_append]
  refine ⟨h, by simp [Asc], fun x hx y hy => ?_⟩
  simp only [List.mem_singleton] at hy
  subst hy
  rcases Nat.eq_zero_or_pos k with rfl | hp
  · simp at hx
  · have e := hs hp
    obtain ⟨i, hi, rfl⟩ := List.mem_iff_getElem.1 hx
    simp only [List.length_take] at hi
    rw [List.getElem_take]
    by_cases hc : i = k - 1
    · subst hc; exact e
    · have hp := List.pairwise_iff_getElem.1 h i (k - 1) (by simp; omega) (by simp; omega) (by omega)
      simp only [List.getElem_take] at hp
      omega
def ascB (l : List Int) : Bool := decide (Asc l)
theorem ascB_iff {l : List Int} : ascB l = true ↔ Asc l := by unfold ascB; simp
def ascIn (l : List Int) (lo hi : Int) : Bool := decide (Asc l ∧ ∀ x ∈ l, lo ≤ x ∧ x ≤ hi)
theorem ascIn_iff {l : List Int} {lo hi : Int} : ascIn l lo hi = true ↔ Asc l ∧ ∀ x ∈ l, lo ≤ x ∧ x ≤ hi := by unfold ascIn; simp
theorem asc_of_take {l : List Int} {k : Nat} (hk : k < l.length) (hp : 0 < k) (h : Asc l) : l[k - 1] < l[k] := by
  exact List.pairwise_iff_getElem.1 h (k - 1) k (by omega) hk (by omega)

/-! ### The numbers from one to another -/
def upto (s n : Int) : List Int := (List.range (n - s).toNat).map fun (i : Nat) => s + (i : Int)
theorem mem_upto {s n x : Int} : x ∈ upto s n ↔ s ≤ x ∧ x < n := by
  unfold upto
  simp only [List.mem_map, List.mem_range]
  constructor
  · rintro ⟨i, hi, rfl⟩; omega
  · rintro ⟨h1, h2⟩; exact ⟨(x - s).toNat, by omega, by omega⟩
theorem asc_upto (s n : Int) : Asc (upto s n) := by
  unfold upto Asc
  rw [List.pairwise_map]
  exact List.Pairwise.imp (fun {a b} h => by omega) List.pairwise_lt_range
theorem upto_none {s n : Int} (h : n ≤ s) : upto s n = [] := by
  unfold upto; rw [show (n - s).toNat = 0 by omega]; rfl
theorem upto_succ {s n : Int} (h : s ≤ n) : upto s (n + 1) = upto s n ++ [n] := by
  unfold upto
  rw [show (n + 1 - s).toNat = (n - s).toNat + 1 by omega, List.range_succ, List.map_append]
  congr 1
  simp; omega

/-! ### Lines -/
def okB (s n : Int) (g : List Int) : Bool := decide (0 ≤ s ∧ s ≤ 1000 ∧ s ≤ n ∧ n ≤ 1000 ∧ n ≤ s + 12 ∧ Asc g ∧ ∀ x ∈ g, s ≤ x ∧ x < n)
theorem okB_iff {s n : Int} {g : List Int} : okB s n g = true ↔ 0 ≤ s ∧ s ≤ 1000 ∧ s ≤ n ∧ n ≤ 1000 ∧ n ≤ s + 12 ∧ Asc g ∧ ∀ x ∈ g, s ≤ x ∧ x < n := by
  unfold okB; simp

/-- Who waits. -/
def waits (s n : Int) (g : List Int) : List Int := (upto s n).filter fun x => !g.contains x
theorem mem_waits {s n x : Int} {g : List Int} : x ∈ waits s n g ↔ s ≤ x ∧ x < n ∧ x ∉ g := by
  unfold waits; simp [List.mem_filter, mem_upto, and_assoc]
theorem asc_waits (s n : Int) (g : List Int) : Asc (waits s n g) := (asc_upto s n).filter _
theorem waits_len {s n : Int} {g : List Int} (h : n ≤ s + 12) : (waits s n g).length ≤ 12 := by
  have := (asc_waits s n g).length_le (lo := s) (hi := n) (fun x hx => by have := mem_waits.1 hx; omega)
  omega
theorem waits_succ {s t : Int} {g : List Int} (h : s ≤ t) : waits s (t + 1) g = waits s t g ++ if t ∈ g then [] else [t] := by
  unfold waits
  rw [upto_succ h, List.filter_append]
  congr 1
  by_cases c : t ∈ g <;> simp [c]
theorem waits_none {s n : Int} {g : List Int} (h : n ≤ s) : waits s n g = [] := by unfold waits; rw [upto_none h]; rfl
/-- Who waits in a valid line; nobody in others. -/
def waitV (s n : Int) (g : List Int) : List Int := if okB s n g = true then waits s n g else []
theorem waitV_yes {s n : Int} {g : List Int} (h : okB s n g = true) : waitV s n g = waits s n g := if_pos h
theorem waitV_no {s n : Int} {g : List Int} (h : okB s n g = false) : waitV s n g = [] := if_neg (by rw [h]; simp)
theorem gone_len {s n : Int} {g : List Int} (h : okB s n g = true) : g.length ≤ 12 := by
  obtain ⟨_, _, _, _, h5, h6, h7⟩ := okB_iff.1 h
  have := h6.length_le h7
  omega

/-- The place of a number in a list, -1 if it is not there. -/
def place (l : List Int) (x : Int) : Int := if x ∈ l then (l.idxOf x : Int) else -1
theorem place_no {l : List Int} {x : Int} (h : x ∉ l) : place l x = -1 := by simp [place, h]
theorem place_neg {l : List Int} {x : Int} : place l x = -1 ↔ x ∉ l := by
  unfold place; split <;> simp_all
theorem place_lt {l : List Int} {x : Int} (h : x ∈ l) : 0 ≤ place l x ∧ place l x < l.length := by
  unfold place; rw [if_pos h]
  have := List.idxOf_lt_length_iff.2 h
  omega
theorem place_at {l : List Int} {k : Nat} (hk : k < l.length) (hb : l[k] ∉ l.take k) : place l l[k] = k := by
  have hm : l[k] ∈ l := List.getElem_mem hk
  unfold place
  rw [if_pos hm]
  congr 1
  have h1 : l.idxOf l[k] < l.length := List.idxOf_lt_length_iff.2 hm
  have h2 : l[l.idxOf l[k]] = l[k] := List.getElem_idxOf h1
  rcases Nat.lt_trichotomy (l.idxOf l[k]) k with h | h | h
  · refine absurd ?_ hb
    rw [List.mem_take_iff_getElem]
    exact ⟨l.idxOf l[k], by omega, h2⟩
  · exact h
  · have := List.not_of_lt_findIdx (p := fun y => y == l[k]) (xs := l) (i := k) h
    simp at this
/-- The next one that has not left. -/
def skip (g : List Int) (n : Int) : Nat → Int → Int
  | 0, s => s
  | f + 1, s => if s < n ∧ s ∈ g then skip g n f (s + 1) else s
theorem skip_spec (g : List Int) (n : Int) : ∀ (f : Nat) (s : Int), (n - s).toNat ≤ f → s ≤ skip g n f s ∧ (s ≤ n → skip g n f s ≤ n) ∧ (∀ y, s ≤ y → y < skip g n f s → y ∈ g) ∧ ¬(skip g n f s < n ∧ skip g n f s ∈ g)
  | 0, s, h => ⟨Int.le_refl _, fun h => h, fun y h1 h2 => by simp [skip] at h2; omega, fun h' => by simp only [skip] at h'; omega⟩
  | f + 1, s, h => by
    unfold skip
    by_cases c : s < n ∧ s ∈ g
    · rw [if_pos c]
      obtain ⟨h1, h2, h3, h4⟩ := skip_spec g n f (s + 1) (by omega)
      refine ⟨by omega, fun _ => h2 (by omega), fun y hy1 hy2 => ?_, h4⟩
      by_cases e : y = s
      · subst e; exact c.2
      · exact h3 y (by omega) hy2
    · rw [if_neg c]
      exact ⟨Int.le_refl _, fun h => h, fun y h1 h2 => by omega, c⟩
/-- Where the line goes on: the least number from s on that has not left. -/
def front (g : List Int) (n s : Int) : Int := skip g n (n - s).toNat s
theorem front_spec (g : List Int) (n s : Int) : s ≤ front g n s ∧ (s ≤ n → front g n s ≤ n) ∧ (∀ y, s ≤ y → y < front g n s → y ∈ g) ∧ ¬(front g n s < n ∧ front g n s ∈ g) := skip_spec g n _ s (Nat.le_refl _)
theorem front_step {g : List Int} {n s : Int} (h : s < n) (hg : s ∈ g) : front g n (s + 1) = front g n s := by
  unfold front
  rw [show (n - s).toNat = (n - (s + 1)).toNat + 1 by omega]
  conv => rhs; unfold skip
  rw [if_pos ⟨h, hg⟩]
theorem front_stay {g : List Int} {n s : Int} (h : ¬(s < n ∧ s ∈ g)) : front g n s = s := by
  unfold front
  rcases (n - s).toNat with _ | f
  · rfl
  · unfold skip; rw [if_neg h]
theorem front_unique {g : List Int} {n s f : Int} (h1 : s ≤ f) (h3 : ∀ y, s ≤ y → y < f → y < n ∧ y ∈ g) (h4 : ¬(f < n ∧ f ∈ g)) : front g n s = f := by
  obtain ⟨a1, a2, a3, a4⟩ := front_spec g n s
  rcases Int.lt_trichotomy (front g n s) f with h | h | h
  · exact absurd (h3 _ a1 h) a4
  · exact h
  · have hg := a3 f h1 h
    rcases (by omega : f < n ∨ n ≤ f) with c | c
    · exact absurd ⟨c, hg⟩ h4
    · have : s ≤ n → front g n s ≤ n := a2
      by_cases hs : s ≤ n
      · have := a2 hs; omega
      · have : front g n s = s := front_stay (by omega)
        omega

/-- The numbers of a list from one on. -/
def from_ (l : List Int) (k : Int) : List Int := l.filter fun x => decide (k ≤ x)
theorem mem_from {l : List Int} {k x : Int} : x ∈ from_ l k ↔ x ∈ l ∧ k ≤ x := by simp [from_]
theorem from_all {l : List Int} {k : Int} (h : ∀ x ∈ l, k ≤ x) : from_ l k = l := by
  unfold from_; rw [List.filter_eq_self]; simpa using h
/-- A list with a further number. -/
def ins (l : List Int) (t : Int) : List Int := l.filter (fun x => decide (x < t)) ++ [t] ++ l.filter (fun x => decide (t < x))
theorem mem_ins {l : List Int} {t x : Int} : x ∈ ins l t ↔ x ∈ l ∨ x = t := by
  unfold ins
  simp only [List.mem_append, List.mem_filter, List.mem_singleton, decide_eq_true_eq]
  constructor
  · rintro ((⟨h, _⟩ | h) | ⟨h, _⟩)
    · exact .inl h
    · exact .inr h
    · exact .inl h
  · rintro (h | h)
    · rcases Int.lt_trichotomy x t with c | c | c
      · exact .inl (.inl ⟨h, c⟩)
      · exact .inl (.inr c)
      · exact .inr ⟨h, c⟩
    · exact .inl (.inr h)
theorem asc_ins {l : List Int} {t : Int} (h : Asc l) : Asc (ins l t) := by
  unfold ins
  rw [asc_append, asc_append]
  refine ⟨⟨h.filter _, by simp [Asc], ?_⟩, h.filter _, ?_⟩
  · intro x hx y hy; simp at hx hy; omega
  · intro x hx y hy; simp at hx hy; rcases hx with hx | hx <;> omega

/-! ### What becomes of a line -/
def takeB (s n : Int) (g : List Int) : Bool := okB s n g && !(decide (n = 1000)) && !(decide (n - s = 12))
def leaveB (s n : Int) (g : List Int) (t : Int) : Bool := okB s n g && decide (t ∈ waits s n g)
def callB (s n : Int) (g : List Int) : Bool := okB s n g && decide (waits s n g ≠ [])
/-- Served and Gone after a ticket has left. -/
def leaveS (s n : Int) (g : List Int) (t : Int) : Int := front (ins g t) n s
def leaveG (s n : Int) (g : List Int) (t : Int) : List Int := from_ (ins g t) (leaveS s n g t)
/-- The ticket that is called; Gone after it. -/
def callT (s n : Int) (g : List Int) : Int := (waits s n g).headD 0
def callG (s n : Int) (g : List Int) : List Int := from_ g (callT s n g + 1)

theorem takeB_iff {s n : Int} {g : List Int} : takeB s n g = true ↔ okB s n g = true ∧ n < 1000 ∧ n < s + 12 := by
  unfold takeB
  simp only [Bool.and_eq_true, Bool.not_eq_true', decide_eq_false_iff_not]
  constructor
  · rintro ⟨⟨h, a⟩, b⟩; have := okB_iff.1 h; exact ⟨h, by omega, by omega⟩
  · rintro ⟨h, a, b⟩; exact ⟨⟨h, by omega⟩, by omega⟩
theorem take_ok {s n : Int} {g : List Int} (h : takeB s n g = true) : okB s (n + 1) g = true := by
  obtain ⟨h, h1, h2⟩ := takeB_iff.1 h
  obtain ⟨a1, a2, a3, a4, a5, a6, a7⟩ := okB_iff.1 h
  exact okB_iff.2 ⟨a1, a2, by omega, by omega, by omega, a6, fun x hx => by have := a7 x hx; omega⟩
theorem take_waits {s n : Int} {g : List Int} (h : okB s n g = true) : waits s (n + 1) g = waits s n g ++ [n] := by
  obtain ⟨a1, a2, a3, a4, a5, a6, a7⟩ := okB_iff.1 h
  unfold waits
  rw [upto_succ a3, List.filter_append]
  congr 1
  have : n ∉ g := fun hm => by have := a7 n hm; omega
  simp [this]

theorem leave_parts {s n t : Int} {g : List Int} (h : leaveB s n g t = true) : okB s n g = true ∧ s ≤ t ∧ t < n ∧ t ∉ g := by
  unfold leaveB at h
  simp only [Bool.and_eq_true, decide_eq_true_eq] at h
  exact ⟨h.1, mem_waits.1 h.2⟩
theorem mem_leaveG {s n t x : Int} {g : List Int} : x ∈ leaveG s n g t ↔ (x ∈ g ∨ x = t) ∧ leaveS s n g t ≤ x := by
  unfold leaveG; rw [mem_from, mem_ins]
theorem leaveS_le {s n t : Int} {g : List Int} (h : leaveB s n g t = true) : s ≤ leaveS s n g t ∧ leaveS s n g t ≤ n := by
  obtain ⟨h, h1, h2, h3⟩ := leave_parts h
  obtain ⟨f1, f2, f3, f4⟩ := front_spec (ins g t) n s
  exact ⟨f1, f2 (by omega)⟩
theorem leave_ok {s n t : Int} {g : List Int} (h : leaveB s n g t = true) : okB (leaveS s n g t) n (leaveG s n g t) = true := by
  have hs := leaveS_le h
  obtain ⟨h, h1, h2, h3⟩ := leave_parts h
  obtain ⟨a1, a2, a3, a4, a5, a6, a7⟩ := okB_iff.1 h
  refine okB_iff.2 ⟨by omega, by omega, by omega, a4, by omega, (asc_ins a6).filter _, fun x hx => ?_⟩
  obtain ⟨hx, hx'⟩ := mem_leaveG.1 hx
  refine ⟨hx', ?_⟩
  rcases hx with hx | hx
  · exact (a7 x hx).2
  · omega
theorem mem_waits_leave {s n t x : Int} {g : List Int} : x ∈ waits (leaveS s n g t) n (leaveG s n g t) ↔ s ≤ x ∧ x < n ∧ x ∉ g ∧ x ≠ t := by
  obtain ⟨f1, f2, f3, f4⟩ := front_spec (ins g t) n s
  rw [mem_waits, mem_leaveG]
  constructor
  · rintro ⟨b1, b2, b3⟩
    exact ⟨by unfold leaveS at b1; omega, b2, fun hm => b3 ⟨.inl hm, b1⟩, fun hm => b3 ⟨.inr hm, b1⟩⟩
  · rintro ⟨b1, b2, b3, b4⟩
    refine ⟨?_, b2, fun hm => ?_⟩
    · rcases (by omega : x < leaveS s n g t ∨ leaveS s n g t ≤ x) with c | c
      · rcases mem_ins.1 (f3 x b1 c) with h | h
        · exact absurd h b3
        · exact absurd h b4
      · exact c
    · rcases hm.1 with h | h
      · exact b3 h
      · exact b4 h
theorem leave_waits {s n t : Int} {g : List Int} : waits (leaveS s n g t) n (leaveG s n g t) = (waits s n g).filter fun x => !(x == t) := by
  refine Asc.ext (asc_waits _ _ _) ((asc_waits _ _ _).filter _) fun x => ?_
  rw [mem_waits_leave, List.mem_filter, mem_waits]
  simp [and_assoc]
theorem leave_again {s n t : Int} {g : List Int} : leaveB (leaveS s n g t) n (leaveG s n g t) t = false := by
  unfold leaveB
  rw [Bool.and_eq_false_iff]
  right
  rw [decide_eq_false_iff_not, mem_waits_leave]
  exact fun h => h.2.2.2 rfl
/-- Two tickets leave in either order. -/
theorem leave_order {s n t u : Int} {g : List Int} (h : leaveB s n g t = true) (hu : leaveB (leaveS s n g t) n (leaveG s n g t) u = true) :
    leaveB s n g u = true ∧ leaveB (leaveS s n g u) n (leaveG s n g u) t = true ∧
    leaveS (leaveS s n g t) n (leaveG s n g t) u = leaveS (leaveS s n g u) n (leaveG s n g u) t ∧
    leaveG (leaveS s n g t) n (leaveG s n g t) u = leaveG (leaveS s n g u) n (leaveG s n g u) t := by
  obtain ⟨h0, h1, h2, h3⟩ := leave_parts h
  have hw : u ∈ waits (leaveS s n g t) n (leaveG s n g t) := by
    unfold leaveB at hu
    simp only [Bool.and_eq_true, decide_eq_true_eq] at hu
    exact hu.2
  obtain ⟨u1, u2, u3, u4⟩ := mem_waits_leave.1 hw
  have hu0 : leaveB s n g u = true := by
    unfold leaveB
    simp only [Bool.and_eq_true, decide_eq_true_eq]
    exact ⟨h0, mem_waits.2 ⟨u1, u2, u3⟩⟩
  have ht1 : leaveB (leaveS s n g u) n (leaveG s n g u) t = true := by
    unfold leaveB
    simp only [Bool.and_eq_true, decide_eq_true_eq]
    exact ⟨leave_ok hu0, mem_waits_leave.2 ⟨h1, h2, h3, fun e => u4 e.symm⟩⟩
  have key : ∀ t u : Int, leaveS (leaveS s n g t) n (leaveG s n g t) u = front (ins (ins g t) u) n s := by
    intro t u
    obtain ⟨f1, f2, f3, f4⟩ := front_spec (ins g t) n s
    obtain ⟨g1, g2, g3, g4⟩ := front_spec (ins (leaveG s n g t) u) n (leaveS s n g t)
    by_cases hsn : s ≤ n
    · have f2' := f2 hsn
      have g2' := g2 f2'
      symm
      refine front_unique (f := leaveS (leaveS s n g t) n (leaveG s n g t) u) ?_ ?_ ?_
      · exact Int.le_trans f1 g1
      · intro y hy1 hy2
        refine ⟨by unfold leaveS at hy2; unfold leaveS at g2'; omega, ?_⟩
        rw [mem_ins, mem_ins]
        rcases (by omega : y < leaveS s n g t ∨ leaveS s n g t ≤ y) with c | c
        · exact .inl (mem_ins.1 (f3 y hy1 c))
        · rcases mem_ins.1 (g3 y c hy2) with m | m
          · exact .inl (mem_leaveG.1 m).1
          · exact .inr m
      · intro hm
        apply g4
        refine ⟨hm.1, ?_⟩
        rw [mem_ins]
        rcases mem_ins.1 hm.2 with m | m
        · exact .inl (mem_leaveG.2 ⟨mem_ins.1 m, g1⟩)
        · exact .inr m
    · have e1 : leaveS s n g t = s := front_stay (by omega)
      have e2 : ∀ G : List Int, front G n s = s := fun G => front_stay (by omega)
      show front _ n (leaveS s n g t) = _
      rw [e1, e2, e2]
  have eS : leaveS (leaveS s n g t) n (leaveG s n g t) u = leaveS (leaveS s n g u) n (leaveG s n g u) t := by
    rw [key, key]
    obtain ⟨f1, f2, f3, f4⟩ := front_spec (ins (ins g u) t) n s
    refine front_unique f1 (fun y hy1 hy2 => ⟨by have := f2 (by omega); omega, ?_⟩) fun hm => f4 ⟨hm.1, ?_⟩
    · have := f3 y hy1 hy2
      rw [mem_ins, mem_ins] at this ⊢
      rcases this with (m | m) | m
      · exact .inl (.inl m)
      · exact .inr m
      · exact .inl (.inr m)
    · have := hm.2
      rw [mem_ins, mem_ins] at this ⊢
      rcases this with (m | m) | m
      · exact .inl (.inl m)
      · exact .inr m
      · exact .inl (.inr m)
  refine ⟨hu0, ht1, eS, ?_⟩
  have a6 := (okB_iff.1 h0).2.2.2.2.2.1
  refine Asc.ext ?_ ?_ fun x => ?_
  · exact (asc_ins ((asc_ins a6).filter _)).filter _
  · exact (asc_ins ((asc_ins a6).filter _)).filter _
  · have l1 := (leaveS_le hu).1
    have l2 := (leaveS_le ht1).1
    rw [mem_leaveG, mem_leaveG, mem_leaveG, mem_leaveG, ← eS]
    rw [← eS] at l2
    constructor
    · rintro ⟨(⟨m | m, _⟩ | m), c⟩
      · exact ⟨.inl ⟨.inl m, by omega⟩, c⟩
      · exact ⟨.inr m, c⟩
      · exact ⟨.inl ⟨.inr m, by omega⟩, c⟩
    · rintro ⟨(⟨m | m, _⟩ | m), c⟩
      · exact ⟨.inl ⟨.inl m, by omega⟩, c⟩
      · exact ⟨.inr m, c⟩
      · exact ⟨.inl ⟨.inr m, by omega⟩, c⟩
/-- Who leaves at once has not waited. -/
theorem take_leave {s n : Int} {g : List Int} (h : takeB s n g = true) : leaveB s (n + 1) g n = true ∧ waits (leaveS s (n + 1) g n) (n + 1) (leaveG s (n + 1) g n) = waits s n g := by
  have h0 := (takeB_iff.1 h).1
  obtain ⟨a1, a2, a3, a4, a5, a6, a7⟩ := okB_iff.1 h0
  have hn : n ∉ g := fun hm => by have := a7 n hm; omega
  constructor
  · unfold leaveB
    simp only [Bool.and_eq_true, decide_eq_true_eq]
    exact ⟨take_ok h, mem_waits.2 ⟨a3, by omega, hn⟩⟩
  · refine Asc.ext (asc_waits _ _ _) (asc_waits _ _ _) fun x => ?_
    rw [mem_waits_leave, mem_waits]
    constructor
    · rintro ⟨b1, b2, b3, b4⟩; exact ⟨b1, by omega, b3⟩
    · rintro ⟨b1, b2, b3⟩; exact ⟨b1, by omega, b3, by omega⟩

theorem call_parts {s n : Int} {g : List Int} (h : callB s n g = true) : okB s n g = true ∧ ∃ l, waits s n g = callT s n g :: l := by
  unfold callB at h
  simp only [Bool.and_eq_true, decide_eq_true_eq] at h
  refine ⟨h.1, ?_⟩
  cases e : waits s n g with
  | nil => exact absurd e h.2
  | cons a l => exact ⟨l, by simp [callT, e]⟩
theorem callT_mem {s n : Int} {g : List Int} (h : callB s n g = true) : s ≤ callT s n g ∧ callT s n g < n ∧ callT s n g ∉ g := by
  obtain ⟨_, l, e⟩ := call_parts h
  exact mem_waits.1 (by rw [e]; simp)
theorem callT_least {s n x : Int} {g : List Int} (h : callB s n g = true) (h1 : s ≤ x) (h2 : x < n) (h3 : x ∉ g) : callT s n g ≤ x := by
  obtain ⟨_, l, e⟩ := call_parts h
  have hx : x ∈ waits s n g := mem_waits.2 ⟨h1, h2, h3⟩
  have ha := asc_waits s n g
  rw [e] at hx ha
  rcases List.mem_cons.1 hx with c | c
  · omega
  · have := (asc_cons.1 ha).1 x c; omega
theorem call_ok {s n : Int} {g : List Int} (h : callB s n g = true) : okB (callT s n g + 1) n (callG s n g) = true := by
  have hm := callT_mem h
  obtain ⟨h0, _⟩ := call_parts h
  obtain ⟨a1, a2, a3, a4, a5, a6, a7⟩ := okB_iff.1 h0
  refine okB_iff.2 ⟨by omega, by omega, by omega, a4, by omega, a6.filter _, fun x hx => ?_⟩
  obtain ⟨hx, hx'⟩ := mem_from.1 hx
  exact ⟨hx', (a7 x hx).2⟩
theorem call_waits {s n : Int} {g : List Int} (h : callB s n g = true) : waits s n g = callT s n g :: waits (callT s n g + 1) n (callG s n g) := by
  have hm := callT_mem h
  refine Asc.ext (asc_waits _ _ _) (asc_cons.2 ⟨fun x hx => ?_, asc_waits _ _ _⟩) fun x => ?_
  · have := mem_waits.1 hx; omega
  · unfold callG
    rw [List.mem_cons, mem_waits, mem_waits, mem_from]
    constructor
    · rintro ⟨b1, b2, b3⟩
      have := callT_least h b1 b2 b3
      by_cases e : x = callT s n g
      · exact .inl e
      · exact .inr ⟨by omega, b2, fun hc => b3 hc.1⟩
    · rintro (e | ⟨b1, b2, b3⟩)
      · subst e; exact hm
      · exact ⟨by omega, b2, fun hc => b3 ⟨hc, by omega⟩⟩
theorem call_none {s n : Int} {g : List Int} (h : okB s n g = true) : callB s n g = false ↔ waits s n g = [] := by
  unfold callB; simp [h]
end Go.Proofs.Ytehdbllpiokbnaa.Line

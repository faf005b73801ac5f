/-
  Plain facts on leases: which are valid, who has a connection, which are free. No condition; nothing of the program's text is used here.
-/
namespace Go.Proofs.Ytmaocmgnkdieeaa.Lse

structure L where
  c : Int
  o : Int
  f : Int
  u : Int
deriving DecidableEq

def L.ok (x : L) : Bool := decide (0 ≤ x.c ∧ x.c < 6 ∧ 0 ≤ x.o ∧ x.o < 5 ∧ 0 ≤ x.f ∧ x.f < x.u ∧ x.u ≤ 1000)
theorem L.ok_iff {x : L} : x.ok = true ↔ 0 ≤ x.c ∧ x.c < 6 ∧ 0 ≤ x.o ∧ x.o < 5 ∧ 0 ≤ x.f ∧ x.f < x.u ∧ x.u ≤ 1000 := by unfold L.ok; simp
/-- The lease x has connection c at a time from f on, less than u. -/
def hits (x : L) (c f u : Int) : Prop := x.c = c ∧ x.f < u ∧ f < x.u
instance (x : L) (c f u : Int) : Decidable (hits x c f u) := inferInstanceAs (Decidable (_ ∧ _ ∧ _))
/-- No lease has the connection then. -/
def freeB (l : List L) (c f u : Int) : Bool := decide (∀ x ∈ l, ¬ hits x c f u)
theorem freeB_iff {l : List L} {c f u : Int} : freeB l c f u = true ↔ ∀ x ∈ l, ¬ hits x c f u := by unfold freeB; simp
def Apart (x y : L) : Prop := ¬ hits x y.c y.f y.u
instance (x y : L) : Decidable (Apart x y) := inferInstanceAs (Decidable (¬ _))
theorem Apart.symm {x y : L} (h : Apart x y) : Apart y x := fun ⟨a, b, c⟩ => h ⟨a.symm, c, b⟩
/-- All valid by themselves, none meets another. -/
def Fine (l : List L) : Prop := (∀ x ∈ l, x.ok = true) ∧ l.Pairwise Apart
instance (l : List L) : Decidable (Fine l) := inferInstanceAs (Decidable (_ ∧ _))
def validB (l : List L) : Bool := decide (l.length ≤ 12 ∧ Fine l)
theorem validB_iff {l : List L} : validB l = true ↔ l.length ≤ 12 ∧ Fine l := by unfold validB; simp

theorem Fine.nil : Fine [] := ⟨by simp, List.Pairwise.nil⟩
theorem fine_append {l m : List L} : Fine (l ++ m) ↔ Fine l ∧ Fine m ∧ ∀ x ∈ l, ∀ y ∈ m, Apart x y := by
  unfold Fine
  rw [List.pairwise_append]
  simp only [List.mem_append]
  constructor
  · rintro ⟨h, a, b, c⟩; exact ⟨⟨fun x hx => h x (.inl hx), a⟩, ⟨fun x hx => h x (.inr hx), b⟩, c⟩
  · rintro ⟨⟨h, a⟩, ⟨h', b⟩, c⟩; exact ⟨fun x hx => hx.elim (h x) (h' x), a, b, c⟩
theorem fine_one {x : L} : Fine [x] ↔ x.ok = true := by simp [Fine]
theorem fine_snoc {l : List L} {x : L} : Fine (l ++ [x]) ↔ Fine l ∧ x.ok = true ∧ freeB l x.c x.f x.u = true := by
  rw [fine_append, fine_one, freeB_iff]
  simp [Apart]
theorem Fine.sub {l m : List L} (h : Fine m) (hs : l.Sublist m) : Fine l := ⟨fun x hx => h.1 x (hs.subset hx), h.2.sublist hs⟩
theorem Fine.take {l : List L} (h : Fine l) (k : Nat) : Fine (l.take k) := h.sub (List.take_sublist k l)
theorem fine_take_succ {l : List L} {k : Nat} (hk : k < l.length) : Fine (l.take (k + 1)) ↔ Fine (l.take k) ∧ l[k].ok = true ∧ freeB (l.take k) l[k].c l[k].f l[k].u = true := by
  rw [List.take_succ_eq_append_getElem hk, fine_snoc]
theorem fine_perm {l m : List L} (h : l.Perm m) (hf : Fine l) : Fine m :=
  ⟨fun x hx => hf.1 x (h.mem_iff.2 hx), (h.pairwise_iff (fun {x y} (hh : Apart x y) => hh.symm)).1 hf.2⟩
theorem valid_perm {l m : List L} (h : l.Perm m) : validB l = validB m := by
  rw [Bool.eq_iff_iff, validB_iff, validB_iff, h.length_eq]
  exact ⟨fun hh => ⟨hh.1, fine_perm h hh.2⟩, fun hh => ⟨hh.1, fine_perm h.symm hh.2⟩⟩
theorem valid_sub {l m : List L} (h : validB m = true) (hs : l.Sublist m) : validB l = true := by
  obtain ⟨h1, h2⟩ := validB_iff.1 h
  exact validB_iff.2 ⟨Nat.le_trans hs.length_le h1, h2.sub hs⟩
/-- A lease never stands beside itself. -/
theorem not_twice {l : List L} {x : L} (hx : x ∈ l) : validB (l ++ [x]) = false := by
  rw [Bool.eq_false_iff, ne_eq, validB_iff]
  rintro ⟨_, h⟩
  obtain ⟨_, h1, h2⟩ := fine_snoc.1 h
  have := L.ok_iff.1 h1
  exact freeB_iff.1 h2 x hx ⟨rfl, by omega, by omega⟩

/-- The lease that has the connection at the time. -/
def hasAt (x : L) (c t : Int) : Bool := decide (x.c = c ∧ x.f ≤ t ∧ t < x.u)
theorem hasAt_iff {x : L} {c t : Int} : hasAt x c t = true ↔ x.c = c ∧ x.f ≤ t ∧ t < x.u := by unfold hasAt; simp
/-- The first of these leases' owner, -1 if there is none. -/
def first : List L → Int → Int → Int
  | [], _, _ => -1
  | x :: l, c, t => if hasAt x c t = true then x.o else first l c t
def ownerAt (l : List L) (c t : Int) : Int := if validB l = true then first l c t else -1
theorem first_none {l : List L} {c t : Int} (h : ∀ x ∈ l, hasAt x c t = false) : first l c t = -1 := by
  induction l with
  | nil => rfl
  | cons x l ih => simp [first, h x (by simp), ih fun y hy => h y (by simp [hy])]
theorem first_take {l : List L} {k : Nat} {c t : Int} (hk : k < l.length) (h : ∀ x ∈ l.take k, hasAt x c t = false) (hx : hasAt l[k] c t = true) : first l c t = l[k].o := by
  induction l generalizing k with
  | nil => simp at hk
  | cons y l ih =>
    cases k with
    | zero => simp at hx; simp [first, hx]
    | succ k =>
      have h0 := h y (by simp)
      simp only [List.length_cons] at hk
      simp only [first, h0, List.getElem_cons_succ]
      exact ih (by omega) (fun x hx => h x (by simp [hx])) (by simpa using hx)
theorem first_cases (l : List L) (c t : Int) : (first l c t = -1 ∧ ∀ x ∈ l, x.ok = true → hasAt x c t = false) ∨ ∃ x ∈ l, hasAt x c t = true ∧ first l c t = x.o := by
  induction l with
  | nil => left; simp [first]
  | cons x l ih =>
    by_cases h : hasAt x c t = true
    · exact .inr ⟨x, by simp, h, by simp [first, h]⟩
    · simp only [first, h]
      rcases ih with ⟨h1, h2⟩ | ⟨y, hy, h1, h2⟩
      · exact .inl ⟨h1, fun y hy hok => (List.mem_cons.1 hy).elim (fun e => by subst e; simpa using h) fun m => h2 y m hok⟩
      · exact .inr ⟨y, by simp [hy], h1, h2⟩
/-- In valid leases, whoever has the connection then is the one that is found. -/
theorem first_mem {l : List L} {x : L} {c t : Int} (h : Fine l) (hx : x ∈ l) (ha : hasAt x c t = true) : first l c t = x.o := by
  induction l with
  | nil => simp at hx
  | cons y l ih =>
    rcases List.mem_cons.1 hx with e | m
    · subst e; simp [first, ha]
    · have hy : hasAt y c t = false := by
        rw [Bool.eq_false_iff]
        intro hy
        have hp := (List.pairwise_cons.1 h.2).1 x m
        obtain ⟨a1, a2, a3⟩ := hasAt_iff.1 hy
        obtain ⟨b1, b2, b3⟩ := hasAt_iff.1 ha
        exact hp ⟨by omega, by omega, by omega⟩
      simp only [first, hy]
      exact ih (h.sub (by simp)) m
theorem first_ge {l : List L} (h : Fine l) (c t : Int) : -1 ≤ first l c t ∧ first l c t < 5 := by
  rcases first_cases l c t with ⟨h1, _⟩ | ⟨x, hx, _, h2⟩
  · omega
  · have := L.ok_iff.1 (h.1 x hx); omega
theorem first_neg {l : List L} (h : Fine l) {c t : Int} : first l c t = -1 ↔ ∀ x ∈ l, hasAt x c t = false := by
  constructor
  · intro e x hx
    rw [Bool.eq_false_iff]
    intro ha
    have := first_mem h hx ha
    have := L.ok_iff.1 (h.1 x hx)
    omega
  · exact first_none

/-- How long an owner has connections. -/
def time (l : List L) (o : Int) : Int := ((l.filter fun x => decide (x.o = o)).map fun x => x.u - x.f).sum
theorem time_snoc (l : List L) (x : L) (o : Int) : time (l ++ [x]) o = time l o + if x.o = o then x.u - x.f else 0 := by
  unfold time
  rw [List.filter_append, List.map_append, List.sum_append]
  by_cases h : x.o = o <;> simp [h]
theorem time_bounds : ∀ {l : List L}, (∀ x ∈ l, x.ok = true) → ∀ o, 0 ≤ time l o ∧ time l o ≤ 1000 * l.length
  | [], _, o => by simp [time]
  | x :: l, h, o => by
    have hx := L.ok_iff.1 (h x (by simp))
    have := time_bounds (fun y hy => h y (by simp [hy])) (l := l) o
    have e : time (x :: l) o = (if x.o = o then x.u - x.f else 0) + time l o := by
      unfold time; by_cases h : x.o = o <;> simp [h]
    rw [e, List.length_cons]
    split <;> omega
end Go.Proofs.Ytmaocmgnkdieeaa.Lse

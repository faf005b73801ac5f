/-
  Plain facts on the ages of connections: which are valid, when each ends. No condition; nothing of the program's text is used here.
-/
namespace Go.Proofs.Ytlonmmkioaejmac.Age

structure Ag where
  b : Int
  u : Int
deriving DecidableEq

def Ag.ok (x : Ag) : Bool := decide (0 ≤ x.b ∧ x.b ≤ x.u ∧ x.u ≤ 1000)
theorem Ag.ok_iff {x : Ag} : x.ok = true ↔ 0 ≤ x.b ∧ x.b ≤ x.u ∧ x.u ≤ 1000 := by unfold Ag.ok; simp
def agesB (l : List Ag) : Bool := decide (l.length ≤ 6 ∧ ∀ x ∈ l, x.ok = true)
theorem agesB_iff {l : List Ag} : agesB l = true ↔ l.length ≤ 6 ∧ ∀ x ∈ l, x.ok = true := by unfold agesB; simp
theorem ages_at {l : List Ag} (h : agesB l = true) {k : Nat} (hk : k < l.length) : 0 ≤ l[k].b ∧ l[k].b ≤ l[k].u ∧ l[k].u ≤ 1000 := Ag.ok_iff.1 ((agesB_iff.1 h).2 _ (List.getElem_mem hk))
theorem ages_sub {l m : List Ag} (h : agesB m = true) (hs : l.Sublist m) : agesB l = true := by
  obtain ⟨h1, h2⟩ := agesB_iff.1 h
  exact agesB_iff.2 ⟨Nat.le_trans hs.length_le h1, fun x hx => h2 x (hs.subset hx)⟩
theorem ages_step {l : List Ag} {k : Nat} (hk : k < l.length) (h : ∀ x ∈ l.take k, x.ok = true) (hx : l[k].ok = true) : ∀ x ∈ l.take (k + 1), x.ok = true := by
  intro x hm
  rw [List.take_succ_eq_append_getElem hk] at hm
  rcases List.mem_append.1 hm with m | m
  · exact h x m
  · rw [List.mem_singleton.1 m]; exact hx
theorem ages_not {l : List Ag} {k : Nat} (hk : k < l.length) (h : ¬ l[k].ok = true) : agesB l = false := by
  rw [Bool.eq_false_iff]
  intro hh
  exact h ((agesB_iff.1 hh).2 _ (List.getElem_mem hk))
def spanB (n : Int) : Bool := decide (1 ≤ n ∧ n ≤ 1000)
def timeB (n : Int) : Bool := decide (0 ≤ n ∧ n ≤ 1000)
theorem spanB_iff {n : Int} : spanB n = true ↔ 1 ≤ n ∧ n ≤ 1000 := by unfold spanB; simp
theorem timeB_iff {n : Int} : timeB n = true ↔ 0 ≤ n ∧ n ≤ 1000 := by unfold timeB; simp

/-- How long a connection lives. -/
def lifeV (c life : Int) : Int := life - life * (c * 7 % 10) / 50
theorem mul_bounds {life r : Int} (h1 : 1 ≤ life) (h2 : life ≤ 1000) (r0 : 0 ≤ r) (r9 : r ≤ 9) : 0 ≤ life * r ∧ life * r ≤ 9 * life := by
  have e : r = 0 ∨ r = 1 ∨ r = 2 ∨ r = 3 ∨ r = 4 ∨ r = 5 ∨ r = 6 ∨ r = 7 ∨ r = 8 ∨ r = 9 := by omega
  rcases e with h | h | h | h | h | h | h | h | h | h <;> subst h <;> omega
theorem lifeV_bounds {c life : Int} (h1 : 1 ≤ life) (h2 : life ≤ 1000) : 1 ≤ lifeV c life ∧ lifeV c life ≤ life ∧ 4 * life ≤ 5 * lifeV c life := by
  unfold lifeV
  have := mul_bounds h1 h2 (r := c * 7 % 10) (by omega) (by omega)
  omega
theorem lifeV_zero (life : Int) : lifeV 0 life = life := by unfold lifeV; simp
theorem lifeV_more {c life : Int} (h1 : 1 ≤ life) (h2 : life ≤ 1000) : lifeV c (life + 1) = lifeV c life ∨ lifeV c (life + 1) = lifeV c life + 1 := by
  unfold lifeV
  have r0 : 0 ≤ c * 7 % 10 := by omega
  have r9 : c * 7 % 10 ≤ 9 := by omega
  generalize c * 7 % 10 = r at r0 r9
  have e : (life + 1) * r = life * r + r := by rw [Int.add_mul, Int.one_mul]
  have := mul_bounds h1 h2 r0 r9
  rw [e]
  omega
def lifeOf (c life : Int) : Int := if (decide (0 ≤ c ∧ c < 6) && spanB life) = true then lifeV c life else -1

/-- When connection n of these is at an end. -/
def endV (n : Int) (x : Ag) (life rest : Int) : Int := min (x.b + lifeV n life) (x.u + rest)
def endAt (l : List Ag) (n : Nat) (life rest : Int) : Int := match l[n]? with | some x => endV n x life rest | none => 0
theorem endAt_eq {l : List Ag} {n : Nat} (h : n < l.length) (life rest : Int) : endAt l n life rest = endV n l[n] life rest := by simp [endAt, h]
theorem endV_bounds {n : Int} {x : Ag} {life rest : Int} (h : 0 ≤ x.b ∧ x.b ≤ x.u ∧ x.u ≤ 1000) (h1 : spanB life = true) (h2 : spanB rest = true) : 1 ≤ endV n x life rest ∧ endV n x life rest ≤ 2000 := by
  have h1 := spanB_iff.1 h1
  have h2 := spanB_iff.1 h2
  have := lifeV_bounds (c := n) h1.1 h1.2
  unfold endV
  omega
theorem endV_le {n : Int} {x : Ag} {life rest now : Int} : endV n x life rest ≤ now ↔ now - x.b ≥ lifeV n life ∨ now - x.u ≥ rest := by unfold endV; omega

/-- The connections below n that are at an end. -/
def endedTo (l : List Ag) (now life rest : Int) (n : Nat) : List Int := ((List.range n).filter fun i => decide (endAt l i life rest ≤ now)).map fun (i : Nat) => (i : Int)
theorem endedTo_succ (l : List Ag) (now life rest : Int) (n : Nat) : endedTo l now life rest (n + 1) = endedTo l now life rest n ++ if endAt l n life rest ≤ now then [(n : Int)] else [] := by
  unfold endedTo
  rw [List.range_succ, List.filter_append, List.map_append]
  by_cases h : endAt l n life rest ≤ now <;> simp [h]
theorem endedTo_len (l : List Ag) (now life rest : Int) (n : Nat) : (endedTo l now life rest n).length ≤ n := by
  unfold endedTo
  rw [List.length_map]
  exact Nat.le_trans (List.length_filter_le _ _) (by simp)
def endArgs (l : List Ag) (now life rest : Int) : Bool := agesB l && (timeB now && (spanB life && spanB rest))
def ended (l : List Ag) (now life rest : Int) : List Int := if endArgs l now life rest = true then endedTo l now life rest l.length else []
theorem ended_len (l : List Ag) (now life rest : Int) : (ended l now life rest).length ≤ 6 := by
  unfold ended
  split
  · rename_i h
    unfold endArgs at h
    simp only [Bool.and_eq_true] at h
    exact Nat.le_trans (endedTo_len _ _ _ _ _) (agesB_iff.1 h.1).1
  · simp
theorem endedTo_mem {l : List Ag} {now life rest : Int} {n : Nat} {c : Int} : c ∈ endedTo l now life rest n ↔ ∃ k : Nat, k < n ∧ c = k ∧ endAt l k life rest ≤ now := by
  unfold endedTo
  simp only [List.mem_map, List.mem_filter, List.mem_range, decide_eq_true_eq]
  constructor
  · rintro ⟨k, ⟨h1, h2⟩, rfl⟩; exact ⟨k, h1, rfl, h2⟩
  · rintro ⟨k, h1, rfl, h2⟩; exact ⟨k, ⟨h1, h2⟩, rfl⟩

/-- The first end of the connections below n, -1 if there are none. -/
def nextTo (l : List Ag) (life rest : Int) : Nat → Int
  | 0 => -1
  | n + 1 => if nextTo l life rest n = -1 ∨ endAt l n life rest < nextTo l life rest n then endAt l n life rest else nextTo l life rest n
def next (l : List Ag) (life rest : Int) : Int := if (agesB l && (spanB life && spanB rest)) = true then nextTo l life rest l.length else -1
theorem nextTo_bounds {l : List Ag} {life rest : Int} (h : agesB l = true) (h1 : spanB life = true) (h2 : spanB rest = true) : ∀ n, n ≤ l.length → (nextTo l life rest n = -1 ∧ n = 0) ∨ (1 ≤ nextTo l life rest n ∧ nextTo l life rest n ≤ 2000 ∧ 0 < n)
  | 0, _ => .inl ⟨rfl, rfl⟩
  | n + 1, hn => by
    have ih := nextTo_bounds h h1 h2 n (by omega)
    have hb := endV_bounds (n := n) (ages_at h (show n < l.length by omega)) h1 h2
    rw [← endAt_eq (show n < l.length by omega)] at hb
    right
    unfold nextTo
    split <;> omega
theorem nextTo_le {l : List Ag} {life rest : Int} (h : agesB l = true) (h1 : spanB life = true) (h2 : spanB rest = true) : ∀ n, n ≤ l.length → ∀ k : Nat, k < n → nextTo l life rest n ≤ endAt l k life rest
  | 0, _, k, hk => by omega
  | n + 1, hn, k, hk => by
    have ih := nextTo_le h h1 h2 n (by omega)
    have hb := nextTo_bounds h h1 h2 n (by omega)
    unfold nextTo
    rcases Nat.lt_or_ge k n with e | e
    · have := ih k e
      split <;> omega
    · have : k = n := by omega
      subst this
      split <;> omega
theorem nextTo_is {l : List Ag} {life rest : Int} : ∀ n, 0 < n → ∃ k, k < n ∧ nextTo l life rest n = endAt l k life rest
  | 0, h => by omega
  | n + 1, _ => by
    unfold nextTo
    split
    · exact ⟨n, by omega, rfl⟩
    · rename_i h
      rcases Nat.eq_zero_or_pos n with e | e
      · subst e; exact absurd (Or.inl rfl) h
      · obtain ⟨k, h1, h2⟩ := nextTo_is (l := l) (life := life) (rest := rest) n e
        exact ⟨k, by omega, h2⟩

/-- A connection was used. -/
def touchB (l : List Ag) (c now : Int) : Bool := agesB l && (decide (0 ≤ c ∧ c < l.length) && timeB now)
def touchL (l : List Ag) (c now : Int) : List Ag := if touchB l c now = true then l.modify c.toNat (fun x => ⟨x.b, max x.u now⟩) else []
theorem touch_no {l : List Ag} {c now : Int} (h : touchB l c now = false) : touchL l c now = [] := by unfold touchL; rw [h]; rfl
theorem touch_yes {l : List Ag} {c now : Int} (h : touchB l c now = true) : touchL l c now = l.modify c.toNat (fun x => ⟨x.b, max x.u now⟩) := by unfold touchL; rw [h]; rfl
theorem touch_len (l : List Ag) (c now : Int) : (touchL l c now).length ≤ l.length := by unfold touchL; split <;> simp
end Go.Proofs.Ytlonmmkioaejmac.Age

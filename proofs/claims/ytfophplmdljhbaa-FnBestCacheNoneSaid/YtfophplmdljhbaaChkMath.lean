/-
  Plain facts on results of checks: the run at the end, good or not, paths, shares, the bits of a word. No condition; nothing of the program's text is used here.
-/
namespace Go.Proofs.Ytfophplmdljhbaa.Chk

/-- The run at the beginning of a list. -/
def runR : List Bool → Nat
  | [] => 0
  | x :: r => 1 + (r.takeWhile (· == x)).length
theorem runR_cons (x : Bool) (r : List Bool) : runR (x :: r) = 1 + (r.takeWhile (· == x)).length := rfl
/-- The run at the end of a list. -/
def run (l : List Bool) : Nat := runR l.reverse
theorem tw_len {x : Bool} : ∀ (r : List Bool) (m : Nat), m ≤ r.length → (∀ j, j < m → r.getD j false = x) → (m = r.length ∨ r.getD m false ≠ x) → (r.takeWhile (· == x)).length = m
  | [], m, hm, _, _ => by simp at hm; subst hm; rfl
  | y :: r, 0, _, _, h => by
    have hy : y ≠ x := by simpa using h
    rw [List.takeWhile_cons, if_neg (by simpa using hy)]; rfl
  | y :: r, m + 1, hm, h1, h2 => by
    have hy : y = x := by simpa using h1 0 (by omega)
    subst hy
    rw [List.takeWhile_cons, if_pos (by simp), List.length_cons, tw_len r m (by simpa using hm) (fun j hj => by simpa using h1 (j + 1) (by omega)) (by simpa using h2)]
theorem runR_eq {r : List Bool} {n : Nat} (hn : n ≤ r.length) (h1 : ∀ j, j < n → r.getD j false = r.getD 0 false) (h2 : n = r.length ∨ r.getD n false ≠ r.getD 0 false) : runR r = n := by
  cases r with
  | nil => simp at hn; subst hn; rfl
  | cons x r =>
    cases n with
    | zero => simp at h2
    | succ n =>
      rw [runR_cons, tw_len r n (by simpa using hn) (fun j hj => by simpa using h1 (j + 1) (by omega)) (by simpa using h2)]
      omega
theorem tw_get {x : Bool} : ∀ (r : List Bool), (∀ j, j < (r.takeWhile (· == x)).length → r.getD j false = x) ∧ (r.takeWhile (· == x)).length ≤ r.length ∧ ((r.takeWhile (· == x)).length = r.length ∨ r.getD (r.takeWhile (· == x)).length false ≠ x)
  | [] => by simp
  | y :: r => by
    by_cases hy : y = x
    · subst hy
      obtain ⟨h1, h2, h3⟩ := tw_get (x := y) r
      rw [List.takeWhile_cons, if_pos (by simp), List.length_cons, List.length_cons]
      refine ⟨fun j hj => ?_, by omega, ?_⟩
      · cases j with
        | zero => simp
        | succ j => simpa using h1 j (by omega)
      · rcases h3 with h3 | h3
        · exact .inl (by omega)
        · exact .inr (by simpa using h3)
    · rw [List.takeWhile_cons, if_neg (by simpa using hy)]
      exact ⟨by simp, by simp, .inr (by simpa using hy)⟩
theorem runR_get (r : List Bool) : (∀ j, j < runR r → r.getD j false = r.getD 0 false) ∧ runR r ≤ r.length ∧ (runR r = r.length ∨ r.getD (runR r) false ≠ r.getD 0 false) := by
  cases r with
  | nil => simp [runR]
  | cons x r =>
    obtain ⟨h1, h2, h3⟩ := tw_get (x := x) r
    rw [runR_cons]
    refine ⟨fun j hj => ?_, by simp; omega, ?_⟩
    · cases j with
      | zero => simp
      | succ j => simpa using h1 j (by omega)
    · rw [Nat.add_comm 1]
      rcases h3 with h3 | h3
      · exact .inl (by simp [h3])
      · exact .inr (by simpa using h3)
theorem run_le (l : List Bool) : run l ≤ l.length := by have := (runR_get l.reverse).2.1; unfold run; simpa using this
theorem run_nil : run [] = 0 := rfl
theorem run_pos {l : List Bool} (h : 0 < l.length) : 1 ≤ run l := by
  unfold run
  cases hr : l.reverse with
  | nil => rw [List.reverse_eq_nil_iff] at hr; subst hr; simp at h
  | cons x r => rw [runR_cons]; omega
theorem run_snoc_same {l : List Bool} {x : Bool} : run (l ++ [x] ++ [x]) = run (l ++ [x]) + 1 := by
  unfold run; simp [runR]; omega
theorem run_snoc_other {l : List Bool} {x : Bool} : run (l ++ [x] ++ [!x]) = 1 := by
  unfold run; simp [runR]
theorem rev_get {l : List Bool} {j : Nat} (h : j < l.length) : l.reverse.getD j false = l.getD (l.length - 1 - j) false := by
  simp only [List.getD_eq_getElem?_getD]
  rw [List.getElem?_reverse h]
/-- So many at the end are the same as the last one, and the one before is not. -/
theorem run_eq {l : List Bool} {n : Nat} (hn : n ≤ l.length) (h1 : ∀ j, j < n → l.getD (l.length - 1 - j) false = l.getD (l.length - 1) false) (h2 : n = l.length ∨ l.getD (l.length - 1 - n) false ≠ l.getD (l.length - 1) false) : run l = n := by
  unfold run
  rcases Nat.eq_zero_or_pos l.length with h0 | h0
  · have : l = [] := List.eq_nil_of_length_eq_zero h0
    subst this
    simp at hn; subst hn; rfl
  · refine runR_eq (by simpa using hn) (fun j hj => ?_) ?_
    · rw [rev_get (by omega), rev_get (by omega)]; exact h1 j hj
    · rcases h2 with h2 | h2
      · exact .inl (by simpa using h2)
      · rcases Nat.lt_or_ge n l.length with e | e
        · right; rw [rev_get e, rev_get (by omega)]; exact h2
        · exact .inl (by simp; omega)
theorem run_get {l : List Bool} : (∀ j, j < run l → l.getD (l.length - 1 - j) false = l.getD (l.length - 1) false) ∧ (run l = l.length ∨ l.getD (l.length - 1 - run l) false ≠ l.getD (l.length - 1) false) := by
  obtain ⟨h1, h2, h3⟩ := runR_get l.reverse
  have hl : runR l.reverse ≤ l.length := by simpa using h2
  unfold run
  refine ⟨fun j hj => ?_, ?_⟩
  · have := h1 j hj
    rw [rev_get (by omega), rev_get (by omega)] at this; exact this
  · rcases h3 with h3 | h3
    · exact .inl (by simpa using h3)
    · rcases Nat.lt_or_ge (runR l.reverse) l.length with e | e
      · right; rw [rev_get e, rev_get (by omega)] at h3; exact h3
      · exact .inl (by omega)
/-- The run alone is as long as it is. -/
theorem run_parts {l : List Bool} : run (l.drop (l.length - run l)) = run l := by
  obtain ⟨h1, h2⟩ := run_get (l := l)
  have hle := run_le l
  have hl : (l.drop (l.length - run l)).length = run l := by simp; omega
  have hg : ∀ j, j < run l → (l.drop (l.length - run l)).getD (run l - 1 - j) false = l.getD (l.length - 1 - j) false := fun j hj => by
    simp only [List.getD_eq_getElem?_getD, List.getElem?_drop]
    congr 2; omega
  refine run_eq (by omega) (fun j hj => ?_) (.inl hl.symm)
  rw [hl, hg j hj]
  have := hg 0 (by omega)
  simp only [Nat.sub_zero] at this
  rw [this]; exact h1 j hj
def lastRun (l : List Bool) : Int := if l.length ≤ 12 then (run l : Int) else -1
theorem lastRun_le (l : List Bool) : -1 ≤ lastRun l ∧ lastRun l ≤ 12 := by
  have := run_le l
  unfold lastRun
  split <;> omega

/-! Good or not. -/
def gst (l : List Bool) (f g : Int) : Nat → Bool
  | 0 => true
  | k + 1 => if l.getD k false = true then (if g ≤ run (l.take (k + 1)) then true else gst l f g k) else (if f ≤ run (l.take (k + 1)) then false else gst l f g k)
theorem gst_take {l : List Bool} {f g : Int} {n : Nat} : ∀ {k : Nat}, k ≤ n → gst (l.take n) f g k = gst l f g k
  | 0, _ => rfl
  | k + 1, hk => by
    unfold gst
    rw [gst_take (k := k) (by omega), List.take_take, Nat.min_eq_left hk]
    have e : (l.take n).getD k false = l.getD k false := by simp [List.getD_eq_getElem?_getD, show k < n by omega]
    rw [e]
def chkB (l : List Bool) (f g : Int) : Bool := decide (l.length ≤ 12 ∧ (1 ≤ f ∧ f ≤ 12) ∧ 1 ≤ g ∧ g ≤ 12)
theorem chkB_iff {l : List Bool} {f g : Int} : chkB l f g = true ↔ l.length ≤ 12 ∧ (1 ≤ f ∧ f ≤ 12) ∧ 1 ≤ g ∧ g ≤ 12 := by unfold chkB; simp
def goodB (l : List Bool) (f g : Int) : Bool := chkB l f g && gst l f g l.length
theorem chkB_take {l : List Bool} {f g : Int} (h : chkB l f g = true) (n : Nat) : chkB (l.take n) f g = true := by
  rw [chkB_iff] at h ⊢
  refine ⟨?_, h.2⟩
  rw [List.length_take]; omega
theorem chkB_nil {l : List Bool} {f g : Int} (h : chkB l f g = true) : chkB [] f g = true := by rw [chkB_iff] at h ⊢; exact ⟨by simp, h.2⟩
theorem goodB_take {l : List Bool} {f g : Int} (h : chkB l f g = true) {k : Nat} (hk : k ≤ l.length) : goodB (l.take k) f g = gst l f g k := by
  unfold goodB
  rw [chkB_take h, Bool.true_and, List.length_take, Nat.min_eq_left hk, gst_take (Nat.le_refl _)]
def bit (b : Bool) : Int := if b = true then 1 else 0
def path (l : List Bool) (f g : Int) : List Int := if chkB l f g = true then (List.range l.length).map fun k => bit (gst l f g (k + 1)) else []
theorem path_len (l : List Bool) (f g : Int) : (path l f g).length ≤ 12 := by
  unfold path
  split
  · rename_i h
    have := (chkB_iff.1 h).1
    simpa using this
  · simp
theorem path_len' {l : List Bool} {f g : Int} (h : chkB l f g = true) : (path l f g).length = l.length := by unfold path; rw [if_pos h]; simp
theorem path_at {l : List Bool} {f g : Int} (h : chkB l f g = true) {k : Nat} (hk : k < (path l f g).length) : (path l f g)[k] = bit (gst l f g (k + 1)) := by
  simp [path, h]
theorem path_take {l : List Bool} {f g : Int} (h : chkB l f g = true) (n : Nat) : path (l.take n) f g = (path l f g).take n := by
  unfold path
  rw [if_pos h, if_pos (chkB_take h n), ← List.map_take, List.take_range, List.length_take]
  apply List.map_congr_left
  intro k hk
  rw [List.mem_range] at hk
  rw [gst_take (by omega)]
def steps (l : List Bool) (f g : Int) (n : Nat) : List Int := (List.range n).map fun k => bit (gst l f g (k + 1))
theorem steps_succ (l : List Bool) (f g : Int) (n : Nat) : steps l f g (n + 1) = steps l f g n ++ [bit (gst l f g (n + 1))] := by simp [steps, List.range_succ]
theorem steps_len (l : List Bool) (f g : Int) (n : Nat) : (steps l f g n).length = n := by simp [steps]
theorem path_steps {l : List Bool} {f g : Int} (h : chkB l f g = true) : path l f g = steps l f g l.length := by unfold path steps; rw [if_pos h]
theorem gst_one {l : List Bool} {k : Nat} (hk : k < l.length) : gst l 1 1 (k + 1) = l.getD k false := by
  have := run_pos (l := l.take (k + 1)) (by rw [List.length_take]; omega)
  have h1 : (1 : Int) ≤ run (l.take (k + 1)) := by omega
  unfold gst
  rw [if_pos h1, if_pos h1]
  cases l.getD k false <;> simp
theorem gst_all {l : List Bool} {f g : Int} (h : ∀ k, k < l.length → l.getD k false = true) : ∀ k, k ≤ l.length → gst l f g k = true
  | 0, _ => rfl
  | k + 1, hk => by
    unfold gst
    rw [h k (by omega), if_pos rfl, gst_all h k (by omega)]
    simp
/-- The last check decides where the run is long enough; otherwise all is as before. -/
theorem good_last {l : List Bool} {f g : Int} (h : chkB l f g = true) (h0 : 0 < l.length) : goodB l f g = if l.getD (l.length - 1) false = true then (if g ≤ run l then true else goodB (l.take (l.length - 1)) f g) else (if f ≤ run l then false else goodB (l.take (l.length - 1)) f g) := by
  obtain ⟨k, hk⟩ : ∃ k, l.length = k + 1 := ⟨l.length - 1, by omega⟩
  have e : l.length - 1 = k := by omega
  rw [e, goodB_take h (by omega)]
  have h1 := goodB_take h (Nat.le_refl l.length)
  rw [List.take_length] at h1
  rw [h1, hk]
  have h2 : l.take (k + 1) = l := List.take_of_length_le (by omega)
  conv => lhs; unfold gst
  rw [h2]

/-! Shares. -/
def cnt (l : List Bool) : Nat := l.count true
theorem cnt_le (l : List Bool) : cnt l ≤ l.length := List.count_le_length
theorem cnt_snoc (l : List Bool) (b : Bool) : cnt (l ++ [b]) = cnt l + if b = true then 1 else 0 := by
  unfold cnt; cases b <;> simp
def share (l : List Bool) : Int := if l.length ≤ 12 then (if l.length = 0 then 100 else ((100 * cnt l / l.length : Nat) : Int)) else -1
theorem share_all {l : List Bool} (h : l.length ≤ 12) : share l ≤ 100 ∧ 0 ≤ share l ∧ (share l = 100 ↔ cnt l = l.length) ∧ (share l = 0 ↔ cnt l = 0 ∧ 0 < l.length) := by
  unfold share
  rw [if_pos h]
  have hc := cnt_le l
  by_cases h0 : l.length = 0
  · rw [if_pos h0]; omega
  · rw [if_neg h0]
    have hp : 0 < l.length := by omega
    have h1 : 100 * cnt l / l.length ≤ 100 := by
      rw [Nat.div_le_iff_le_mul_add_pred hp]
      have : 100 * cnt l ≤ 100 * l.length := Nat.mul_le_mul_left _ hc
      rw [Nat.mul_comm l.length 100]; omega
    refine ⟨Int.ofNat_le.2 h1, Int.natCast_nonneg _, ?_, ?_⟩
    · constructor
      · intro e
        have e' : 100 ≤ 100 * cnt l / l.length := Nat.le_of_eq (Int.ofNat.inj e).symm
        rw [Nat.le_div_iff_mul_le hp] at e'
        omega
      · intro e
        rw [e, Nat.mul_div_cancel _ hp]; rfl
    · constructor
      · intro e
        have e' : 100 * cnt l / l.length = 0 := Int.ofNat.inj e
        rcases Nat.div_eq_zero_iff.1 e' with e' | e' <;> omega
      · rintro ⟨e, _⟩
        rw [e]; simp
theorem share_more {l : List Bool} (h : l.length + 1 ≤ 12) : share l ≤ share (l ++ [true]) ∧ share (l ++ [false]) ≤ share l := by
  have hc := cnt_le l
  have e1 : (l ++ [true]).length = l.length + 1 := by simp
  have e2 : (l ++ [false]).length = l.length + 1 := by simp
  have c1 := cnt_snoc l true
  have c2 := cnt_snoc l false
  simp only [if_true, Bool.false_eq_true, if_false] at c1 c2
  have hle : l.length ≤ 12 := by omega
  have hn : ¬ l.length + 1 = 0 := by omega
  unfold share
  rw [e1, e2, c1, c2, if_pos hle, if_pos h, if_pos h, if_neg hn, if_neg hn]
  by_cases h0 : l.length = 0
  · rw [if_pos h0, h0]
    have : cnt l = 0 := by omega
    rw [this]; decide
  · rw [if_neg h0]
    have hp : 0 < l.length := by omega
    constructor
    · have hq : 100 * cnt l / l.length * l.length ≤ 100 * cnt l := Nat.div_mul_le_self _ _
      have hq2 : 100 * cnt l / l.length ≤ 100 := by
        rw [Nat.div_le_iff_le_mul_add_pred hp]
        have : 100 * cnt l ≤ 100 * l.length := Nat.mul_le_mul_left _ hc
        rw [Nat.mul_comm l.length 100]; omega
      have : 100 * cnt l / l.length ≤ 100 * (cnt l + 1) / (l.length + 1) := by
        rw [Nat.le_div_iff_mul_le (by omega), Nat.mul_add, Nat.mul_one]; omega
      exact Int.ofNat_le.2 this
    · have : 100 * (cnt l + 0) / (l.length + 1) ≤ 100 * cnt l / l.length := Nat.div_le_div_left (by omega) hp
      exact Int.ofNat_le.2 this

/-! Bits of a word. -/
def wordR : List Bool → Nat
  | [] => 0
  | x :: r => 2 * wordR r + x.toNat
def word (l : List Bool) : Nat := wordR l.reverse
theorem wordR_lt : ∀ r : List Bool, wordR r < 2 ^ r.length
  | [] => by simp [wordR]
  | x :: r => by
    have := wordR_lt r
    have hx : x.toNat ≤ 1 := by cases x <;> simp
    unfold wordR
    rw [List.length_cons, Nat.pow_succ]
    omega
theorem wordR_bit : ∀ (r : List Bool) (j : Nat), wordR r / 2 ^ j % 2 = (r.getD j false).toNat
  | [], j => by simp [wordR]
  | x :: r, 0 => by
    unfold wordR
    cases x <;> simp <;> omega
  | x :: r, j + 1 => by
    have hx : x.toNat ≤ 1 := by cases x <;> simp
    have e : (2 * wordR r + x.toNat) / 2 = wordR r := by omega
    unfold wordR
    rw [Nat.pow_succ', ← Nat.div_div_eq_div_mul, e, wordR_bit r j]
    simp
theorem word_lt {l : List Bool} (h : l.length ≤ 12) : word l < 4096 := by
  have := wordR_lt l.reverse
  unfold word
  have h2 : 2 ^ l.reverse.length ≤ 2 ^ 12 := Nat.pow_le_pow_right (by omega) (by simpa using h)
  omega
theorem word_snoc (l : List Bool) (x : Bool) : word (l ++ [x]) = 2 * word l + x.toNat := by simp [word, wordR]
theorem word_bit {l : List Bool} {j : Nat} (h : j < l.length) : word l / 2 ^ j % 2 = (l.getD (l.length - 1 - j) false).toNat := by
  unfold word; rw [wordR_bit, rev_get h]
theorem word_bit0 {l : List Bool} (h : 0 < l.length) : word l % 2 = (l.getD (l.length - 1) false).toNat := by
  have := word_bit h; simpa using this
theorem toNat_inj {a b : Bool} : a.toNat = b.toNat ↔ a = b := by cases a <;> cases b <;> simp
theorem wordR_zero {r : List Bool} (h : wordR r = 0) : r.count true = 0 := by
  induction r with
  | nil => rfl
  | cons x r ih =>
    unfold wordR at h
    cases x with
    | true => simp at h
    | false => simpa using ih (by omega)
theorem wordR_drop {r : List Bool} {j : Nat} (h : j < r.length) : wordR (r.drop j) = 2 * wordR (r.drop (j + 1)) + (r[j]).toNat := by
  rw [List.drop_eq_getElem_cons h]; rfl
theorem cnt_take_succ {r : List Bool} {j : Nat} (h : j < r.length) : (r.take (j + 1)).count true = (r.take j).count true + (r[j]).toNat := by
  rw [List.take_succ_eq_append_getElem h, List.count_append]
  cases r[j] <;> simp
theorem cnt_split (r : List Bool) (j : Nat) : r.count true = (r.take j).count true + (r.drop j).count true := by
  rw [← List.count_append, List.take_append_drop]
end Go.Proofs.Ytfophplmdljhbaa.Chk

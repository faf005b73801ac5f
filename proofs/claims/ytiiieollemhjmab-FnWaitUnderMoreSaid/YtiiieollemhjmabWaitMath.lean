/-
  Plain facts on waits: their bins, the tops of bins, counts of bins. No condition; nothing of the program's text is used here.
-/
namespace Go.Proofs.Ytiiieollemhjmab.Wt

/-- The bin of a number that is at least 0. -/
def bin (x : Int) : Int := if x < 1 then 0 else if x < 2 then 1 else if x < 4 then 2 else if x < 8 then 3 else if x < 16 then 4 else if x < 32 then 5 else if x < 64 then 6 else 7
def binV (x : Int) : Int := if 0 ≤ x ∧ x ≤ 1000 then bin x else -1
def top (b : Int) : Int := if b < 1 then 0 else if b < 2 then 1 else if b < 3 then 3 else if b < 4 then 7 else if b < 5 then 15 else if b < 6 then 31 else if b < 7 then 63 else 1000
def topV (b : Int) : Int := if 0 ≤ b ∧ b ≤ 7 then top b else -1
theorem bin_range (x : Int) : 0 ≤ bin x ∧ bin x ≤ 7 := by
  unfold bin
  repeat (first | omega | split)
theorem binV_yes {x : Int} (h : 0 ≤ x ∧ x ≤ 1000) : binV x = bin x := if_pos h
theorem binV_no {x : Int} (h : ¬ (0 ≤ x ∧ x ≤ 1000)) : binV x = -1 := if_neg h
theorem binV_bound (x : Int) : -1 ≤ binV x ∧ binV x ≤ 7 := by
  unfold binV
  have := bin_range x
  split <;> omega
theorem topV_yes {b : Int} (h : 0 ≤ b ∧ b ≤ 7) : topV b = top b := if_pos h
theorem topV_no {b : Int} (h : ¬ (0 ≤ b ∧ b ≤ 7)) : topV b = -1 := if_neg h
theorem top_range (b : Int) : 0 ≤ top b ∧ top b ≤ 1000 := by
  unfold top
  repeat (first | omega | split)
theorem topV_bound (b : Int) : -1 ≤ topV b ∧ topV b ≤ 1000 := by
  unfold topV
  have := top_range b
  split <;> omega
theorem binV_pos {x : Int} (h : ¬ binV x < 0) : 0 ≤ x ∧ x ≤ 1000 := by
  by_cases g : 0 ≤ x ∧ x ≤ 1000
  · exact g
  · rw [binV_no g] at h; omega
theorem topV_pos {b : Int} (h : ¬ topV b < 0) : 0 ≤ b ∧ b ≤ 7 := by
  by_cases g : 0 ≤ b ∧ b ≤ 7
  · exact g
  · rw [topV_no g] at h; omega
theorem bin_le {x : Int} (h : 0 ≤ x ∧ x ≤ 1000) : x ≤ top (bin x) := by
  unfold bin
  repeat (first | (unfold top; simp; omega) | split)
theorem bin_gt {x : Int} (h : bin x ≠ 0) : top (bin x - 1) < x := by
  unfold bin at h ⊢
  repeat (first | omega | (unfold top; simp; omega) | split)
theorem bin_more (x : Int) : bin (x + 1) = bin x ∨ bin (x + 1) = bin x + 1 := by
  unfold bin
  repeat (first | omega | split)
theorem bin_top {b : Int} (h : 0 ≤ b ∧ b ≤ 7) : bin (top b) = b := by
  obtain rfl | rfl | rfl | rfl | rfl | rfl | rfl | rfl : b = 0 ∨ b = 1 ∨ b = 2 ∨ b = 3 ∨ b = 4 ∨ b = 5 ∨ b = 6 ∨ b = 7 := by omega
  all_goals rfl
theorem bin_over {b : Int} (h : 0 ≤ b ∧ b < 7) : bin (top b + 1) = b + 1 := by
  obtain rfl | rfl | rfl | rfl | rfl | rfl | rfl : b = 0 ∨ b = 1 ∨ b = 2 ∨ b = 3 ∨ b = 4 ∨ b = 5 ∨ b = 6 := by omega
  all_goals rfl
theorem top_last : top 7 = 1000 := rfl
theorem top_mono {a b : Int} (h : a ≤ b) : top a ≤ top b := by
  unfold top
  repeat (first | omega | split)
theorem top_small {b : Int} (h : b < 7) : top b ≤ 63 := by
  unfold top
  repeat (first | omega | split)

/-! The bits of a number, one after the other. -/
/-- Behind k halvings of x, r is left, and before the last one it was not 0. -/
def Bits (x : Int) (k : Nat) (r : Int) : Prop := k ≤ 10 ∧ r = x / 2 ^ k ∧ (k = 0 ∨ 0 < x / 2 ^ (k - 1))
theorem Bits.zero (x : Int) : Bits x 0 x := ⟨by omega, by simp, .inl rfl⟩
theorem Bits.left {x : Int} (h0 : 0 ≤ x) {k : Nat} {r : Int} (h : Bits x k r) : 0 ≤ r := by
  rw [h.2.1]; exact Int.ediv_nonneg h0 (Int.le_of_lt (Int.pow_pos (by decide)))
theorem Bits.step {x : Int} (h1 : x ≤ 1000) {k : Nat} {r : Int} (h : Bits x k r) (hr : 0 < r) : Bits x (k + 1) (r / 2) := by
  obtain ⟨h2, rfl, h3⟩ := h
  refine ⟨?_, ?_, .inr (by simpa using hr)⟩
  · rcases Nat.lt_or_ge k 10 with e | e
    · omega
    · obtain rfl : k = 10 := by omega
      simp at hr
      omega
  · rw [Int.pow_succ, Int.ediv_ediv_of_nonneg (Int.le_of_lt (Int.pow_pos (by decide)))]
theorem Bits.most {x : Int} {k : Nat} {r : Int} (h : Bits x k r) : k ≤ 10 := h.1
theorem Bits.last {x : Int} (h0 : 0 ≤ x) (h1 : x ≤ 1000) {k : Nat} {r : Int} (h : Bits x k r) (hr : ¬ 0 < r) : min (k : Int) 7 = bin x := by
  obtain ⟨h2, rfl, h3⟩ := h
  match k, h2 with
  | 0, _ => simp at hr; unfold bin; simp; omega
  | 1, _ => simp at hr h3; unfold bin; repeat (first | omega | split)
  | 2, _ => simp at hr h3; unfold bin; repeat (first | omega | split)
  | 3, _ => simp at hr h3; unfold bin; repeat (first | omega | split)
  | 4, _ => simp at hr h3; unfold bin; repeat (first | omega | split)
  | 5, _ => simp at hr h3; unfold bin; repeat (first | omega | split)
  | 6, _ => simp at hr h3; unfold bin; repeat (first | omega | split)
  | 7, _ => simp at hr h3; unfold bin; repeat (first | omega | split)
  | 8, _ => simp at hr h3; unfold bin; repeat (first | omega | split)
  | 9, _ => simp at hr h3; unfold bin; repeat (first | omega | split)
  | 10, _ => simp at hr h3; unfold bin; repeat (first | omega | split)
/-- How many bits a number has. -/
def nbits (x : Int) : Int := if x < 1 then 0 else if x < 2 then 1 else if x < 4 then 2 else if x < 8 then 3 else if x < 16 then 4 else if x < 32 then 5 else if x < 64 then 6 else if x < 128 then 7 else if x < 256 then 8 else if x < 512 then 9 else 10
theorem Bits.all {x : Int} (h0 : 0 ≤ x) (h1 : x ≤ 1000) {k : Nat} {r : Int} (h : Bits x k r) (hr : ¬ 0 < r) : (k : Int) = nbits x := by
  obtain ⟨h2, rfl, h3⟩ := h
  match k, h2 with
  | 0, _ => simp at hr; unfold nbits; simp; omega
  | 1, _ => simp at hr h3; unfold nbits; repeat (first | omega | split)
  | 2, _ => simp at hr h3; unfold nbits; repeat (first | omega | split)
  | 3, _ => simp at hr h3; unfold nbits; repeat (first | omega | split)
  | 4, _ => simp at hr h3; unfold nbits; repeat (first | omega | split)
  | 5, _ => simp at hr h3; unfold nbits; repeat (first | omega | split)
  | 6, _ => simp at hr h3; unfold nbits; repeat (first | omega | split)
  | 7, _ => simp at hr h3; unfold nbits; repeat (first | omega | split)
  | 8, _ => simp at hr h3; unfold nbits; repeat (first | omega | split)
  | 9, _ => simp at hr h3; unfold nbits; repeat (first | omega | split)
  | 10, _ => simp at hr h3; unfold nbits; repeat (first | omega | split)
theorem bits_bin (x : Int) : min (nbits x) 7 = bin x := by
  unfold nbits bin
  repeat (first | omega | split)

/-! The bin by doubling. -/
/-- Behind k doublings of 1. -/
def Dbl (x : Int) (k : Nat) (t : Int) : Prop := k ≤ 7 ∧ t = 2 ^ k ∧ (k = 0 ∨ (2 : Int) ^ (k - 1) ≤ x)
theorem Dbl.zero (x : Int) : Dbl x 0 1 := ⟨by omega, rfl, .inl rfl⟩
theorem Dbl.top {x : Int} {k : Nat} {t : Int} (h : Dbl x k t) : 1 ≤ t ∧ t ≤ 128 := by
  obtain ⟨h1, rfl, _⟩ := h
  match k, h1 with
  | 0, _ => decide
  | 1, _ => decide
  | 2, _ => decide
  | 3, _ => decide
  | 4, _ => decide
  | 5, _ => decide
  | 6, _ => decide
  | 7, _ => decide
theorem Dbl.step {x : Int} {k : Nat} {t : Int} (h : Dbl x k t) (hx : t ≤ x) (hk : k < 7) : Dbl x (k + 1) (2 * t) := by
  obtain ⟨h1, rfl, _⟩ := h
  exact ⟨by omega, by rw [Int.pow_succ]; omega, .inr (by simpa using hx)⟩
theorem Dbl.last {x : Int} {k : Nat} {t : Int} (h : Dbl x k t) (hx : ¬ (t ≤ x ∧ k < 7)) : (k : Int) = bin x := by
  obtain ⟨h1, rfl, h3⟩ := h
  match k, h1 with
  | 0, _ => simp at hx; unfold bin; simp; omega
  | 1, _ => simp at hx h3; unfold bin; repeat (first | omega | split)
  | 2, _ => simp at hx h3; unfold bin; repeat (first | omega | split)
  | 3, _ => simp at hx h3; unfold bin; repeat (first | omega | split)
  | 4, _ => simp at hx h3; unfold bin; repeat (first | omega | split)
  | 5, _ => simp at hx h3; unfold bin; repeat (first | omega | split)
  | 6, _ => simp at hx h3; unfold bin; repeat (first | omega | split)
  | 7, _ => simp at hx h3; unfold bin; repeat (first | omega | split)
theorem top_pow {b : Nat} (h : b < 7) : (2 : Int) ^ b - 1 = top b := by
  match b, h with
  | 0, _ => rfl
  | 1, _ => rfl
  | 2, _ => rfl
  | 3, _ => rfl
  | 4, _ => rfl
  | 5, _ => rfl
  | 6, _ => rfl

theorem pow_step {y : Int} {k : Nat} (h : y = 2 ^ k) (hk : k < 6) : 2 * y = 2 ^ (k + 1) ∧ 2 * y ≤ 64 := by
  subst h
  refine ⟨by rw [Int.pow_succ]; omega, ?_⟩
  match k, hk with
  | 0, _ => decide
  | 1, _ => decide
  | 2, _ => decide
  | 3, _ => decide
  | 4, _ => decide
  | 5, _ => decide

/-! Counts. -/
def inC (l : List Int) : Prop := ∀ x ∈ l, 0 ≤ x ∧ x ≤ 100
instance (l : List Int) : Decidable (inC l) := inferInstanceAs (Decidable (∀ x ∈ l, _))
def cntB (l : List Int) : Bool := decide (l.length = 8 ∧ inC l)
theorem cntB_iff {l : List Int} : cntB l = true ↔ l.length = 8 ∧ inC l := by unfold cntB; simp
theorem cntB_rev (l : List Int) : cntB l.reverse = cntB l := by
  rw [Bool.eq_iff_iff, cntB_iff, cntB_iff]
  unfold inC
  simp
theorem cntB_zero : cntB (List.replicate 8 0) = true := by decide

def inW (l : List Int) : Prop := ∀ x ∈ l, 0 ≤ x ∧ x ≤ 1000
instance (l : List Int) : Decidable (inW l) := inferInstanceAs (Decidable (∀ x ∈ l, _))
/-- How many are in a bin. -/
def cn (l : List Int) (b : Int) : Int := ((l.filter fun x => bin x == b).length : Nat)
theorem cn_nil (b : Int) : cn [] b = 0 := rfl
theorem cn_snoc (l : List Int) (x b : Int) : cn (l ++ [x]) b = cn l b + if bin x = b then 1 else 0 := by
  unfold cn
  rw [List.filter_append, List.length_append]
  by_cases h : bin x = b
  · rw [if_pos h, List.filter_cons, if_pos (by simpa using h)]; simp
  · rw [if_neg h, List.filter_cons, if_neg (by simpa using h)]; simp
theorem cn_app (l m : List Int) (b : Int) : cn (l ++ m) b = cn l b + cn m b := by
  unfold cn
  rw [List.filter_append, List.length_append]
  omega
theorem cn_range (l : List Int) (b : Int) : 0 ≤ cn l b ∧ cn l b ≤ l.length := by
  unfold cn
  have := List.length_filter_le (fun x => bin x == b) l
  omega
def cnts (l : List Int) : List Int := [cn l 0, cn l 1, cn l 2, cn l 3, cn l 4, cn l 5, cn l 6, cn l 7]
theorem cnts_len (l : List Int) : (cnts l).length = 8 := rfl
theorem cnts_nil : cnts [] = [0, 0, 0, 0, 0, 0, 0, 0] := rfl
theorem cnts_at (l : List Int) {b : Nat} (h : b < (cnts l).length) : (cnts l)[b] = cn l b := by
  have h' : b < 8 := h
  match b, h' with
  | 0, _ => rfl
  | 1, _ => rfl
  | 2, _ => rfl
  | 3, _ => rfl
  | 4, _ => rfl
  | 5, _ => rfl
  | 6, _ => rfl
  | 7, _ => rfl
theorem cnts_in {l : List Int} {x : Int} (h : x ∈ cnts l) : 0 ≤ x ∧ x ≤ l.length := by
  simp only [cnts, List.mem_cons, List.not_mem_nil, or_false] at h
  rcases h with rfl | rfl | rfl | rfl | rfl | rfl | rfl | rfl <;> exact cn_range _ _
theorem cnts_snoc (l : List Int) (x : Int) {b : Nat} (hb : bin x = b) (h : b < (cnts l).length) : cnts (l ++ [x]) = (cnts l).set b ((cnts l)[b] + 1) := by
  apply List.ext_getElem
  · rw [List.length_set]; rfl
  · intro i h1 h2
    have e0 := cnts_at l h
    rw [List.getElem_set]
    by_cases e : b = i
    · rw [if_pos e, e0, cnts_at, cn_snoc, hb, if_pos (by omega), e]
    · rw [if_neg e, cnts_at, cnts_at, cn_snoc, hb, if_neg (by omega)]; omega
theorem cnts_sum (l : List Int) : (cnts l).sum = l.length := by
  suffices h : ∀ m : List Int, cn m 0 + cn m 1 + cn m 2 + cn m 3 + cn m 4 + cn m 5 + cn m 6 + cn m 7 = m.length by
    have := h l
    simp only [cnts, List.sum_cons, List.sum_nil]
    omega
  intro m
  induction m with
  | nil => rfl
  | cons x m ih =>
    have e : x :: m = [x] ++ m := rfl
    have hx := bin_range x
    have e1 : ∀ b, cn [x] b = if bin x = b then 1 else 0 := fun b => by
      have := cn_snoc [] x b
      rw [cn_nil] at this
      simpa using this
    rw [e]
    simp only [cn_app, e1, List.length_append, List.length_singleton]
    obtain h | h | h | h | h | h | h | h : bin x = 0 ∨ bin x = 1 ∨ bin x = 2 ∨ bin x = 3 ∨ bin x = 4 ∨ bin x = 5 ∨ bin x = 6 ∨ bin x = 7 := by omega
    all_goals
      rw [h]
      simp
      omega
def waitsB (l : List Int) : Bool := decide ((l.length : Int) ≤ 16 ∧ inW l)
theorem waitsB_iff {l : List Int} : waitsB l = true ↔ (l.length : Int) ≤ 16 ∧ inW l := by unfold waitsB; simp
def cntW (l : List Int) : List Int := if waitsB l = true then cnts l else []
theorem cntW_yes {l : List Int} (h : waitsB l = true) : cntW l = cnts l := if_pos h
theorem cntW_no {l : List Int} (h : waitsB l = false) : cntW l = [] := if_neg (by simp [h])
theorem cntW_len (l : List Int) : (cntW l).length ≤ 8 := by unfold cntW; split <;> simp [cnts]
theorem cntW_valid {l : List Int} (h : waitsB l = true) : cntB (cntW l) = true := by
  rw [cntW_yes h]
  refine cntB_iff.2 ⟨rfl, fun x hx => ?_⟩
  have := cnts_in hx
  have := (waitsB_iff.1 h).1
  omega

/-! Sums. -/
def zip (a b : List Int) : List Int := List.zipWith (· + ·) a b
theorem zip_len (a b : List Int) : (zip a b).length = min a.length b.length := List.length_zipWith
theorem zip_at {a b : List Int} {k : Nat} (h : k < (zip a b).length) (ha : k < a.length) (hb : k < b.length) : (zip a b)[k] = a[k] + b[k] := List.getElem_zipWith
theorem zip_take (a b : List Int) {k : Nat} (ha : k < a.length) (hb : k < b.length) : zip (a.take (k + 1)) (b.take (k + 1)) = zip (a.take k) (b.take k) ++ [a[k] + b[k]] := by
  unfold zip
  rw [List.take_succ_eq_append_getElem ha, List.take_succ_eq_append_getElem hb, List.zipWith_append (by simp; omega)]
  rfl
theorem zip_comm (a b : List Int) : zip a b = zip b a := List.zipWith_comm_of_comm (fun x y => Int.add_comm x y)
theorem zip_sum : ∀ (a b : List Int), a.length = b.length → (zip a b).sum = a.sum + b.sum
  | [], [], _ => rfl
  | x :: a, y :: b, h => by
    have := zip_sum a b (by simpa using h)
    unfold zip at this
    simp only [zip, List.zipWith_cons_cons, List.sum_cons, this]
    omega
def addB (a b : List Int) : Bool := cntB a && cntB b && cntB (zip a b)
def addL (a b : List Int) : List Int := if addB a b = true then zip a b else []
theorem addB_iff {a b : List Int} : addB a b = true ↔ cntB a = true ∧ cntB b = true ∧ cntB (zip a b) = true := by
  unfold addB
  simp only [Bool.and_eq_true, and_assoc]
theorem addL_yes {a b : List Int} (h : addB a b = true) : addL a b = zip a b := if_pos h
theorem addL_no {a b : List Int} (h : addB a b = false) : addL a b = [] := if_neg (by simp [h])
theorem addB_comm (a b : List Int) : addB a b = addB b a := by
  rw [Bool.eq_iff_iff, addB_iff, addB_iff, zip_comm a b]
  constructor <;> rintro ⟨x, y, z⟩ <;> exact ⟨y, x, z⟩
theorem addL_comm (a b : List Int) : addL a b = addL b a := by unfold addL; rw [addB_comm, zip_comm]
theorem addL_len (a b : List Int) : (addL a b).length ≤ 8 := by
  unfold addL
  split
  · rename_i h
    have := (cntB_iff.1 (addB_iff.1 h).2.2).1
    omega
  · simp
theorem cnts_parts (l : List Int) (k : Nat) : zip (cnts (l.take k)) (cnts (l.drop k)) = cnts l := by
  have h : ∀ b, cn l b = cn (l.take k) b + cn (l.drop k) b := fun b => by rw [← cn_app, List.take_append_drop]
  simp only [cnts, zip, List.zipWith_cons_cons, List.zipWith_nil_left, h]
theorem waits_part {l m : List Int} (h : waitsB l = true) (hl : m.length ≤ l.length) (hm : ∀ x ∈ m, x ∈ l) : waitsB m = true := by
  obtain ⟨h1, h2⟩ := waitsB_iff.1 h
  exact waitsB_iff.2 ⟨by omega, fun x hx => h2 x (hm x hx)⟩
theorem parts_add {l : List Int} (h : waitsB l = true) (k : Nat) : addB (cntW (l.take k)) (cntW (l.drop k)) = true ∧ addL (cntW (l.take k)) (cntW (l.drop k)) = cntW l := by
  have h1 := waits_part h (List.length_take_le' k l) (fun x hx => List.mem_of_mem_take hx)
  have h2 := waits_part (m := l.drop k) h (by simp) (fun x hx => List.mem_of_mem_drop hx)
  have h3 : zip (cntW (l.take k)) (cntW (l.drop k)) = cntW l := by rw [cntW_yes h1, cntW_yes h2, cntW_yes h, cnts_parts]
  have h4 : addB (cntW (l.take k)) (cntW (l.drop k)) = true := addB_iff.2 ⟨cntW_valid h1, cntW_valid h2, by rw [h3]; exact cntW_valid h⟩
  exact ⟨h4, by rw [addL_yes h4, h3]⟩

/-! The wait that few are longer than. -/
/-- The sum of the first k. -/
def pre (l : List Int) (k : Nat) : Int := (l.take k).sum
theorem pre_zero (l : List Int) : pre l 0 = 0 := by simp [pre]
theorem pre_succ {l : List Int} {k : Nat} (h : k < l.length) : pre l (k + 1) = pre l k + l[k] := by
  unfold pre
  rw [List.take_succ_eq_append_getElem h, List.sum_append]
  simp
theorem pre_all {l : List Int} {k : Nat} (h : l.length ≤ k) : pre l k = l.sum := by unfold pre; rw [List.take_of_length_le h]
theorem pre_mono {l : List Int} (h : inC l) : ∀ {j k : Nat}, j ≤ k → pre l j ≤ pre l k := by
  intro j k hjk
  induction k with
  | zero => obtain rfl : j = 0 := by omega
            exact Int.le_refl _
  | succ k ih =>
    rcases Nat.lt_or_ge k l.length with e | e
    · rw [pre_succ e]
      have := h l[k] (List.getElem_mem e)
      rcases Nat.lt_or_ge k j with e2 | e2
      · obtain rfl : j = k + 1 := by omega
        rw [pre_succ e]; exact Int.le_refl _
      · have := ih e2; omega
    · rw [pre_all (k := k + 1) (by omega)]
      rcases Nat.lt_or_ge k j with e2 | e2
      · rw [pre_all (by omega)]; exact Int.le_refl _
      · have := ih e2; rwa [pre_all e] at this
theorem pre_range {l : List Int} (h : cntB l = true) (k : Nat) : 0 ≤ pre l k ∧ pre l k ≤ l.sum ∧ l.sum ≤ 800 := by
  obtain ⟨h1, h2⟩ := cntB_iff.1 h
  have a := pre_mono h2 (Nat.zero_le k)
  rw [pre_zero] at a
  have b := pre_mono h2 (show k ≤ k + 8 by omega)
  rw [pre_all (k := k + 8) (by omega)] at b
  refine ⟨a, b, ?_⟩
  have hs : ∀ m : List Int, inC m → m.sum ≤ 100 * m.length := by
    intro m
    induction m with
    | nil => intro _; simp
    | cons x m ih =>
      intro hm
      have := ih fun y hy => hm y (List.mem_cons_of_mem _ hy)
      have := hm x List.mem_cons_self
      simp only [List.sum_cons, List.length_cons]
      omega
  have := hs l h2
  omega
/-- k is the least bin up to which there are p per cent. -/
def IsU (l : List Int) (p : Int) (k : Nat) : Prop := k < 8 ∧ p * l.sum ≤ 100 * pre l (k + 1) ∧ ∀ j, j < k → 100 * pre l (j + 1) < p * l.sum
theorem IsU.one {l : List Int} {p : Int} {j k : Nat} (h : IsU l p j) (g : IsU l p k) : j = k := by
  rcases Nat.lt_trichotomy j k with e | e | e
  · have := g.2.2 j e; have := h.2.1; omega
  · exact e
  · have := h.2.2 k e; have := g.2.1; omega
def und (l : List Int) (p : Int) : Nat := ((List.range 8).find? fun j => decide (p * l.sum ≤ 100 * pre l (j + 1))).getD 7
theorem und_of {l : List Int} {p : Int} {k : Nat} (h : IsU l p k) : und l p = k := by
  obtain ⟨h1, h2, h3⟩ := h
  have : (List.range 8).find? (fun j => decide (p * l.sum ≤ 100 * pre l (j + 1))) = some k := by
    rw [List.find?_range_eq_some]
    refine ⟨by simpa using h2, by simpa using h1, fun j hj => ?_⟩
    have := h3 j hj
    simp
    omega
  unfold und
  rw [this]; rfl
def undB (l : List Int) (p : Int) : Bool := cntB l && decide (0 ≤ p ∧ p ≤ 100) && !(l.sum == 0)
theorem undB_iff {l : List Int} {p : Int} : undB l p = true ↔ cntB l = true ∧ (0 ≤ p ∧ p ≤ 100) ∧ l.sum ≠ 0 := by
  unfold undB
  simp [and_assoc]
def undV (l : List Int) (p : Int) : Int := if undB l p = true then topV (und l p) else 0
theorem undV_no {l : List Int} {p : Int} (h : undB l p = false) : undV l p = 0 := if_neg (by simp [h])
theorem undV_of {l : List Int} {p : Int} {k : Nat} (h : undB l p = true) (hk : IsU l p k) : undV l p = topV k := by unfold undV; rw [if_pos h, und_of hk]
theorem und_sum {l : List Int} {p : Int} (h : undB l p = true) : 0 < l.sum := by
  obtain ⟨h1, _, h3⟩ := undB_iff.1 h
  have := pre_range h1 0
  omega
theorem mul_le_100 {p s : Int} (h : p ≤ 100) (hs : 0 ≤ s) : p * s ≤ 100 * s := Int.mul_le_mul_of_nonneg_right h hs
/-- There is one. -/
theorem isU_last {l : List Int} {p : Int} (h : undB l p = true) : p * l.sum ≤ 100 * pre l 8 := by
  obtain ⟨h1, h2, h3⟩ := undB_iff.1 h
  rw [pre_all (by rw [(cntB_iff.1 h1).1]; omega)]
  exact mul_le_100 h2.2 (Int.le_of_lt (und_sum h))
theorem isU_und {l : List Int} {p : Int} (h : undB l p = true) : IsU l p (und l p) := by
  have hl := isU_last h
  suffices g : ∃ k, IsU l p k by
    obtain ⟨k, hk⟩ := g
    rw [und_of hk]; exact hk
  have step : ∀ n, n ≤ 7 → (∃ k, IsU l p k) ∨ ∀ j, j < n → 100 * pre l (j + 1) < p * l.sum := by
    intro n
    induction n with
    | zero => intro _; exact .inr fun j hj => by omega
    | succ n ih =>
      intro hn
      rcases ih (by omega) with e | e
      · exact .inl e
      · by_cases g : p * l.sum ≤ 100 * pre l (n + 1)
        · exact .inl ⟨n, by omega, g, e⟩
        · refine .inr fun j hj => ?_
          rcases Nat.lt_or_ge j n with e2 | e2
          · exact e j e2
          · obtain rfl : j = n := by omega
            omega
  rcases step 7 (by omega) with e | e
  · exact e
  · exact ⟨7, by omega, hl, e⟩
theorem und_lt {l : List Int} {p : Int} (h : undB l p = true) : und l p < 8 := (isU_und h).1
theorem undV_yes {l : List Int} {p : Int} (h : undB l p = true) : undV l p = top (und l p) := by
  unfold undV
  rw [if_pos h, topV_yes]
  have := und_lt h
  omega
theorem undV_range (l : List Int) (p : Int) : 0 ≤ undV l p ∧ undV l p ≤ 1000 := by
  rcases h : undB l p with _ | _
  · rw [undV_no h]; decide
  · rw [undV_yes h]; exact top_range _
/-- Greater places have longer waits. -/
theorem und_mono {l : List Int} {p q : Int} (h : undB l p = true) (hq : p ≤ q) (hq2 : q ≤ 100) : undB l q = true ∧ undV l p ≤ undV l q := by
  obtain ⟨h1, h2, h3⟩ := undB_iff.1 h
  have g : undB l q = true := undB_iff.2 ⟨h1, by omega, h3⟩
  refine ⟨g, ?_⟩
  rw [undV_yes h, undV_yes g]
  apply top_mono
  have a := isU_und h
  have b := isU_und g
  have hs := und_sum h
  have hm : p * l.sum ≤ q * l.sum := Int.mul_le_mul_of_nonneg_right hq (Int.le_of_lt hs)
  rcases Nat.lt_or_ge (und l q) (und l p) with e | e
  · have := a.2.2 _ e
    have := b.2.1
    omega
  · omega
/-- How the bins are gone through, with the sum of those ahead. -/
theorem isU_back {l : List Int} {p : Int} (h : undB l p = true) {k : Nat} (hk : k ≤ 8) (h1 : ∀ j, j < k → 100 * pre l j < p * l.sum) (h2 : k = 8 ∨ p * l.sum ≤ 100 * pre l k) : IsU l p (k - 1) := by
  obtain ⟨a, b, c⟩ := undB_iff.1 h
  rcases Nat.eq_zero_or_pos k with e | e
  · subst e
    have h3 : p * l.sum ≤ 100 * pre l 0 := by
      rcases h2 with e | e
      · omega
      · exact e
    have := pre_mono (cntB_iff.1 a).2 (Nat.zero_le 1)
    exact ⟨by omega, by simp only [Nat.zero_sub, Nat.zero_add]; omega, fun j hj => by omega⟩
  · have e1 : k - 1 + 1 = k := by omega
    refine ⟨by omega, ?_, fun j hj => h1 (j + 1) (by omega)⟩
    rw [e1]
    rcases h2 with e | e
    · subst e; exact isU_last h
    · exact e
/-- The last bin that is not empty, of the first k. -/
def lastB (l : List Int) : Nat → Nat
  | 0 => 0
  | k + 1 => if 0 < l.getD k 0 then k else lastB l k
theorem lastB_le (l : List Int) : ∀ k, lastB l k ≤ k
  | 0 => Nat.le_refl _
  | k + 1 => by
    unfold lastB
    have := lastB_le l k
    split <;> omega
theorem lastB_lt (l : List Int) : ∀ k, 0 < k → lastB l k < k
  | 0, h => by omega
  | k + 1, _ => by
    unfold lastB
    have := lastB_le l k
    split <;> omega
theorem lastB_pre {l : List Int} (h : inC l) : ∀ k, k ≤ l.length → pre l (lastB l k + 1) = pre l k ∨ (k = 0 ∧ True) ∨ pre l k = 0
  | 0, _ => .inr (.inl ⟨rfl, trivial⟩)
  | k + 1, hk => by
    unfold lastB
    split
    · exact .inl rfl
    · rename_i hg
      have hk' : k < l.length := by omega
      have e0 : l[k] = 0 := by
        have := h l[k] (List.getElem_mem hk')
        rw [List.getD_eq_getElem?_getD, List.getElem?_eq_getElem hk'] at hg
        simp at hg
        omega
      have e : pre l (k + 1) = pre l k := by rw [pre_succ hk', e0]; omega
      rw [e]
      rcases lastB_pre h k (by omega) with g | g | g
      · exact .inl g
      · obtain ⟨rfl, _⟩ := g
        exact .inr (.inr (pre_zero l))
      · exact .inr (.inr g)
theorem lastB_before {l : List Int} (h : inC l) : ∀ k, k ≤ l.length → ∀ j, j < lastB l k → pre l (j + 1) < pre l k
  | 0, _, j, hj => by simp [lastB] at hj
  | k + 1, hk, j, hj => by
    have hk' : k < l.length := by omega
    have hp := h l[k] (List.getElem_mem hk')
    unfold lastB at hj
    split at hj
    · rename_i hg
      rw [List.getD_eq_getElem?_getD, List.getElem?_eq_getElem hk'] at hg
      simp at hg
      rw [pre_succ hk']
      have := pre_mono h (show j + 1 ≤ k by omega)
      omega
    · have := lastB_before h k (by omega) j hj
      rw [pre_succ hk']
      omega
theorem und_all {l : List Int} {p : Int} (h : undB l p = true) : undB l 100 = true ∧ undV l 100 = topV (lastB l l.length) ∧ undV l p ≤ undV l 100 := by
  obtain ⟨h1, h2, h3⟩ := undB_iff.1 h
  obtain ⟨g, gm⟩ := und_mono (q := 100) h h2.2 (by decide)
  obtain ⟨c1, c2⟩ := cntB_iff.1 h1
  have hs := und_sum h
  refine ⟨g, undV_of g ⟨?_, ?_, ?_⟩, gm⟩
  · have := lastB_lt l l.length (by omega); omega
  · rcases lastB_pre c2 l.length (Nat.le_refl _) with e | e | e
    · rw [e, pre_all (Nat.le_refl _)]; exact Int.le_refl _
    · omega
    · rw [pre_all (Nat.le_refl _)] at e; omega
  · intro j hj
    have := lastB_before c2 l.length (Nat.le_refl _) j hj
    rw [pre_all (Nat.le_refl l.length)] at this
    omega
end Go.Proofs.Ytiiieollemhjmab.Wt

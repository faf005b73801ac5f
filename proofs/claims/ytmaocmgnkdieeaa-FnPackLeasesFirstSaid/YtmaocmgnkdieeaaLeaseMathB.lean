/-
  More plain facts on leases: sums of times, leases cut short, parts of lists. No condition; nothing of the program's text is used here.
-/
import Derived.Test.YtmaocmgnkdieeaaLeaseMath
namespace Go.Proofs.Ytmaocmgnkdieeaa.Lse

def dur (x : L) : Int := x.u - x.f
def total (l : List L) : Int := (l.map dur).sum
/-- The time of the owners below n. -/
def upTo (l : List L) (n : Nat) : Int := ((l.filter fun x => decide (x.o < (n : Int))).map dur).sum
theorem total_snoc (l : List L) (x : L) : total (l ++ [x]) = total l + dur x := by simp [total]
theorem total_take {l : List L} {k : Nat} (hk : k < l.length) : total (l.take (k + 1)) = total (l.take k) + dur l[k] := by rw [List.take_succ_eq_append_getElem hk, total_snoc]
theorem total_bounds : ∀ {l : List L}, (∀ x ∈ l, x.ok = true) → 0 ≤ total l ∧ total l ≤ 1000 * l.length
  | [], _ => by simp [total]
  | x :: l, h => by
    have hx := L.ok_iff.1 (h x (by simp))
    have := total_bounds (fun y hy => h y (by simp [hy])) (l := l)
    have e : total (x :: l) = (x.u - x.f) + total l := by simp [total, dur]
    rw [e, List.length_cons]
    omega
theorem upTo_zero {l : List L} (h : ∀ x ∈ l, x.ok = true) : upTo l 0 = 0 := by
  unfold upTo
  rw [List.filter_eq_nil_iff.2 (fun x hx => by have := L.ok_iff.1 (h x hx); simp; omega)]
  rfl
theorem upTo_five {l : List L} (h : ∀ x ∈ l, x.ok = true) : upTo l 5 = total l := by
  unfold upTo total
  rw [List.filter_eq_self.2 (fun x hx => by have := L.ok_iff.1 (h x hx); simp; omega)]
theorem upTo_cons (x : L) (l : List L) (n : Nat) : upTo (x :: l) n = (if x.o < (n : Int) then dur x else 0) + upTo l n := by
  unfold upTo; by_cases h : x.o < (n : Int) <;> simp [h]
theorem time_cons (x : L) (l : List L) (o : Int) : time (x :: l) o = (if x.o = o then dur x else 0) + time l o := by
  unfold time; by_cases h : x.o = o <;> simp [h, dur]
theorem upTo_succ : ∀ (l : List L) (n : Nat), upTo l (n + 1) = upTo l n + time l n
  | [], n => by simp [upTo, time]
  | x :: l, n => by
    rw [upTo_cons, upTo_cons, time_cons, upTo_succ l n]
    by_cases h1 : x.o < (n : Int)
    · rw [if_pos (by omega), if_pos h1, if_neg (by omega)]; omega
    · by_cases h3 : x.o = n
      · rw [if_pos (by omega), if_neg h1, if_pos h3]; omega
      · rw [if_neg (by omega), if_neg h1, if_neg h3]; omega
theorem time_nn {l : List L} (h : ∀ x ∈ l, x.ok = true) (o : Int) : 0 ≤ time l o := (time_bounds h o).1
theorem upTo_bounds {l : List L} (h : ∀ x ∈ l, x.ok = true) (n : Nat) : 0 ≤ upTo l n ∧ upTo l n ≤ 1000 * l.length := by
  unfold upTo
  have h2 : ∀ x ∈ l.filter (fun x => decide (x.o < (n : Int))), x.ok = true := fun x hx => h x (List.mem_filter.1 hx).1
  have := total_bounds h2
  unfold total at this
  have h3 := List.length_filter_le (fun x : L => decide (x.o < (n : Int))) l
  omega

/-- Each lease with its first time alone. -/
def L.short (x : L) : L := ⟨x.c, x.o, x.f, x.f + 1⟩
theorem short_fine {l : List L} (h : Fine l) : Fine (l.map L.short) := by
  refine ⟨fun y hy => ?_, ?_⟩
  · obtain ⟨x, hx, rfl⟩ := List.mem_map.1 hy
    have := L.ok_iff.1 (h.1 x hx)
    exact L.ok_iff.2 (by simp only [L.short]; omega)
  · rw [List.pairwise_map]
    have hok := h.1
    refine List.Pairwise.imp_of_mem ?_ h.2
    intro a b ha hb hab
    have := L.ok_iff.1 (hok a ha)
    have := L.ok_iff.1 (hok b hb)
    rintro ⟨e1, e2, e3⟩
    simp only [L.short] at e1 e2 e3
    exact hab ⟨e1, by omega, by omega⟩
theorem short_valid {l : List L} (h : validB l = true) : validB (l.map L.short) = true := by
  obtain ⟨h1, h2⟩ := validB_iff.1 h
  exact validB_iff.2 ⟨by simpa using h1, short_fine h2⟩

/-- Somebody has the connection then. -/
def someB (l : List L) (c t : Int) : Bool := l.any fun x => hasAt x c t
theorem someB_take {l : List L} {k : Nat} (hk : k < l.length) (c t : Int) : someB (l.take (k + 1)) c t = (someB (l.take k) c t || hasAt l[k] c t) := by
  unfold someB; rw [List.take_succ_eq_append_getElem hk, List.any_append]; simp
theorem someB_owner {l : List L} (h : validB l = true) (c t : Int) : someB l c t = decide (0 ≤ ownerAt l c t) := by
  have hf := (validB_iff.1 h).2
  have e : ownerAt l c t = first l c t := by simp [ownerAt, h]
  rw [e]
  have h1 := first_ge hf c t
  have h2 := first_neg hf (c := c) (t := t)
  rcases hs : someB l c t with _ | _
  · have : first l c t = -1 := h2.2 (fun x hx => by unfold someB at hs; rw [List.any_eq_false] at hs; simpa using hs x hx)
    rw [this]; rfl
  · unfold someB at hs
    obtain ⟨x, hx, hh⟩ := List.any_eq_true.1 hs
    have : ¬ first l c t = -1 := fun e => by have := h2.1 e x hx; rw [this] at hh; cases hh
    have : 0 ≤ first l c t := by omega
    simp [this]
theorem owner_early {l : List L} (c : Int) {t : Int} (ht : t < 0 ∨ 1000 ≤ t) : ownerAt l c t = -1 := by
  unfold ownerAt
  split
  · rename_i h
    refine (first_neg (validB_iff.1 h).2).2 fun x hx => ?_
    have := L.ok_iff.1 ((validB_iff.1 h).2.1 x hx)
    rw [Bool.eq_false_iff, ne_eq, hasAt_iff]
    omega
  · rfl
def ownsB (l : List L) (o : Int) : Bool := l.any fun x => decide (x.o = o)
theorem ownsB_take {l : List L} {k : Nat} (hk : k < l.length) (o : Int) : ownsB (l.take (k + 1)) o = (ownsB (l.take k) o || decide (l[k].o = o)) := by
  unfold ownsB; rw [List.take_succ_eq_append_getElem hk, List.any_append]; simp
theorem ownsB_time : ∀ {l : List L}, (∀ x ∈ l, x.ok = true) → ∀ o, ownsB l o = decide (0 < time l o)
  | [], _, o => by simp [ownsB, time]
  | x :: l, h, o => by
    have hx := L.ok_iff.1 (h x (by simp))
    have h' : ∀ y ∈ l, y.ok = true := fun y hy => h y (by simp [hy])
    have ih := ownsB_time h' o
    have hnn := time_nn h' o
    have e : time (x :: l) o = (if x.o = o then x.u - x.f else 0) + time l o := by
      unfold time; by_cases h : x.o = o <;> simp [h]
    have e2 : ownsB (x :: l) o = (decide (x.o = o) || ownsB l o) := by simp [ownsB]
    rw [e2, e, ih]
    by_cases hh : x.o = o
    · have : 0 < (if x.o = o then x.u - x.f else 0) + time l o := by rw [if_pos hh]; omega
      simp [hh] at this ⊢; exact this
    · simp [hh]

/-! At most 1000 times a connection, 6000 in all. -/
def covers (l : List L) (c : Int) (t : Nat) : Bool := someB l c t
def cnt (l : List L) (c : Int) : Nat := (List.range 1000).countP fun (t : Nat) => someB l c (t : Int)
theorem cnt_le (l : List L) (c : Int) : cnt l c ≤ 1000 := by
  unfold cnt
  have h := List.countP_le_length (p := fun t : Nat => someB l c (t : Int)) (l := List.range 1000)
  rwa [List.length_range] at h
theorem count_between : ∀ (n : Nat) (a b : Nat), a ≤ b → b ≤ n → (List.range n).countP (fun t => decide (a ≤ t ∧ t < b)) = b - a
  | 0, a, b, h1, h2 => by simp; omega
  | n + 1, a, b, h1, h2 => by
    rw [List.range_succ, List.countP_append]
    rcases Nat.lt_or_ge n b with h | h
    · have hb : b = n + 1 := by omega
      subst hb
      have e : (List.range n).countP (fun t => decide (a ≤ t ∧ t < n + 1)) = (List.range n).countP (fun t => decide (min a n ≤ t ∧ t < n)) := by
        apply List.countP_congr
        intro t ht
        rw [List.mem_range] at ht
        simp
        omega
      rw [e, count_between n (min a n) n (by omega) (Nat.le_refl _)]
      by_cases ha : a ≤ n
      · simp [ha]; omega
      · simp [ha]; omega
    · rw [count_between n a b h1 h]
      have : ¬ n < b := by omega
      simp [this]
theorem countP_or {α : Type} {p q : α → Bool} : ∀ (l : List α), (∀ x ∈ l, ¬ (p x = true ∧ q x = true)) → l.countP (fun x => p x || q x) = l.countP p + l.countP q
  | [], _ => rfl
  | x :: l, h => by
    have ih := countP_or l (fun y hy => h y (by simp [hy]))
    have hx := h x (by simp)
    simp only [List.countP_cons, ih]
    rcases hp : p x with _ | _ <;> rcases hq : q x with _ | _ <;> simp_all <;> omega
theorem has_cnt {x : L} (h : x.ok = true) (c : Int) : ((List.range 1000).countP fun t : Nat => hasAt x c (t : Int)) = if x.c = c then (x.u - x.f).toNat else 0 := by
  have hx := L.ok_iff.1 h
  by_cases hc : x.c = c
  · rw [if_pos hc]
    have e : ((List.range 1000).countP fun t : Nat => hasAt x c (t : Int)) = (List.range 1000).countP (fun t => decide (x.f.toNat ≤ t ∧ t < x.u.toNat)) := by
      apply List.countP_congr
      intro t _
      rw [hasAt_iff, decide_eq_true_eq]
      omega
    rw [e, count_between 1000 _ _ (by omega) (by omega)]
    omega
  · rw [if_neg hc, List.countP_eq_zero]
    intro t _
    simp [hasAt, hc]
/-- The times of one connection. -/
def timeC (l : List L) (c : Int) : Int := ((l.filter fun x => decide (x.c = c)).map dur).sum
theorem timeC_cnt : ∀ {l : List L}, Fine l → ∀ c, timeC l c = cnt l c
  | [], _, c => by simp [timeC, cnt, someB]
  | x :: l, h, c => by
    have hl : Fine l := h.sub (by simp)
    have ih := timeC_cnt hl c
    have hok := h.1 x (by simp)
    have hx := L.ok_iff.1 hok
    have hc := has_cnt hok c
    have e1 : cnt (x :: l) c = (if x.c = c then (x.u - x.f).toNat else 0) + cnt l c := by
      rw [← hc]
      unfold cnt
      rw [← countP_or]
      · simp [someB]
      · rintro t _ ⟨h1, h2⟩
        unfold someB at h2
        obtain ⟨y, hy, h3⟩ := List.any_eq_true.1 h2
        have hp := (List.pairwise_cons.1 h.2).1 y hy
        obtain ⟨a1, a2, a3⟩ := hasAt_iff.1 h1
        obtain ⟨b1, b2, b3⟩ := hasAt_iff.1 h3
        exact hp ⟨by omega, by omega, by omega⟩
    have e2 : timeC (x :: l) c = (if x.c = c then x.u - x.f else 0) + timeC l c := by
      unfold timeC; by_cases h : x.c = c <;> simp [h, dur]
    rw [e1, e2, ih]
    split <;> omega
theorem timeC_le {l : List L} (h : Fine l) (c : Int) : timeC l c ≤ 1000 := by
  have := timeC_cnt h c; have := cnt_le l c; omega
theorem sum_conns : ∀ {l : List L}, (∀ x ∈ l, x.ok = true) → total l = timeC l 0 + timeC l 1 + timeC l 2 + timeC l 3 + timeC l 4 + timeC l 5
  | [], _ => by simp [total, timeC]
  | x :: l, h => by
    have hx := L.ok_iff.1 (h x (by simp))
    have ih := sum_conns (fun y hy => h y (by simp [hy])) (l := l)
    have e : total (x :: l) = dur x + total l := by simp [total]
    have e2 : ∀ c, timeC (x :: l) c = (if x.c = c then dur x else 0) + timeC l c := fun c => by
      unfold timeC; by_cases h : x.c = c <;> simp [h]
    rw [e, e2, e2, e2, e2, e2, e2, ih]
    have h6 : x.c = 0 ∨ x.c = 1 ∨ x.c = 2 ∨ x.c = 3 ∨ x.c = 4 ∨ x.c = 5 := by omega
    rcases h6 with h | h | h | h | h | h <;> simp [h] <;> omega
theorem time_most {l : List L} (h : Fine l) (o : Int) : time l o ≤ 6000 := by
  have hs : Fine (l.filter fun x => decide (x.o = o)) := h.sub List.filter_sublist
  have e : time l o = total (l.filter fun x => decide (x.o = o)) := rfl
  rw [e, sum_conns hs.1]
  have := timeC_le hs 0
  have := timeC_le hs 1
  have := timeC_le hs 2
  have := timeC_le hs 3
  have := timeC_le hs 4
  have := timeC_le hs 5
  omega
theorem order_any {l : List L} {x y : L} : validB (l ++ [x] ++ [y]) = validB (l ++ [y] ++ [x]) := by
  apply valid_perm
  rw [List.append_assoc, List.append_assoc]
  exact List.Perm.append_left l (List.Perm.swap y x [])

/-! Busy connections of all leases but the last. -/
theorem owner_take {l : List L} (h : validB l = true) (k : Nat) {c t : Int} (hh : ownerAt (l.take k) c t ≠ -1) : ownerAt l c t ≠ -1 := by
  have hs : validB (l.take k) = true := valid_sub h (List.take_sublist k l)
  have h1 := someB_owner hs c t
  have h2 := someB_owner h c t
  have g := first_ge (validB_iff.1 hs).2 c t
  have e : ownerAt (l.take k) c t = first (l.take k) c t := by simp [ownerAt, hs]
  have h3 : someB (l.take k) c t = true := by rw [h1, decide_eq_true_eq]; rw [e] at hh ⊢; omega
  have h4 : someB l c t = true := by
    unfold someB at h3 ⊢
    obtain ⟨x, hx, hy⟩ := List.any_eq_true.1 h3
    exact List.any_eq_true.2 ⟨x, List.mem_of_mem_take hx, hy⟩
  rw [h4] at h2
  have := of_decide_eq_true h2.symm
  omega
theorem owner_ge (l : List L) (c t : Int) : -1 ≤ ownerAt l c t ∧ ownerAt l c t < 5 := by
  unfold ownerAt
  split
  · rename_i h
    exact first_ge (validB_iff.1 h).2 c t
  · omega
theorem owner_ends {l : List L} (h : validB l = true) {x : L} (hx : x ∈ l) : ownerAt l x.c x.f = x.o ∧ ownerAt l x.c (x.u - 1) = x.o := by
  have hf := (validB_iff.1 h).2
  have hok := L.ok_iff.1 (hf.1 x hx)
  have e : ∀ t, ownerAt l x.c t = first l x.c t := fun t => by simp [ownerAt, h]
  rw [e, e]
  exact ⟨first_mem hf hx (hasAt_iff.2 ⟨rfl, by omega, by omega⟩), first_mem hf hx (hasAt_iff.2 ⟨rfl, by omega, by omega⟩)⟩
end Go.Proofs.Ytmaocmgnkdieeaa.Lse

/-
  Plain facts on caches of statements: which are valid, what they have when a statement is used, how many are prepared. No condition; nothing of the program's text is used here.
-/
import Derived.Test.YtfophplmdljhbaaLeastMath
namespace Go.Proofs.Ytfophplmdljhbaa.Cac
open Lea

structure Cch where
  r : Int
  n : List Int
deriving DecidableEq
def zeroC : Cch := ⟨0, []⟩
def mem (l : List Int) (x : Int) : Bool := decide (x ∈ l)
theorem mem_iff {l : List Int} {x : Int} : mem l x = true ↔ x ∈ l := by unfold mem; simp
theorem mem_no {l : List Int} {x : Int} : mem l x = false ↔ x ∉ l := by unfold mem; simp
def nameB (x : Int) : Bool := decide (0 ≤ x ∧ x ≤ 9)
theorem nameB_iff {x : Int} : nameB x = true ↔ 0 ≤ x ∧ x ≤ 9 := by unfold nameB; simp
def inN (l : List Int) : Prop := ∀ x ∈ l, 0 ≤ x ∧ x ≤ 9
instance (l : List Int) : Decidable (inN l) := inferInstanceAs (Decidable (∀ x ∈ l, _))
def cacheB (c : Cch) : Bool := decide ((0 ≤ c.r ∧ c.r ≤ 6) ∧ (c.n.length : Int) ≤ c.r ∧ inN c.n ∧ c.n.Nodup)
theorem cacheB_iff {c : Cch} : cacheB c = true ↔ (0 ≤ c.r ∧ c.r ≤ 6) ∧ (c.n.length : Int) ≤ c.r ∧ inN c.n ∧ c.n.Nodup := by unfold cacheB; simp
theorem cache_no {c : Cch} (h : ¬ ((0 ≤ c.r ∧ c.r ≤ 6) ∧ (c.n.length : Int) ≤ c.r ∧ inN c.n ∧ c.n.Nodup)) : cacheB c = false := Bool.eq_false_iff.2 fun e => h (cacheB_iff.1 e)
theorem cache_len {c : Cch} (h : cacheB c = true) : c.n.length ≤ 6 := by have := cacheB_iff.1 h; omega
theorem cache_room {c : Cch} (h : cacheB c = true) : 0 ≤ c.r ∧ c.r ≤ 6 := (cacheB_iff.1 h).1

/-- A list without a number. -/
def wo (l : List Int) (x : Int) : List Int := l.filter fun y => !(y == x)
theorem wo_len (l : List Int) (x : Int) : (wo l x).length ≤ l.length := List.length_filter_le _ _
theorem wo_mem {l : List Int} {x y : Int} : y ∈ wo l x ↔ y ∈ l ∧ y ≠ x := by simp [wo]
theorem wo_app (l m : List Int) (x : Int) : wo (l ++ m) x = wo l x ++ wo m x := by simp [wo]
theorem wo_one (x : Int) : wo [x] x = [] := by simp [wo]
theorem wo_wo (l : List Int) (x : Int) : wo (wo l x) x = wo l x := by simp [wo, List.filter_filter]
theorem wo_id {l : List Int} {x : Int} (h : x ∉ l) : wo l x = l := by
  unfold wo
  rw [List.filter_eq_self]
  intro y hy
  have : y ≠ x := fun e => h (e ▸ hy)
  simp [this]
theorem wo_nodup {l : List Int} (h : l.Nodup) (x : Int) : (wo l x).Nodup := h.filter _
theorem wo_del : ∀ {l : List Int} {x : Int} (_ : l.Nodup) (_ : x ∈ l), (wo l x).length + 1 = l.length
  | y :: l, x, hn, hx => by
    rw [List.nodup_cons] at hn
    by_cases e : y = x
    · subst e
      have : wo (y :: l) y = wo l y := by simp [wo]
      rw [this, wo_id hn.1]; rfl
    · have hx' : x ∈ l := by
        rcases List.mem_cons.1 hx with h | h
        · exact absurd h.symm e
        · exact h
      have : wo (y :: l) x = y :: wo l x := by simp [wo, e]
      rw [this, List.length_cons, List.length_cons, wo_del hn.2 hx']
theorem wo_least {l : List Int} (h : l.Nodup) (x : Int) : l.length ≤ (wo l x).length + 1 := by
  by_cases hx : x ∈ l
  · rw [wo_del h hx]; exact Nat.le_refl _
  · rw [wo_id hx]; omega

/-- The last k. -/
def lastN (l : List Int) (k : Nat) : List Int := l.drop (l.length - k)
theorem lastN_len (l : List Int) (k : Nat) : (lastN l k).length = min k l.length := by unfold lastN; rw [List.length_drop]; omega
theorem lastN_all {l : List Int} {k : Nat} (h : l.length ≤ k) : lastN l k = l := by unfold lastN; rw [show l.length - k = 0 by omega]; rfl
theorem lastN_app {l m : List Int} {k : Nat} (h : m.length ≤ k) : lastN (l ++ m) k = lastN l (k - m.length) ++ m := by
  unfold lastN
  rw [List.drop_append, List.length_append]
  have e1 : l.length + m.length - k = l.length - (k - m.length) := by omega
  have e2 : l.length + m.length - k - l.length = 0 := by omega
  rw [e2, e1]; rfl
theorem lastN_zero (l : List Int) : lastN l 0 = [] := by unfold lastN; simp
theorem lastN_lastN {l : List Int} {j k : Nat} (h : j ≤ k) : lastN (lastN l k) j = lastN l j := by
  unfold lastN
  rw [List.drop_drop, List.length_drop]
  congr 1
  omega
theorem lastN_mem {l : List Int} {k : Nat} {x : Int} (h : x ∈ lastN l k) : x ∈ l := List.mem_of_mem_drop h
theorem lastN_nodup {l : List Int} (h : l.Nodup) (k : Nat) : (lastN l k).Nodup := h.sublist (List.drop_sublist _ _)
theorem lastN_suf (l : List Int) (k : Nat) : ∃ m, l = m ++ lastN l k := ⟨l.take (l.length - k), (List.take_append_drop _ _).symm⟩
theorem lastN_of {m s : List Int} {k : Nat} (h : k ≤ s.length) : lastN (m ++ s) k = lastN s k := by
  unfold lastN
  rw [List.length_append, List.drop_append, List.drop_eq_nil_of_le (by omega), List.nil_append]
  congr 1
  omega
theorem lastN_mono {l : List Int} {j k : Nat} (h : j ≤ k) {x : Int} (hx : x ∈ lastN l j) : x ∈ lastN l k := by
  rw [← lastN_lastN h] at hx; exact lastN_mem hx

/-! A statement is used. -/
def useC (c : Cch) (x : Int) : Cch := ⟨c.r, lastN (wo c.n x ++ [x]) c.r.toNat⟩
def useB (c : Cch) (x : Int) : Bool := cacheB c && nameB x
theorem useB_iff {c : Cch} {x : Int} : useB c x = true ↔ cacheB c = true ∧ 0 ≤ x ∧ x ≤ 9 := by unfold useB; simp [nameB_iff]
def useS (c : Cch) (x : Int) : Cch := if useB c x = true then useC c x else zeroC
def hitB (c : Cch) (x : Int) : Bool := useB c x && mem c.n x
theorem useS_yes {c : Cch} {x : Int} (h : useB c x = true) : useS c x = useC c x := if_pos h
theorem useS_no {c : Cch} {x : Int} (h : useB c x = false) : useS c x = zeroC := if_neg (by simp [h])
theorem hitB_yes {c : Cch} {x : Int} (h : useB c x = true) : hitB c x = mem c.n x := by unfold hitB; rw [h]; rfl
theorem hitB_no {c : Cch} {x : Int} (h : useB c x = false) : hitB c x = false := by unfold hitB; rw [h]; rfl
theorem useC_r (c : Cch) (x : Int) : (useC c x).r = c.r := rfl
theorem use_in {c : Cch} {x y : Int} (h : y ∈ (useC c x).n) : y ∈ c.n ∨ y = x := by
  have := lastN_mem h
  rw [List.mem_append, wo_mem, List.mem_singleton] at this
  rcases this with h | h
  · exact .inl h.1
  · exact .inr h
theorem use_valid {c : Cch} {x : Int} (h : cacheB c = true) (hx : 0 ≤ x ∧ x ≤ 9) : cacheB (useC c x) = true := by
  obtain ⟨h1, h2, h3, h4⟩ := cacheB_iff.1 h
  refine cacheB_iff.2 ⟨h1, ?_, fun y hy => ?_, ?_⟩
  · show ((lastN (wo c.n x ++ [x]) c.r.toNat).length : Int) ≤ c.r
    rw [lastN_len]; omega
  · rcases use_in hy with e | e
    · exact h3 y e
    · rw [e]; exact hx
  · refine lastN_nodup (List.nodup_append.2 ⟨wo_nodup h4 x, by simp, fun a ha b hb => ?_⟩) _
    rw [List.mem_singleton] at hb
    subst hb
    exact (wo_mem.1 ha).2
theorem useS_len (c : Cch) (x : Int) : (useS c x).n.length ≤ 6 := by
  unfold useS
  split
  · rename_i h
    obtain ⟨h1, h2⟩ := useB_iff.1 h
    exact cache_len (use_valid h1 h2)
  · simp [zeroC]
theorem useC_len (c : Cch) (x : Int) : (useC c x).n.length ≤ c.n.length + 1 := by
  show (lastN (wo c.n x ++ [x]) c.r.toNat).length ≤ _
  rw [lastN_len, List.length_append]
  have := wo_len c.n x
  simp
  omega
theorem use_last {c : Cch} {x : Int} (h : 0 < c.r) : (useC c x).n = lastN (wo c.n x) (c.r.toNat - 1) ++ [x] := by
  show lastN (wo c.n x ++ [x]) c.r.toNat = _
  rw [lastN_app (by simp; omega)]; rfl
theorem use_none {c : Cch} {x : Int} (h : c.r = 0) : (useC c x).n = [] := by
  show lastN (wo c.n x ++ [x]) c.r.toNat = _
  rw [h]; exact lastN_zero _
theorem use_pos {c : Cch} {x : Int} (h : 0 < c.r) : 0 < (useC c x).n.length := by rw [use_last h]; simp
theorem use_end {c : Cch} {x : Int} (h : 0 < c.r) {k : Nat} (hk : k < (useC c x).n.length) (he : k + 1 = (useC c x).n.length) : (useC c x).n[k] = x := by
  have e := use_last (c := c) (x := x) h
  simp only [e] at hk he ⊢
  rw [List.length_append] at he
  simp at he
  rw [List.getElem_append_right (by omega)]
  simp
theorem use_twice (c : Cch) (x : Int) : useC (useC c x) x = useC c x := by
  unfold useC
  rcases Nat.eq_zero_or_pos c.r.toNat with e | e
  · simp only [e, lastN_zero]
  · have e1 : lastN (wo c.n x ++ [x]) c.r.toNat = lastN (wo c.n x) (c.r.toNat - 1) ++ [x] := lastN_app (by simp; omega)
    simp only [e1]
    rw [wo_app, wo_one, List.append_nil, wo_id (fun h => by simpa using (wo_mem.1 (lastN_mem h)).2), lastN_app (by simp; omega)]
    simp only [List.length_singleton]
    rw [lastN_lastN (Nat.le_refl _)]
theorem use_hit (c : Cch) (x : Int) (hr : 0 ≤ c.r) : mem (useC c x).n x = decide (0 < c.r) := by
  by_cases h : 0 < c.r
  · rw [use_last h, decide_eq_true h]; exact mem_iff.2 (by simp)
  · rw [use_none (by omega), decide_eq_false h]; rfl
def more (c : Cch) : Cch := ⟨c.r + 1, c.n⟩
theorem more_valid {c : Cch} (h : cacheB c = true) (hr : c.r ≠ 6) : cacheB (more c) = true := by
  obtain ⟨h1, h2, h3, h4⟩ := cacheB_iff.1 h
  exact cacheB_iff.2 ⟨by unfold more; simp only; omega, by unfold more; simp only; omega, h3, h4⟩
theorem use_more {c : Cch} (hr : 0 ≤ c.r) {x y : Int} (h : y ∈ (useC c x).n) : y ∈ (useC (more c) x).n := by
  refine lastN_mono (l := wo c.n x ++ [x]) ?_ h
  unfold more; simp only; omega
theorem use_more_len {c : Cch} (hr : 0 ≤ c.r) (x : Int) : (useC (more c) x).n.length ≤ (useC c x).n.length + 1 := by
  show (lastN (wo c.n x ++ [x]) (c.r + 1).toNat).length ≤ (lastN (wo c.n x ++ [x]) c.r.toNat).length + 1
  rw [lastN_len, lastN_len]
  omega
theorem use_order (c : Cch) (x : Int) : ∃ k, wo (useC c x).n x = lastN (wo c.n x) k ∧ k ≤ (wo c.n x).length := by
  by_cases h : 0 < c.r
  · rw [use_last h, wo_app, wo_one, List.append_nil, wo_id (fun h => by simpa using (wo_mem.1 (lastN_mem h)).2)]
    refine ⟨min (c.r.toNat - 1) (wo c.n x).length, ?_, by omega⟩
    unfold lastN
    congr 1
    omega
  · have : (useC c x).n = [] := by
      show lastN (wo c.n x ++ [x]) c.r.toNat = _
      rw [show c.r.toNat = 0 by omega]; exact lastN_zero _
    rw [this]
    exact ⟨0, by rw [lastN_zero]; rfl, Nat.zero_le _⟩
theorem use_order_drop (c : Cch) (x : Int) : (wo (useC c x).n x).length ≤ (wo c.n x).length ∧ (wo c.n x).drop ((wo c.n x).length - (wo (useC c x).n x).length) = wo (useC c x).n x := by
  obtain ⟨k, h1, h2⟩ := use_order c x
  have e : (wo (useC c x).n x).length = k := by rw [h1, lastN_len]; omega
  refine ⟨by omega, ?_⟩
  rw [e]
  exact h1.symm

/-! How many are prepared. -/
def prep (c : Cch) : List Int → Int
  | [] => 0
  | x :: l => (if x ∈ c.n then 0 else 1) + prep (useC c x) l
def after (c : Cch) : List Int → Cch
  | [] => c
  | x :: l => after (useC c x) l
theorem prep_app : ∀ (c : Cch) (l m : List Int), prep c (l ++ m) = prep c l + prep (after c l) m
  | c, [], m => by simp [prep, after]
  | c, x :: l, m => by simp [prep, after, prep_app (useC c x) l m]; omega
theorem after_app : ∀ (c : Cch) (l m : List Int), after c (l ++ m) = after (after c l) m
  | c, [], m => rfl
  | c, x :: l, m => by simp [after, after_app (useC c x) l m]
theorem prep_range : ∀ (c : Cch) (l : List Int), 0 ≤ prep c l ∧ prep c l ≤ l.length
  | c, [] => by simp [prep]
  | c, x :: l => by
    have := prep_range (useC c x) l
    simp only [prep, List.length_cons]
    split <;> omega
theorem after_r : ∀ (c : Cch) (l : List Int), (after c l).r = c.r
  | _, [] => rfl
  | c, x :: l => by rw [after, after_r (useC c x) l]; rfl
theorem after_valid : ∀ {c : Cch} {l : List Int} (_ : cacheB c = true) (_ : inN l), cacheB (after c l) = true
  | _, [], h, _ => h
  | c, x :: l, h, hl => after_valid (c := useC c x) (use_valid h (hl x (by simp))) fun y hy => hl y (by simp [hy])
theorem prep_succ {c : Cch} {l : List Int} {k : Nat} (hk : k < l.length) : prep c (l.take (k + 1)) = prep c (l.take k) + if mem (after c (l.take k)).n l[k] = true then 0 else 1 := by
  rw [List.take_succ_eq_append_getElem hk, prep_app]
  simp only [prep, mem_iff]
  omega
theorem after_succ {c : Cch} {l : List Int} {k : Nat} (hk : k < l.length) : after c (l.take (k + 1)) = useC (after c (l.take k)) l[k] := by
  rw [List.take_succ_eq_append_getElem hk, after_app]; rfl
def namesB (l : List Int) : Bool := decide (l.length ≤ 16 ∧ inN l)
theorem namesB_iff {l : List Int} : namesB l = true ↔ l.length ≤ 16 ∧ inN l := by unfold namesB; simp
def prepV (c : Cch) (l : List Int) : Int := if cacheB c = true ∧ namesB l = true then prep c l else -1
theorem prepV_yes {c : Cch} {l : List Int} (h : cacheB c = true) (hl : namesB l = true) : prepV c l = prep c l := if_pos ⟨h, hl⟩
theorem prepV_no {c : Cch} {l : List Int} (h : ¬ (cacheB c = true ∧ namesB l = true)) : prepV c l = -1 := if_neg h
theorem prepV_ok {c : Cch} {l : List Int} (h : 0 ≤ prepV c l) : cacheB c = true ∧ namesB l = true := by
  unfold prepV at h
  split at h
  · assumption
  · omega
theorem prepV_le (c : Cch) (l : List Int) : -1 ≤ prepV c l ∧ prepV c l ≤ l.length := by
  unfold prepV
  split
  · have := prep_range c l; omega
  · omega
theorem namesB_tail {x : Int} {l : List Int} (h : namesB (x :: l) = true) : namesB l = true := by
  obtain ⟨h1, h2⟩ := namesB_iff.1 h
  exact namesB_iff.2 ⟨by simp at h1; omega, fun y hy => h2 y (by simp [hy])⟩
theorem names_drop {l : List Int} (h : namesB l = true) : namesB (l.drop 1) = true := by
  cases l with
  | nil => exact h
  | cons x l => exact namesB_tail h
theorem prepV_first {c : Cch} {l : List Int} (h : cacheB c = true) (hl : namesB l = true) (h0 : 0 < l.length) : prepV c l = (if mem c.n l[0] = true then (0 : Int) else 1) + prepV (useC c l[0]) (l.drop 1) := by
  cases l with
  | nil => simp at h0
  | cons x l =>
    have hx := (namesB_iff.1 hl).2 x (by simp)
    rw [prepV_yes h hl]
    show prep c (x :: l) = (if mem c.n x = true then (0 : Int) else 1) + prepV (useC c x) l
    rw [prepV_yes (use_valid h hx) (namesB_tail hl), prep]
    simp only [mem_iff]
/-- b has at least what a has, in the same order. -/
def Sub (a b : Cch) : Prop := ∃ k : Nat, a.r = k ∧ b.r = k + 1 ∧ a.n = lastN b.n k ∧ b.n.Nodup
theorem sub_more {c : Cch} (h : cacheB c = true) : Sub c (more c) := by
  obtain ⟨h1, h2, h3, h4⟩ := cacheB_iff.1 h
  exact ⟨c.r.toNat, by omega, by unfold more; simp only; omega, (lastN_all (show c.n.length ≤ c.r.toNat by omega)).symm, h4⟩
theorem sub_use {a b : Cch} (h : Sub a b) (x : Int) : Sub (useC a x) (useC b x) := by
  obtain ⟨k, h1, h2, h3, h4⟩ := h
  refine ⟨k, h1, h2, ?_, ?_⟩
  · have hb : (useC b x).n = lastN (wo b.n x ++ [x]) (k + 1) := by unfold useC; simp only; rw [h2]; rfl
    have ha : (useC a x).n = lastN (wo a.n x ++ [x]) k := by unfold useC; simp only; rw [h1]; rfl
    rw [ha, hb, lastN_lastN (Nat.le_succ _)]
    rcases Nat.eq_zero_or_pos k with e | e
    · subst e; rw [lastN_zero, lastN_zero]
    · rw [lastN_app (by simp; omega), lastN_app (by simp; omega), h3]
      congr 1
      show lastN (wo (lastN b.n k) x) (k - 1) = lastN (wo b.n x) (k - 1)
      rcases Nat.lt_or_ge k b.n.length with hl | hl
      · obtain ⟨m, hm⟩ := lastN_suf b.n k
        have hs : k - 1 ≤ (wo (lastN b.n k) x).length := by
          have := wo_least (lastN_nodup h4 k) x
          rw [lastN_len] at this; omega
        have : wo b.n x = wo m x ++ wo (lastN b.n k) x := by
          rw [← wo_app, ← hm]
        rw [this, lastN_of hs]
      · rw [lastN_all hl]
  · refine lastN_nodup (List.nodup_append.2 ⟨wo_nodup h4 x, by simp, fun p hp q hq => ?_⟩) _
    rw [List.mem_singleton] at hq
    subst hq
    exact (wo_mem.1 hp).2
theorem sub_prep : ∀ {a b : Cch} (_ : Sub a b) (l : List Int), prep b l ≤ prep a l
  | _, _, _, [] => Int.le_refl _
  | a, b, h, x :: l => by
    have := sub_prep (sub_use h x) l
    simp only [prep]
    obtain ⟨k, h1, h2, h3, h4⟩ := h
    have hin : x ∈ a.n → x ∈ b.n := fun hx => by rw [h3] at hx; exact lastN_mem hx
    by_cases ha : x ∈ a.n
    · rw [if_pos ha, if_pos (hin ha)]; omega
    · rw [if_neg ha]
      split <;> omega
theorem prepV_more {c : Cch} {l : List Int} (h : cacheB c = true) (hl : namesB l = true) (hr : c.r ≠ 6) : 0 ≤ prepV (more c) l ∧ prepV (more c) l ≤ prepV c l := by
  rw [prepV_yes h hl, prepV_yes (more_valid h hr) hl]
  exact ⟨(prep_range _ _).1, sub_prep (sub_more h) l⟩
theorem prepV_same {c : Cch} (h : cacheB c = true) (hr : c.r ≠ 0) : prepV c [4, 4, 4] = if mem c.n 4 = true then 0 else 1 := by
  have h0 := cache_room h
  have hm : (4 : Int) ∈ (useC c 4).n := mem_iff.1 (by rw [use_hit c 4 h0.1]; exact decide_eq_true (by omega))
  rw [prepV_yes h (by decide)]
  simp only [prep, use_twice, if_pos hm, mem_iff]
  omega
theorem prepV_nil {c : Cch} (h : cacheB c = true) : prepV c [] = 0 := prepV_yes h (by decide)

/-! A statement is dropped. -/
def dropC (c : Cch) (x : Int) : Cch := ⟨c.r, wo c.n x⟩
def dropB (c : Cch) (x : Int) : Bool := cacheB c && mem c.n x
theorem dropB_iff {c : Cch} {x : Int} : dropB c x = true ↔ cacheB c = true ∧ x ∈ c.n := by unfold dropB; simp [mem_iff]
def dropS (c : Cch) (x : Int) : Cch := if dropB c x = true then dropC c x else zeroC
theorem dropS_yes {c : Cch} {x : Int} (h : dropB c x = true) : dropS c x = dropC c x := if_pos h
theorem dropS_no {c : Cch} {x : Int} (h : dropB c x = false) : dropS c x = zeroC := if_neg (by simp [h])
theorem dropS_len (c : Cch) (x : Int) : (dropS c x).n.length ≤ 6 := by
  unfold dropS
  split
  · rename_i h
    exact Nat.le_trans (wo_len _ _) (cache_len (dropB_iff.1 h).1)
  · simp [zeroC]
theorem drop_valid {c : Cch} (h : cacheB c = true) (x : Int) : cacheB (dropC c x) = true := by
  obtain ⟨h1, h2, h3, h4⟩ := cacheB_iff.1 h
  have := wo_len c.n x
  exact cacheB_iff.2 ⟨h1, by unfold dropC; simp only; omega, fun y hy => h3 y (wo_mem.1 hy).1, wo_nodup h4 x⟩
theorem drop_name {c : Cch} {x : Int} (h : dropB c x = true) : 0 ≤ x ∧ x ≤ 9 := by
  obtain ⟨h1, h2⟩ := dropB_iff.1 h
  exact (cacheB_iff.1 h1).2.2.1 x h2
theorem drop_hit (c : Cch) (x : Int) : mem (dropC c x).n x = false := mem_no.2 fun h => (wo_mem.1 h).2 rfl
theorem drop_len {c : Cch} {x : Int} (h : dropB c x = true) : (dropC c x).n.length + 1 = c.n.length := by
  obtain ⟨h1, h2⟩ := dropB_iff.1 h
  exact wo_del (cacheB_iff.1 h1).2.2.2 h2
theorem drop_use (c : Cch) (x : Int) : useC (dropC c x) x = useC c x := by unfold useC dropC; simp only [wo_wo]

/-! The best cache. -/
/-- How many of the names are there. -/
def cnt (l : List Int) (c : Cch) : Nat := (l.filter (mem c.n)).length
theorem cnt_le (l : List Int) (c : Cch) : cnt l c ≤ l.length := List.length_filter_le _ _
theorem cnt_succ {l : List Int} {c : Cch} {k : Nat} (hk : k < l.length) : cnt (l.take (k + 1)) c = cnt (l.take k) c + if mem c.n l[k] = true then 1 else 0 := by
  unfold cnt
  rw [List.take_succ_eq_append_getElem hk, List.filter_append, List.length_append, List.filter_cons, List.filter_nil]
  split <;> rfl
/-- How many of the names are not there. -/
def miss (l m : List Int) : Nat := (l.filter fun x => !mem m x).length
theorem miss_le (l m : List Int) : miss l m ≤ l.length := List.length_filter_le _ _
theorem miss_succ {l m : List Int} {k : Nat} (hk : k < l.length) : miss (l.take (k + 1)) m = miss (l.take k) m + if mem m l[k] = true then 0 else 1 := by
  unfold miss
  rw [List.take_succ_eq_append_getElem hk, List.filter_append, List.length_append, List.filter_cons, List.filter_nil]
  cases mem m l[k] <;> rfl
theorem miss_cnt (l : List Int) (c : Cch) : (miss l c.n : Int) = (l.length : Int) - (cnt l c : Nat) := by
  have : miss l c.n + cnt l c = l.length := by
    unfold miss cnt
    induction l with
    | nil => rfl
    | cons x l ih =>
      simp only [List.filter_cons]
      cases mem c.n x <;> simp <;> omega
  omega
def misses (cs : List Cch) (l : List Int) : List Int := cs.map fun c => (miss l c.n : Int)
theorem misses_len (cs : List Cch) (l : List Int) : (misses cs l).length = cs.length := by simp [misses]
theorem misses_at {cs : List Cch} {l : List Int} {i : Nat} (h : i < cs.length) : (misses cs l).getD i 0 = (miss l cs[i].n : Int) := by simp [misses, h]
def bestB (cs : List Cch) (l : List Int) : Bool := decide (cs.length ≤ 6 ∧ (∀ c ∈ cs, cacheB c = true) ∧ namesB l = true ∧ l.Nodup)
theorem bestB_iff {cs : List Cch} {l : List Int} : bestB cs l = true ↔ cs.length ≤ 6 ∧ (∀ c ∈ cs, cacheB c = true) ∧ namesB l = true ∧ l.Nodup := by unfold bestB; simp
def bestV (cs : List Cch) (l : List Int) : Int := if bestB cs l = true then lst (misses cs l) cs.length else -1
theorem bestV_yes {cs : List Cch} {l : List Int} (h : bestB cs l = true) : bestV cs l = lst (misses cs l) cs.length := if_pos h
theorem bestV_no {cs : List Cch} {l : List Int} (h : ¬ (cs.length ≤ 6 ∧ (∀ c ∈ cs, cacheB c = true) ∧ namesB l = true ∧ l.Nodup)) : bestV cs l = -1 := if_neg fun e => h (bestB_iff.1 e)
theorem bestV_ok {cs : List Cch} {l : List Int} (h : 0 ≤ bestV cs l) : bestB cs l = true ∧ 0 < cs.length := by
  unfold bestV at h
  split at h
  · rename_i hb
    refine ⟨hb, ?_⟩
    rcases Nat.eq_zero_or_pos cs.length with e | e
    · rw [e] at h; simp [lst] at h
    · exact e
  · omega
theorem bestV_lt (cs : List Cch) (l : List Int) : -1 ≤ bestV cs l ∧ bestV cs l < cs.length := by
  unfold bestV
  split
  · rcases Nat.eq_zero_or_pos cs.length with e | e
    · rw [e]; simp [lst]
    · have := lst_range (misses cs l) _ e; omega
  · omega
/-- The model keeps a cache if it has no fewer. -/
theorem best_keep {cs : List Cch} {l : List Int} {k : Nat} (hk : k < cs.length) (h0 : 0 < k) (hj : (lst (misses cs l) k).toNat < cs.length) :
    ¬ (lst (misses cs l) k = -1 ∨ (misses cs l).getD k 0 < (misses cs l).getD (lst (misses cs l) k).toNat 0) ↔ cnt l cs[k] ≤ cnt l cs[(lst (misses cs l) k).toNat] := by
  have hr := lst_range (misses cs l) k h0
  rw [misses_at hk, misses_at hj, miss_cnt, miss_cnt]
  omega
theorem best_cnt {cs : List Cch} {l : List Int} {n i : Nat} (hn : bestV cs l = n) (hi : i < cs.length) (hn' : n < cs.length) : cnt l cs[i] ≤ cnt l cs[n] ∧ (i < n → cnt l cs[i] < cnt l cs[n]) := by
  have hb := (bestV_ok (cs := cs) (l := l) (by omega)).1
  rw [bestV_yes hb] at hn
  have := lst_least (misses cs l) cs.length i hi
  rw [hn, Int.toNat_natCast, misses_at hn', misses_at hi, miss_cnt, miss_cnt] at this
  omega
theorem best_nil {cs : List Cch} {l : List Int} (h : 0 ≤ bestV cs l) : bestV cs [] = 0 := by
  obtain ⟨hb, h0⟩ := bestV_ok h
  obtain ⟨h1, h2, _, _⟩ := bestB_iff.1 hb
  rw [bestV_yes (bestB_iff.2 ⟨h1, h2, by decide, by simp⟩)]
  refine lst_one (j := 0) h0 fun i hi => .inr ⟨?_, Nat.zero_le _⟩
  rw [misses_at hi, misses_at h0]; rfl
theorem best_first {cs : List Cch} {l : List Int} (h : 0 ≤ bestV cs l) : bestV (cs.take 1) l = 0 := by
  obtain ⟨hb, h0⟩ := bestV_ok h
  obtain ⟨h1, h2, h3, h4⟩ := bestB_iff.1 hb
  have e : (cs.take 1).length = 1 := by rw [List.length_take]; omega
  rw [bestV_yes (bestB_iff.2 ⟨by omega, fun c hc => h2 c (List.mem_of_mem_take hc), h3, h4⟩), e]
  rfl
end Go.Proofs.Ytfophplmdljhbaa.Cac

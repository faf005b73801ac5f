/-
  Plain facts on wishes that the laws ask for. No condition; nothing of the program's text is used here.
-/
import Derived.Test.YtolcnokmdohbaaaWishMath
namespace Go.Proofs.Ytolcnokmdohbaaa.Wis

theorem sub_out {α : Type} (l : List α) (k : Nat) : (l.take k ++ l.drop (k + 1)).Sublist l := by
  have h : (l.drop (k + 1)).Sublist (l.drop k) := by
    have := List.drop_sublist 1 (l.drop k)
    rwa [List.drop_drop] at this
  have h2 := List.Sublist.append (List.Sublist.refl (l.take k)) h
  rwa [List.take_append_drop] at h2
theorem wish_out {l : List Wi} (h : wishB l = true) (k : Nat) : wishB (l.take k ++ l.drop (k + 1)) = true := wish_sub h (sub_out l k)
theorem wish_nil : wishB [] = true := wishB_iff.2 ⟨by simp, Fine.nil⟩
def later (l : List Wi) : List Wi := l.map fun x => ⟨x.a + 1, x.h, x.p⟩
theorem wish_later {l : List Wi} (h : wishB l = true) (hl : ∀ x ∈ l, x.a < 1000) : wishB (later l) = true := by
  obtain ⟨h1, h2, h3⟩ := wishB_iff.1 h
  refine wishB_iff.2 ⟨by simpa [later] using h1, ?_, ?_⟩
  · intro x hx
    obtain ⟨y, hy, rfl⟩ := List.mem_map.1 hx
    have := Wi.ok_iff.1 (h2 y hy)
    have := hl y hy
    exact Wi.ok_iff.2 (by simp only []; omega)
  · unfold later
    rw [List.pairwise_map]
    exact h3.imp (fun hxy => by simp only []; omega)
theorem last_most {l : List Wi} (h : wishB l = true) (hl : 0 < l.length) (hx : l[l.length - 1].a ≠ 1000) : ∀ x ∈ l, x.a < 1000 := by
  obtain ⟨_, h2⟩ := wishB_iff.1 h
  intro x hm
  obtain ⟨j, hj, rfl⟩ := List.mem_iff_getElem.1 hm
  have := fine_get h2 hj (show l.length - 1 < l.length by omega) (by omega)
  have := Wi.ok_iff.1 (h2.1 _ (List.getElem_mem (show l.length - 1 < l.length by omega)))
  omega

theorem serveB_iff {l : List Wi} {m : Int} : serveB l m = true ↔ wishB l = true ∧ 1 ≤ m ∧ m ≤ 6 := by unfold serveB; simp
theorem serve_yes {l : List Wi} {m : Int} (h : serveB l m = true) : serveL l m = run (zeros m.toNat) l := by unfold serveL; rw [if_pos h]
theorem serve_no {l : List Wi} {m : Int} (h : serveB l m = false) : serveL l m = [] := by unfold serveL; rw [if_neg (by simp [h])]
theorem serve_all {l : List Wi} {m : Int} (h : serveB l m = true) : (serveL l m).length = l.length := by rw [serve_yes h, run_len]
theorem serve_take {l : List Wi} {m : Int} (h : serveB l m = true) (k : Nat) : serveL (l.take k) m = (serveL l m).take k := by
  obtain ⟨h1, h2, h3⟩ := serveB_iff.1 h
  rw [serve_yes h, serve_yes (serveB_iff.2 ⟨wish_sub h1 (List.take_sublist k l), h2, h3⟩), run_take]
/-- Each one is -1, or in its time. -/
theorem serve_at {l : List Wi} {m : Int} (h : serveB l m = true) {k : Nat} (hk : k < l.length) : ∃ t, (serveL l m)[k]? = some t ∧ t ≤ 1200 ∧ (t = -1 ∨ (0 ≤ t ∧ l[k].a ≤ t ∧ t ≤ l[k].a + l[k].p)) := by
  obtain ⟨h1, h2, h3⟩ := serveB_iff.1 h
  rw [serve_yes h, run_get hk]
  refine ⟨_, rfl, ?_⟩
  have hn : after (zeros m.toNat) (l.take k) ≠ [] := after_ne (zeros_ne (by omega))
  have hi := state_in h1 (m := m.toNat) (by omega) k
  have hs := soon_bd (ok_of hk h1) hi hn
  rcases stepT_cases (after (zeros m.toNat) (l.take k)) l[k] with ⟨e1, e2⟩ | ⟨e1, e2⟩
  · rw [e2]
    have := of_decide_eq_true e1
    exact ⟨by omega, .inr ⟨by omega, by omega, this⟩⟩
  · rw [e2]; exact ⟨by omega, .inl rfl⟩
theorem zeros_head {m : Nat} (h : 0 < m) : (zeros m).headD 0 = 0 := by cases m with | zero => omega | succ m => simp [zeros, List.replicate_succ]
theorem serve_first {l : List Wi} {m : Int} (h : serveB l m = true) (hl : 0 < l.length) : (serveL l m)[0]? = some l[0].a := by
  obtain ⟨h1, h2, h3⟩ := serveB_iff.1 h
  rw [serve_yes h, run_get hl]
  have hok := Wi.ok_iff.1 (ok_of hl h1)
  have hs : soon (zeros m.toNat) l[0] = l[0].a := by unfold soon; rw [zeros_head (by omega)]; omega
  have : servT (after (zeros m.toNat) (l.take 0)) l[0] = l[0].a := by
    simp only [List.take_zero, after, List.foldl_nil]
    unfold servT okAt
    rw [hs, if_pos (by simp; omega)]
  rw [this]

/-! How many have connections at a time. -/
def now (T : Int) (q : Int × Wi) : Bool := decide (0 ≤ q.1 ∧ q.1 ≤ T ∧ T < q.1 + q.2.h)
def busyN (ts : List Int) (l : List Wi) (T : Int) : Nat := (ts.zip l).countP (now T)
def over (f : List Int) (T : Int) : Nat := f.countP fun t => decide (T < t)
theorem over_ins (t : Int) (f : List Int) (T : Int) : over (ins t f) T = over f T + if T < t then 1 else 0 := by
  unfold over
  rw [(ins_perm t f).countP_eq, List.countP_cons]
  simp
theorem busy_over {f : List Int} {l : List Wi} {T : Int} (hl : ∀ x ∈ l, x.ok = true) (hf : InT f) (hn : f ≠ []) {c : Nat} (hc : c ≤ over f T) : c + busyN (run f l) l T ≤ over (after f l) T := by
  induction l generalizing f c with
  | nil => simpa [busyN, run, after] using hc
  | cons x l ih =>
    have hx := hl x (by simp)
    have hxo := Wi.ok_iff.1 hx
    have hs := soon_bd hx hf hn
    have hne : servF f x ≠ [] := by
      intro e
      have e2 := stepF_len (x := x) hn
      rw [e] at e2
      exact hn (List.eq_nil_of_length_eq_zero e2.symm)
    have ih' := fun c hc => ih (fun y hy => hl y (by simp [hy])) (stepF_in hx hf hn) hne (c := c) hc
    have e1 : busyN (run f (x :: l)) (x :: l) T = busyN (run (servF f x) l) l T + if now T (servT f x, x) = true then 1 else 0 := by
      simp only [busyN, run, List.zip_cons_cons, List.countP_cons]
    have e2 : after f (x :: l) = after (servF f x) l := rfl
    rw [e1, e2]
    have hov : over f T = over f.tail T + if T < f.headD 0 then 1 else 0 := by
      cases f with
      | nil => exact absurd rfl hn
      | cons a f => simp [over, List.countP_cons]
    have hh : f.headD 0 ≤ soon f x := by unfold soon; omega
    rcases stepT_cases f x with ⟨a1, a2⟩ | ⟨a1, a2⟩
    · have hst : over (servF f x) T = over f.tail T + if T < soon f x + x.h then 1 else 0 := by
        unfold servF; rw [if_pos a1, over_ins]
      by_cases hnow : now T (servT f x, x) = true
      · have hd := of_decide_eq_true hnow
        simp only [a2] at hd
        have := ih' (c + 1) (by rw [hst, if_pos hd.2.2]; rw [hov, if_neg (by omega)] at hc; omega)
        rw [if_pos hnow]; omega
      · have := ih' c (by
          rw [hst]; rw [hov] at hc
          by_cases h5 : T < soon f x + x.h
          · rw [if_pos h5]; split at hc <;> omega
          · rw [if_neg h5]; rw [if_neg (by omega)] at hc; omega)
        rw [if_neg hnow]; omega
    · have hnow : ¬ now T (servT f x, x) = true := by
        rw [a2]; intro h; have := of_decide_eq_true h; simp only [] at this; omega
      rw [if_neg hnow]
      have := ih' c (by unfold servF; rw [if_neg (by simp [a1])]; exact hc)
      omega
theorem busy_most {l : List Wi} {m : Int} (h : serveB l m = true) (T : Int) : (busyN (serveL l m) l T : Int) ≤ m := by
  obtain ⟨h1, h2, h3⟩ := serveB_iff.1 h
  rw [serve_yes h]
  have hz := zeros_ne (m := m.toNat) (by omega)
  have := busy_over (T := T) (wishB_iff.1 h1).2.1 (zeros_in m.toNat) hz (Nat.zero_le _)
  have h5 : over (after (zeros m.toNat) l) T ≤ (after (zeros m.toNat) l).length := List.countP_le_length
  have h6 : (zeros m.toNat).length = m.toNat := by simp [zeros]
  rw [after_len hz, h6] at h5
  omega
theorem busy_succ {ts : List Int} {l : List Wi} {k : Nat} (hk : k < ts.length) (hl : k < l.length) (T : Int) : busyN (ts.take (k + 1)) (l.take (k + 1)) T = busyN (ts.take k) (l.take k) T + if now T (ts[k], l[k]) = true then 1 else 0 := by
  unfold busyN
  rw [List.take_succ_eq_append_getElem hk, List.take_succ_eq_append_getElem hl, List.zip_append (by simp; omega), List.countP_append]
  simp

/-! How many are served. -/
theorem served_app (a b : List Int) : servN (a ++ b) = servN a + servN b := by simp [servN]
theorem served_le (a : List Int) : 0 ≤ servN a ∧ servN a ≤ a.length := by
  have := List.countP_le_length (p := fun t : Int => decide (t ≠ -1)) (l := a)
  unfold servN; omega
theorem served_all {a : List Int} : servN a = a.length ↔ ∀ t ∈ a, t ≠ -1 := by
  unfold servN
  have := List.countP_eq_length (p := fun t : Int => decide (t ≠ -1)) (l := a)
  simp only [decide_eq_true_eq] at this
  rw [← this]; omega
theorem count_yes {l : List Wi} {m : Int} (h : serveB l m = true) : countS l m = servN (serveL l m) := by unfold countS; rw [if_pos h, serve_yes h]
theorem count_no {l : List Wi} {m : Int} (h : serveB l m = false) : countS l m = -1 := by unfold countS; rw [if_neg (by simp [h])]
theorem count_bd {l : List Wi} {m : Int} (h : serveB l m = true) : 0 ≤ countS l m ∧ countS l m ≤ l.length := by
  rw [count_yes h]
  have := served_le (serveL l m)
  rw [serve_all h] at this; exact this
theorem count_some {l : List Wi} {m : Int} (h : serveB l m = true) : countS l m ≥ min 1 (l.length : Int) := by
  rcases Nat.eq_zero_or_pos l.length with e | e
  · have := count_bd h; omega
  · rw [count_yes h]
    have h1 := serve_first h e
    have h2 := Wi.ok_iff.1 (ok_of e (serveB_iff.1 h).1)
    have hm : l[0].a ∈ serveL l m := List.mem_of_getElem? h1
    have : 0 < (serveL l m).countP (fun t => decide (t ≠ -1)) := List.countP_pos_iff.2 ⟨_, hm, by simp; omega⟩
    unfold servN; omega
theorem served_succ {a : List Int} {k : Nat} (hk : k < a.length) : servN (a.take (k + 1)) = servN (a.take k) + if a[k] = -1 then 0 else 1 := by
  rw [List.take_succ_eq_append_getElem hk, served_app]
  congr 1
  unfold servN
  by_cases e : a[k] = -1 <;> simp [e]

/-! Waits. -/
theorem waits_ge : ∀ (ts : List Int) (l : List Wi), 0 ≤ waits ts l
  | [], _ => by simp [waits]
  | _ :: _, [] => by simp [waits]
  | t :: ts, x :: l => by have := waits_ge ts l; simp only [waits]; omega
theorem waits_app : ∀ {ts : List Int} {l : List Wi} (_ : ts.length = l.length) (t : Int) (x : Wi), waits (ts ++ [t]) (l ++ [x]) = max (waits ts l) (if t = -1 then 0 else t - x.a)
  | [], [], _, t, x => by simp [waits]
  | s :: ts, y :: l, h, t, x => by
    have := waits_app (ts := ts) (l := l) (by simpa using h) t x
    simp only [List.cons_append, waits, this]
    omega
  | [], _ :: _, h, _, _ => by simp at h
  | _ :: _, [], h, _, _ => by simp at h
theorem waits_succ {ts : List Int} {l : List Wi} (h : ts.length = l.length) {k : Nat} (hk : k < l.length) : waits (ts.take (k + 1)) (l.take (k + 1)) = max (waits (ts.take k) (l.take k)) (if ts[k] = -1 then 0 else ts[k] - l[k].a) := by
  rw [List.take_succ_eq_append_getElem hk, List.take_succ_eq_append_getElem (by omega : k < ts.length), waits_app (by simp; omega)]
theorem waits_at {ts : List Int} {l : List Wi} (h : ts.length = l.length) {k : Nat} (hk : k < l.length) (hx : ts[k] ≠ -1) : ts[k] - l[k].a ≤ waits ts l := by
  induction ts generalizing l k with
  | nil => simp at h; omega
  | cons t ts ih =>
    cases l with
    | nil => simp at hk
    | cons x l =>
      cases k with
      | zero => simp only [List.getElem_cons_zero] at hx ⊢; simp only [waits, if_neg hx]; omega
      | succ k =>
        simp only [List.getElem_cons_succ] at hx ⊢
        have := ih (l := l) (by simpa using h) (k := k) (by simpa using hk) hx
        simp only [waits]; omega
theorem waits_some {ts : List Int} {l : List Wi} (h : ts.length = l.length) : waits ts l = 0 ∨ ∃ k, ∃ hk : k < l.length, ∃ hk' : k < ts.length, ts[k] ≠ -1 ∧ ts[k] = l[k].a + waits ts l := by
  induction ts generalizing l with
  | nil => simp [waits]
  | cons t ts ih =>
    cases l with
    | nil => simp [waits]
    | cons x l =>
      have e : waits (t :: ts) (x :: l) = max (waits ts l) (if t = -1 then 0 else t - x.a) := rfl
      have h0 := waits_ge ts l
      by_cases hm : (if t = -1 then 0 else t - x.a) ≤ waits ts l
      · rw [e, Int.max_eq_left hm]
        rcases ih (l := l) (by simpa using h) with e1 | ⟨k, hk, hk', e1, e2⟩
        · exact .inl e1
        · exact .inr ⟨k + 1, by simpa using hk, by simpa using hk', by simpa using e1, by simpa using e2⟩
      · rw [e, Int.max_eq_right (by omega)]
        by_cases ht : t = -1
        · rw [if_pos ht] at hm; omega
        · rw [if_neg ht]
          exact .inr ⟨0, by simp, by simp, by simpa using ht, by simp; omega⟩
def patient (l : List Wi) : Int := l.foldl (fun m x => max m x.p) 0
theorem patient_succ {l : List Wi} {k : Nat} (hk : k < l.length) : patient (l.take (k + 1)) = max (patient (l.take k)) l[k].p := by
  unfold patient; rw [List.take_succ_eq_append_getElem hk, List.foldl_append]; rfl
theorem patient_ge {l : List Wi} : ∀ x ∈ l, x.p ≤ patient l := by
  have key : ∀ (l : List Wi) (m : Int), m ≤ l.foldl (fun m x => max m x.p) m ∧ ∀ x ∈ l, x.p ≤ l.foldl (fun m x => max m x.p) m := by
    intro l
    induction l with
    | nil => intro m; simp
    | cons y l ih =>
      intro m
      obtain ⟨h1, h2⟩ := ih (max m y.p)
      simp only [List.foldl_cons]
      refine ⟨by omega, fun x hx => ?_⟩
      rcases List.mem_cons.1 hx with e | hx
      · subst e; omega
      · exact h2 x hx
  exact (key l 0).2
theorem patient_zero (l : List Wi) : 0 ≤ patient l := by
  have key : ∀ (l : List Wi) (m : Int), m ≤ l.foldl (fun m x => max m x.p) m := by
    intro l
    induction l with
    | nil => intro m; simp
    | cons y l ih => intro m; have := ih (max m y.p); simp only [List.foldl_cons]; omega
  exact key l 0
theorem long_yes {l : List Wi} {m : Int} (h : serveB l m = true) : longest l m = waits (serveL l m) l := by unfold longest; rw [if_pos h, serve_yes h]
theorem long_no {l : List Wi} {m : Int} (h : serveB l m = false) : longest l m = -1 := by unfold longest; rw [if_neg (by simp [h])]
theorem long_patient {l : List Wi} {m : Int} (h : serveB l m = true) : 0 ≤ longest l m ∧ longest l m ≤ patient l ∧ longest l m ≤ 100 := by
  rw [long_yes h]
  have h0 := waits_ge (serveL l m) l
  rcases waits_some (serve_all h) with e | ⟨k, hk, hk', e1, e2⟩
  · have := patient_zero l; omega
  · obtain ⟨t, ht, _, hc⟩ := serve_at h hk
    rw [List.getElem?_eq_getElem hk'] at ht
    injection ht with ht
    have hp := patient_ge l[k] (List.getElem_mem hk)
    have := Wi.ok_iff.1 (ok_of hk (serveB_iff.1 h).1)
    omega
theorem serveB_take {l : List Wi} {m : Int} (h : serveB l m = true) (k : Nat) : serveB (l.take k) m = true := by
  obtain ⟨h1, h2⟩ := serveB_iff.1 h
  exact serveB_iff.2 ⟨wish_sub h1 (List.take_sublist k l), h2⟩
theorem long_take {l : List Wi} {m : Int} (h : serveB l m = true) (k : Nat) : longest (l.take k) m ≤ longest l m := by
  rw [long_yes h, long_yes (serveB_take h k), serve_take h]
  have hl := serve_all h
  rcases waits_some (ts := (serveL l m).take k) (l := l.take k) (by simp [hl]) with e | ⟨j, hj, hj', e1, e2⟩
  · rw [e]; exact waits_ge _ _
  · rw [List.length_take] at hj hj'
    rw [List.getElem_take] at e1 e2
    rw [List.getElem_take] at e2
    have := waits_at hl (k := j) (by omega) e1
    omega
theorem long_one {l : List Wi} {m : Int} (h : serveB l m = true) : longest (l.take 1) m = 0 := by
  rcases Nat.eq_zero_or_pos l.length with e | e
  · have : l = [] := List.eq_nil_of_length_eq_zero e
    subst this
    have h2 := h
    rw [List.take_nil, long_yes h2]
    have : serveL [] m = [] := List.eq_nil_of_length_eq_zero (by rw [serve_all h2]; rfl)
    rw [this]; rfl
  · have h1 := serve_first h e
    rw [long_yes (serveB_take h 1), serve_take h]
    have hl := serve_all h
    have hok := Wi.ok_iff.1 (ok_of e (serveB_iff.1 h).1)
    have e1 : (serveL l m).take 1 = [l[0].a] := by
      rw [List.take_succ_eq_append_getElem (by omega), List.take_zero, List.nil_append]
      rw [List.getElem?_eq_getElem (by omega)] at h1
      injection h1 with h1; rw [h1]
    have e2 : l.take 1 = [l[0]] := by rw [List.take_succ_eq_append_getElem e, List.take_zero, List.nil_append]
    rw [e1, e2]
    simp only [waits]
    rw [if_neg (by omega)]; omega

/-! Those who do not wait. -/
def hasty (l : List Wi) : List Wi := l.map fun x => ⟨x.a, x.h, 0⟩
theorem hasty_len (l : List Wi) : (hasty l).length = l.length := by simp [hasty]
theorem hasty_at {l : List Wi} {k : Nat} (hk : k < l.length) : (hasty l)[k]'(by rw [hasty_len]; exact hk) = ⟨l[k].a, l[k].h, 0⟩ := by simp [hasty]
theorem hasty_succ {l : List Wi} {k : Nat} (hk : k < l.length) : hasty (l.take (k + 1)) = hasty (l.take k) ++ [⟨l[k].a, l[k].h, 0⟩] := by
  unfold hasty; rw [List.take_succ_eq_append_getElem hk, List.map_append]; rfl
theorem hasty_ok {l : List Wi} {m : Int} (h : serveB l m = true) : serveB (hasty l) m = true := by
  obtain ⟨h1, h2⟩ := serveB_iff.1 h
  obtain ⟨a1, a2, a3⟩ := wishB_iff.1 h1
  refine serveB_iff.2 ⟨wishB_iff.2 ⟨by rw [hasty_len]; exact a1, ?_, ?_⟩, h2⟩
  · intro x hx
    obtain ⟨y, hy, rfl⟩ := List.mem_map.1 hx
    have := Wi.ok_iff.1 (a2 y hy)
    exact Wi.ok_iff.2 (by simp only []; omega)
  · unfold hasty
    rw [List.pairwise_map]
    exact a3
theorem hasty_serve {l : List Wi} {m : Int} (h : serveB l m = true) {k : Nat} (hk : k < l.length) : ∃ t, (serveL (hasty l) m)[k]? = some t ∧ (t = -1 ∨ t = l[k].a) := by
  obtain ⟨t, h1, _, h2⟩ := serve_at (hasty_ok h) (k := k) (by rw [hasty_len]; exact hk)
  rw [hasty_at hk] at h2
  simp only [] at h2
  exact ⟨t, h1, by omega⟩
theorem hasty_long {l : List Wi} {m : Int} (h : serveB l m = true) : longest (hasty l) m = 0 := by
  have h' := hasty_ok h
  obtain ⟨h0, h1, _⟩ := long_patient h'
  have : patient (hasty l) = 0 := by
    have key : ∀ (l : List Wi), (hasty l).foldl (fun m x => max m x.p) 0 = 0 := by
      intro l
      induction l with
      | nil => rfl
      | cons y l ih => simpa [hasty] using ih
    exact key l
  omega

/-! How many connections are needed. -/
theorem first_cases (l : List Wi) : ∀ (k n : Nat), (firstAll l n k = -1 ∧ ∀ j : Nat, n ≤ j → j < n + k → countS l j ≠ l.length) ∨ ∃ j : Nat, n ≤ j ∧ j < n + k ∧ firstAll l n k = j ∧ countS l j = l.length ∧ ∀ i : Nat, n ≤ i → i < j → countS l i ≠ l.length
  | 0, n => .inl ⟨rfl, fun j h1 h2 => by omega⟩
  | k + 1, n => by
    by_cases h : countS l n = l.length
    · exact .inr ⟨n, Nat.le_refl _, by omega, by simp [firstAll, h], h, fun i h1 h2 => by omega⟩
    · rcases first_cases l k (n + 1) with ⟨e1, e2⟩ | ⟨j, j1, j2, e1, e2, e3⟩
      · refine .inl ⟨by simp [firstAll, h, e1], fun j h1 h2 => ?_⟩
        rcases Nat.eq_or_lt_of_le h1 with e | e
        · subst e; exact h
        · exact e2 j e (by omega)
      · refine .inr ⟨j, by omega, by omega, by simp [firstAll, h, e1], e2, fun i h1 h2 => ?_⟩
        rcases Nat.eq_or_lt_of_le h1 with e | e
        · subst e; exact h
        · exact e3 i e h2
theorem first_at {l : List Wi} {j : Nat} (h1 : 1 ≤ j) (h2 : j ≤ 6) (he : countS l j = l.length) (hn : ∀ i : Nat, 1 ≤ i → i < j → countS l i ≠ l.length) : firstAll l 1 6 = j := by
  rcases first_cases l 6 1 with ⟨_, e⟩ | ⟨k, k1, k2, e1, e2, e3⟩
  · exact absurd he (e j h1 (by omega))
  · rcases Nat.lt_trichotomy j k with h | h | h
    · exact absurd he (e3 j h1 h)
    · subst h; exact e1
    · exact absurd e2 (hn k k1 h)
theorem first_no {l : List Wi} (h : ∀ i : Nat, 1 ≤ i → i < 7 → countS l i ≠ l.length) : firstAll l 1 6 = -1 := by
  rcases first_cases l 6 1 with ⟨e, _⟩ | ⟨k, k1, k2, e1, e2, e3⟩
  · exact e
  · exact absurd e2 (h k k1 (by omega))
theorem conns_cases {l : List Wi} (h : wishB l = true) : (connsFor l = -1 ∧ ∀ j : Nat, 1 ≤ j → j < 7 → countS l j ≠ l.length) ∨ ∃ j : Nat, 1 ≤ j ∧ j ≤ 6 ∧ connsFor l = j ∧ countS l j = l.length ∧ ∀ i : Nat, 1 ≤ i → i < j → countS l i < l.length := by
  unfold connsFor
  rw [if_pos h]
  rcases first_cases l 6 1 with ⟨e1, e2⟩ | ⟨k, k1, k2, e1, e2, e3⟩
  · exact .inl ⟨e1, fun j h1 h2 => e2 j h1 (by omega)⟩
  · refine .inr ⟨k, k1, by omega, e1, e2, fun i h1 h2 => ?_⟩
    have := e3 i h1 h2
    have := (count_bd (l := l) (m := i) (serveB_iff.2 ⟨h, by omega, by omega⟩)).2
    omega
theorem conns_no {l : List Wi} (h : wishB l = false) : connsFor l = -1 := by unfold connsFor; rw [if_neg (by simp [h])]
theorem conns_valid {l : List Wi} (h : 1 ≤ connsFor l) : wishB l = true := by
  rcases hw : wishB l with _ | _
  · rw [conns_no hw] at h; omega
  · rfl
theorem conns_nil : connsFor [] = 1 := by
  unfold connsFor
  rw [if_pos wish_nil]
  exact first_at (j := 1) (by omega) (by omega) (by
    have := count_bd (l := []) (m := ((1 : Nat) : Int)) (serveB_iff.2 ⟨wish_nil, by omega, by omega⟩)
    simp at this ⊢; omega) (fun i h1 h2 => by omega)
/-- As many connections as wishes are enough. -/
theorem zero_left {m : Nat} : ∀ {l : List Wi} (_ : ∀ x ∈ l, x.ok = true) {k : Nat} {f : List Int} (_ : InT f) (_ : k ≤ f.countP (fun t => decide (t = 0))) (_ : l.length ≤ k), ∀ t ∈ run f l, t ≠ -1
  | [], _, _, _, _, _, _ => by simp [run]
  | x :: l, hl, k, f, hf, hk, hlk => by
    have hx := Wi.ok_iff.1 (hl x (by simp))
    simp only [List.length_cons] at hlk
    have hpos : 0 < f.countP (fun t => decide (t = 0)) := by omega
    obtain ⟨z, hz, hz0⟩ := List.countP_pos_iff.1 hpos
    have hz0 := of_decide_eq_true hz0
    have hn : f ≠ [] := List.ne_nil_of_mem hz
    have hh : f.headD 0 = 0 := by
      have h1 := head_le hf.1 hz
      have h2 := hf.2 _ (head_mem hn)
      omega
    have hs : soon f x = x.a := by unfold soon; rw [hh]; omega
    have hok : okAt f x = true := by unfold okAt; rw [hs]; simp; omega
    have ht : servT f x = x.a := by unfold servT; rw [if_pos hok, hs]
    have hst : servF f x = ins (x.a + x.h) f.tail := by unfold servF; rw [if_pos hok, hs]
    intro t hm
    rcases List.mem_cons.1 (show t ∈ servT f x :: run (servF f x) l from hm) with e | hm
    · rw [e, ht]; omega
    · refine zero_left (m := m) (fun y hy => hl y (by simp [hy])) (k := k - 1) (stepF_in (hl x (by simp)) hf hn) ?_ (by omega) t hm
      rw [hst, (ins_perm _ _).countP_eq, List.countP_cons]
      cases f with
      | nil => exact absurd rfl hn
      | cons a f =>
        simp only [List.headD_cons] at hh
        subst hh
        simp only [List.countP_cons] at hk
        simp at hk ⊢
        omega
theorem few_all {l : List Wi} (h : wishB l = true) {m : Nat} (h1 : l.length ≤ m) (h0 : 1 ≤ m) (h6 : m ≤ 6) : countS l m = l.length := by
  have hs : serveB l m = true := serveB_iff.2 ⟨h, by omega, by omega⟩
  rw [count_yes hs]
  have := (served_all (a := serveL l m)).2 (by
    rw [serve_yes hs]
    refine zero_left (m := m) (wishB_iff.1 h).2.1 (k := m) (zeros_in _) ?_ h1
    simp [zeros, List.countP_replicate])
  rw [this, serve_all hs]
theorem conns_few {l : List Wi} (h : wishB l = true) (h1 : 1 ≤ l.length) (h6 : l.length ≤ 6) : 1 ≤ connsFor l ∧ connsFor l ≤ l.length := by
  have hf := few_all h (m := l.length) (Nat.le_refl _) h1 h6
  rcases conns_cases h with ⟨_, e⟩ | ⟨j, j1, j2, e1, e2, e3⟩
  · exact absurd hf (e _ h1 (by omega))
  · rw [e1]
    refine ⟨by omega, ?_⟩
    rcases Nat.lt_or_ge l.length j with hj | hj
    · have := e3 _ h1 hj; omega
    · omega
theorem count_take {l : List Wi} {m : Int} (h : serveB l m = true) (he : countS l m = l.length) (k : Nat) : countS (l.take k) m = (l.take k).length := by
  rw [count_yes (serveB_take h k), serve_take h]
  rw [count_yes h, ← serve_all h] at he
  have h1 := served_all.1 he
  have h2 := (served_all (a := (serveL l m).take k)).2 (fun t ht => h1 t (List.mem_of_mem_take ht))
  rw [h2, List.length_take, List.length_take, serve_all h]
theorem conns_take {l : List Wi} (h : 1 ≤ connsFor l) (k : Nat) : 1 ≤ connsFor (l.take k) ∧ connsFor (l.take k) ≤ connsFor l := by
  have hv := conns_valid h
  have hvt := wish_sub hv (List.take_sublist k l)
  rcases conns_cases hv with ⟨e, _⟩ | ⟨j, j1, j2, e1, e2, e3⟩
  · omega
  · have hc := count_take (serveB_iff.2 ⟨hv, by omega, by omega⟩) e2 k
    rcases conns_cases hvt with ⟨_, e⟩ | ⟨i, i1, i2, a1, a2, a3⟩
    · exact absurd hc (e j j1 (by omega))
    · rw [a1, e1]
      refine ⟨by omega, ?_⟩
      rcases Nat.lt_or_ge j i with hj | hj
      · have := a3 j j1 hj; omega
      · omega
end Go.Proofs.Ytolcnokmdohbaaa.Wis

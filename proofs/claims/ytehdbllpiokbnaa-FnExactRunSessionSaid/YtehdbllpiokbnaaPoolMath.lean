/-
  Plain facts on pools: which are valid, what asking, giving back and closing make of them. No condition; nothing of the program's text is used here.
-/

namespace Go.Proofs.Ytehdbllpiokbnaa.Pol

structure Ho where
  c : Int
  o : Int
deriving DecidableEq
structure Pl where
  mx : Int
  idle : List Int
  held : List Ho
  wait : List Int

/-- No list without a number twice is longer than one that has all its numbers. -/
theorem pigeon : ∀ {l m : List Int}, l.Nodup → (∀ x ∈ l, x ∈ m) → l.length ≤ m.length
  | [], m, _, _ => Nat.zero_le _
  | x :: l, m, h, hs => by
    obtain ⟨h1, h2⟩ := List.nodup_cons.1 h
    have hx := hs x (by simp)
    have ih := pigeon (m := m.erase x) h2 (fun y hy => by
      have hne : y ≠ x := fun e => h1 (e ▸ hy)
      exact (List.mem_erase_of_ne hne).2 (hs y (by simp [hy])))
    rw [List.length_erase_of_mem hx] at ih
    have : 0 < m.length := List.length_pos_of_mem hx
    simp only [List.length_cons]
    omega
def upTo (n : Int) : List Int := (List.range n.toNat).map fun (i : Nat) => (i : Int)
theorem upTo_len {n : Int} (h : 0 ≤ n) : ((upTo n).length : Int) = n := by simp [upTo]; omega
theorem upTo_mem {n x : Int} : x ∈ upTo n ↔ 0 ≤ x ∧ x < n := by
  unfold upTo
  rw [List.mem_map]
  constructor
  · rintro ⟨i, hi, rfl⟩; rw [List.mem_range] at hi; omega
  · intro h; exact ⟨x.toNat, by rw [List.mem_range]; omega, by omega⟩
theorem pigeon_up {l : List Int} {n : Int} (h0 : 0 ≤ n) (h : l.Nodup) (hs : ∀ x ∈ l, 0 ≤ x ∧ x < n) : (l.length : Int) ≤ n := by
  have := pigeon h (m := upTo n) (fun x hx => upTo_mem.2 (hs x hx))
  have := upTo_len h0
  omega
/-- As many different numbers as there are: all of them. -/
theorem pigeon_all {l : List Int} {n : Int} (h0 : 0 ≤ n) (h : l.Nodup) (hs : ∀ x ∈ l, 0 ≤ x ∧ x < n) (hl : (l.length : Int) = n) : ∀ x, 0 ≤ x → x < n → x ∈ l := by
  intro x hx0 hxn
  rcases Decidable.em (x ∈ l) with hm | hm
  · exact hm
  · have h2 : (x :: l).Nodup := List.nodup_cons.2 ⟨hm, h⟩
    have := pigeon_up h0 h2 (fun y hy => (List.mem_cons.1 hy).elim (fun e => by subst e; exact ⟨hx0, hxn⟩) (hs y))
    simp only [List.length_cons] at this
    omega

/-- The connections that are open: the idle ones, and then those that are held. -/
def opens (p : Pl) : List Int := p.idle ++ p.held.map Ho.c
def within (l : List Int) (lo hi : Int) : Bool := decide (∀ x ∈ l, lo ≤ x ∧ x ≤ hi)
theorem within_iff {l : List Int} {lo hi : Int} : within l lo hi = true ↔ ∀ x ∈ l, lo ≤ x ∧ x ≤ hi := by unfold within; simp
def Ok (p : Pl) : Prop := (1 ≤ p.mx ∧ p.mx ≤ 6) ∧ (opens p).Nodup ∧ (∀ x ∈ opens p, 0 ≤ x ∧ x ≤ p.mx - 1) ∧ (∀ x ∈ p.held.map Ho.o, 0 ≤ x ∧ x ≤ 4) ∧ p.wait.length ≤ 12 ∧ (∀ x ∈ p.wait, 0 ≤ x ∧ x ≤ 4) ∧ (p.wait.length = 0 ∨ (p.held.length : Int) = p.mx)
instance (p : Pl) : Decidable (Ok p) := inferInstanceAs (Decidable (_ ∧ _))
def okB (p : Pl) : Bool := decide (Ok p)
theorem okB_iff {p : Pl} : okB p = true ↔ Ok p := by unfold okB; simp
theorem Ok.len {p : Pl} (h : Ok p) : (p.idle.length : Int) + p.held.length ≤ p.mx := by
  obtain ⟨h1, h2, h3, _⟩ := h
  have := pigeon_up (by omega : 0 ≤ p.mx) h2 (fun x hx => by have := h3 x hx; omega)
  simp [opens] at this
  omega
theorem Ok.small {p : Pl} (h : Ok p) : p.idle.length ≤ 6 ∧ p.held.length ≤ 6 ∧ p.wait.length ≤ 12 := by
  have := h.len
  obtain ⟨h1, _, _, _, h5, _⟩ := h
  omega
/-- The least connection that is not open, -1 if all are. -/
def closed (p : Pl) : Int := match (upTo p.mx).find? (fun c => decide (c ∉ opens p)) with | some c => c | none => -1
theorem closed_at {p : Pl} {k : Nat} (hk : (k : Int) < p.mx) (h : ∀ j : Nat, j < k → (j : Int) ∈ opens p) (hx : (k : Int) ∉ opens p) : closed p = k := by
  unfold closed upTo
  rw [List.find?_map]
  have : (List.range p.mx.toNat).find? ((fun c => decide (c ∉ opens p)) ∘ fun (i : Nat) => (i : Int)) = some k := by
    rw [List.find?_range_eq_some]
    refine ⟨by simpa using hx, by rw [List.mem_range]; omega, fun j hj => by simpa using h j hj⟩
  rw [this]
  rfl
theorem closed_no {p : Pl} (h : ∀ j : Nat, (j : Int) < p.mx → (j : Int) ∈ opens p) : closed p = -1 := by
  unfold closed upTo
  rw [List.find?_map]
  have : (List.range p.mx.toNat).find? ((fun c => decide (c ∉ opens p)) ∘ fun (i : Nat) => (i : Int)) = none := by
    rw [List.find?_eq_none]
    intro j hj
    rw [List.mem_range] at hj
    have := h j (by omega)
    simpa using this
  rw [this]
  rfl
theorem closed_cases (p : Pl) : (closed p = -1 ∧ ∀ j : Nat, (j : Int) < p.mx → (j : Int) ∈ opens p) ∨ ∃ k : Nat, (k : Int) < p.mx ∧ closed p = k ∧ (k : Int) ∉ opens p := by
  rcases Classical.em (∀ j : Nat, (j : Int) < p.mx → (j : Int) ∈ opens p) with h | h
  · exact .inl ⟨closed_no h, h⟩
  · right
    have hex : ∃ j : Nat, (j : Int) < p.mx ∧ (j : Int) ∉ opens p := by
      refine Classical.byContradiction fun hc => h fun j hj => ?_
      exact Classical.byContradiction fun hn => hc ⟨j, hj, hn⟩
    obtain ⟨j, hj1, hj2⟩ := hex
    have key : ∀ n : Nat, (∀ i : Nat, i < n → (i : Int) ∈ opens p) ∨ ∃ k : Nat, k < n ∧ (k : Int) ∉ opens p ∧ ∀ i : Nat, i < k → (i : Int) ∈ opens p := by
      intro n
      induction n with
      | zero => exact .inl (by omega)
      | succ n ih =>
        rcases ih with ih | ⟨k, k1, k2, k3⟩
        · by_cases hn : (n : Int) ∈ opens p
          · left
            intro i hi
            rcases Nat.lt_or_ge i n with e | e
            · exact ih i e
            · have : i = n := by omega
              subst this; exact hn
          · exact .inr ⟨n, by omega, hn, ih⟩
        · exact .inr ⟨k, by omega, k2, k3⟩
    rcases key (j + 1) with hh | ⟨k, k1, k2, k3⟩
    · exact absurd (hh j (by omega)) hj2
    · exact ⟨k, by omega, closed_at (by omega) k3 k2, k2⟩
/-- In a valid pool all connections are held exactly if none is idle and none is closed. -/
theorem full_iff {p : Pl} (h : Ok p) : (p.held.length : Int) = p.mx ↔ p.idle = [] ∧ closed p = -1 := by
  have hl := h.len
  obtain ⟨h1, h2, h3, _⟩ := h
  constructor
  · intro e
    have hi : p.idle.length = 0 := by omega
    have hi' : p.idle = [] := List.eq_nil_of_length_eq_zero hi
    refine ⟨hi', closed_no fun j hj => ?_⟩
    refine pigeon_all (by omega : 0 ≤ p.mx) h2 (fun x hx => by have := h3 x hx; omega) (by simp [opens, hi']; omega) _ (by omega) hj
  · rintro ⟨e1, e2⟩
    rcases closed_cases p with ⟨_, ha⟩ | ⟨k, _, hk, _⟩
    · have := pigeon (l := upTo p.mx) (m := opens p) (by
        unfold upTo List.Nodup
        rw [List.pairwise_map]
        exact List.nodup_range.imp (fun hab e => hab (by omega))) (fun x hx => by
          obtain ⟨a, b⟩ := upTo_mem.1 hx
          have := ha x.toNat (by omega)
          rwa [show ((x.toNat : Nat) : Int) = x by omega] at this)
      have hu := upTo_len (n := p.mx) (by omega)
      simp [opens, e1] at this
      omega
    · omega

/-! Asking for a connection. -/
def Pl.zero : Pl := ⟨0, [], [], []⟩
def fullB (p : Pl) : Bool := decide ((p.held.length : Int) = p.mx)
def acqB (p : Pl) (o : Int) : Bool := okB p && (decide (0 ≤ o ∧ o < 5) && !(fullB p && decide (p.wait.length = 12)))
/-- The connection that is given where not all are held. -/
def pickC (p : Pl) : Int := match p.idle.getLast? with | some c => c | none => closed p
def acqC (p : Pl) : Int := if fullB p = true then -1 else pickC p
def acqP (p : Pl) (o : Int) : Pl := if fullB p = true then ⟨p.mx, p.idle, p.held, p.wait ++ [o]⟩ else ⟨p.mx, p.idle.dropLast, p.held ++ [⟨pickC p, o⟩], p.wait⟩
def acqR (p : Pl) (o : Int) : Pl := if acqB p o = true then acqP p o else Pl.zero
def acqN (p : Pl) (o : Int) : Int := if acqB p o = true then acqC p else -1
theorem opens_mem {p : Pl} {c : Int} : c ∈ opens p ↔ c ∈ p.idle ∨ c ∈ p.held.map Ho.c := by unfold opens; rw [List.mem_append]
theorem pick_ok {p : Pl} (h : Ok p) (hf : fullB p = false) : 0 ≤ pickC p ∧ pickC p ≤ p.mx - 1 ∧ pickC p ∉ p.held.map Ho.c ∧ pickC p ∉ p.idle.dropLast := by
  have hne : ¬ (p.held.length : Int) = p.mx := by unfold fullB at hf; simpa using hf
  have hfull := full_iff h
  obtain ⟨h1, h2, h3, _⟩ := h
  rcases List.eq_nil_or_concat p.idle with e | ⟨l, c, e⟩
  · have hp : pickC p = closed p := by unfold pickC; rw [e]; rfl
    rw [hp, e]
    rcases closed_cases p with ⟨a, _⟩ | ⟨k, k1, k2, k3⟩
    · exact absurd (hfull.2 ⟨e, a⟩) hne
    · rw [k2]
      exact ⟨by omega, by omega, fun hm => k3 (opens_mem.2 (.inr hm)), by simp⟩
  · rw [List.concat_eq_append] at e
    have hp : pickC p = c := by unfold pickC; rw [e]; simp
    rw [hp, e, List.dropLast_concat]
    have hm : c ∈ opens p := opens_mem.2 (.inl (by rw [e]; simp))
    have hb := h3 c hm
    unfold opens at h2
    rw [e, List.append_assoc] at h2
    have hd := List.nodup_append.1 h2
    refine ⟨hb.1, hb.2, fun hh => ?_, fun hh => ?_⟩
    · have h4 := List.nodup_append.1 hd.2.1
      exact h4.2.2 c (by simp) c hh rfl
    · exact hd.2.2 c hh c (by simp) rfl
theorem acq_ok {p : Pl} {o : Int} (h : Ok p) (h0 : 0 ≤ o) (h5 : o < 5) : Ok (acqP p o) ↔ ¬ (fullB p = true ∧ p.wait.length = 12) := by
  have h' := h
  obtain ⟨h1, h2, h3, h4, h6, h7, h8⟩ := h
  unfold acqP
  by_cases hf : fullB p = true
  · rw [if_pos hf]
    have hl : (p.held.length : Int) = p.mx := by unfold fullB at hf; simpa using hf
    constructor
    · rintro ⟨_, _, _, _, a, _⟩ ⟨_, b⟩
      simp at a; omega
    · intro hh
      have : ¬ p.wait.length = 12 := fun e => hh ⟨hf, e⟩
      exact ⟨h1, h2, h3, h4, by simp; omega, fun x hx => (List.mem_append.1 hx).elim (h7 x) (fun e => by rw [List.mem_singleton.1 e]; omega), .inr hl⟩
  · have hf' : fullB p = false := by simpa using hf
    rw [if_neg hf]
    have hne : ¬ (p.held.length : Int) = p.mx := by unfold fullB at hf'; simpa using hf'
    obtain ⟨p1, p2, p3, p4⟩ := pick_ok h' hf'
    constructor
    · rintro _ ⟨a, _⟩; exact hf a
    · intro _
      have hw : p.wait.length = 0 := h8.resolve_right hne
      have hnd : (p.idle.dropLast ++ (p.held ++ [(⟨pickC p, o⟩ : Ho)]).map Ho.c).Nodup := by
        rw [List.map_append, ← List.append_assoc]
        refine List.nodup_append.2 ⟨?_, by simp, ?_⟩
        · exact h2.sublist (List.Sublist.append (List.dropLast_sublist _) (List.Sublist.refl _))
        · intro a ha b hb
          simp only [List.map_cons, List.map_nil, List.mem_singleton] at hb
          subst hb
          rintro rfl
          exact (List.mem_append.1 ha).elim p4 p3
      refine ⟨h1, hnd, ?_, ?_, h6, h7, .inl hw⟩
      · intro x hx
        rcases opens_mem.1 hx with hx | hx
        · exact h3 x (opens_mem.2 (.inl (List.dropLast_subset _ hx)))
        · simp only [List.map_append, List.map_cons, List.map_nil, List.mem_append, List.mem_singleton] at hx
          rcases hx with hx | hx
          · exact h3 x (opens_mem.2 (.inr hx))
          · subst hx; exact ⟨p1, p2⟩
      · intro x hx
        simp only [List.map_append, List.map_cons, List.map_nil, List.mem_append, List.mem_singleton] at hx
        rcases hx with hx | hx
        · exact h4 x hx
        · subst hx; omega

/-! Giving a connection back. -/
def relB (p : Pl) (c : Int) : Bool := okB p && decide (c ∈ p.held.map Ho.c)
def without (l : List Ho) (c : Int) : List Ho := l.filter fun h => decide (h.c ≠ c)
def relP (p : Pl) (c : Int) : Pl := match p.wait with
  | [] => ⟨p.mx, p.idle ++ [c], without p.held c, []⟩
  | o :: w => ⟨p.mx, p.idle, without p.held c ++ [⟨c, o⟩], w⟩
def relW (p : Pl) : Int := match p.wait with | [] => -1 | o :: _ => o
def relR (p : Pl) (c : Int) : Pl := if relB p c = true then relP p c else Pl.zero
def relN (p : Pl) (c : Int) : Int := if relB p c = true then relW p else -1
theorem without_map {l : List Ho} {c x : Int} : x ∈ (without l c).map Ho.c ↔ x ∈ l.map Ho.c ∧ x ≠ c := by
  unfold without
  simp only [List.mem_map, List.mem_filter, decide_eq_true_eq]
  constructor
  · rintro ⟨h, ⟨h1, h2⟩, rfl⟩; exact ⟨⟨h, h1, rfl⟩, h2⟩
  · rintro ⟨⟨h, h1, rfl⟩, h2⟩; exact ⟨h, ⟨h1, h2⟩, rfl⟩
/-- Where the connections are different, without one of them there is one less. -/
theorem without_at {l : List Ho} (hn : (l.map Ho.c).Nodup) {k : Nat} (hk : k < l.length) : without l l[k].c = l.take k ++ l.drop (k + 1) := by
  induction l generalizing k with
  | nil => simp at hk
  | cons h l ih =>
    rw [List.map_cons, List.nodup_cons] at hn
    cases k with
    | zero =>
      simp only [List.getElem_cons_zero, List.take_zero, List.nil_append, List.drop_succ_cons, List.drop_zero]
      unfold without
      rw [List.filter_cons, if_neg (by simp)]
      exact List.filter_eq_self.2 fun x hx => by simp only [decide_eq_true_eq]; exact fun e => hn.1 (e ▸ List.mem_map_of_mem hx)
    | succ k =>
      simp only [List.length_cons] at hk
      have hk' : k < l.length := by omega
      have hne : h.c ≠ l[k].c := fun e => hn.1 (e ▸ List.mem_map_of_mem (List.getElem_mem hk'))
      have := ih hn.2 hk'
      simp only [List.getElem_cons_succ, List.take_succ_cons, List.drop_succ_cons, List.cons_append]
      unfold without at this ⊢
      rw [List.filter_cons, if_pos (by simpa using hne), this]
theorem without_len {l : List Ho} (hn : (l.map Ho.c).Nodup) {c : Int} (hc : c ∈ l.map Ho.c) : (without l c).length + 1 = l.length := by
  obtain ⟨h, hm, rfl⟩ := List.mem_map.1 hc
  obtain ⟨k, hk, e⟩ := List.mem_iff_getElem.1 hm
  rw [← e, without_at hn hk]
  simp
  omega
theorem rel_ok {p : Pl} {c : Int} (h : Ok p) (hc : c ∈ p.held.map Ho.c) : Ok (relP p c) := by
  have h' := h
  obtain ⟨h1, h2, h3, h4, h6, h7, h8⟩ := h
  have hn : (p.held.map Ho.c).Nodup := h2.sublist (List.sublist_append_right _ _)
  have hd := List.nodup_append.1 h2
  have hci : c ∉ p.idle := fun hh => hd.2.2 c hh c hc rfl
  have hl := without_len hn hc
  have hwc : c ∉ (without p.held c).map Ho.c := fun hh => (without_map.1 hh).2 rfl
  have hsub : ((without p.held c).map Ho.c).Sublist (p.held.map Ho.c) := List.Sublist.map _ (List.filter_sublist)
  have hos : ∀ x ∈ (without p.held c).map Ho.o, 0 ≤ x ∧ x ≤ 4 := fun x hx => h4 x ((List.Sublist.map Ho.o (List.filter_sublist)).subset hx)
  unfold relP
  split
  · rename_i hw
    refine ⟨h1, ?_, ?_, hos, by simp, by simp, .inl rfl⟩
    · unfold opens
      simp only [List.append_assoc]
      refine List.nodup_append.2 ⟨hd.1, List.nodup_append.2 ⟨by simp, hn.sublist hsub, ?_⟩, ?_⟩
      · intro a ha b hb
        rw [List.mem_singleton] at ha
        subst ha
        rintro rfl
        exact hwc hb
      · intro a ha b hb
        rintro rfl
        rcases List.mem_append.1 hb with hb | hb
        · rw [List.mem_singleton] at hb; exact hci (hb ▸ ha)
        · exact hd.2.2 a ha a (hsub.subset hb) rfl
    · intro x hx
      unfold opens at hx
      simp only [List.mem_append, List.mem_singleton] at hx
      rcases hx with (hx | hx) | hx
      · exact h3 x (opens_mem.2 (.inl hx))
      · subst hx; exact h3 x (opens_mem.2 (.inr hc))
      · exact h3 x (opens_mem.2 (.inr (hsub.subset hx)))
  · rename_i o w hw
    have hfull := h8.resolve_left (by rw [hw]; simp)
    rw [hw] at h6 h7
    refine ⟨h1, ?_, ?_, ?_, by simp at h6 ⊢; omega, fun x hx => h7 x (by simp [hx]), .inr (by simp; omega)⟩
    · unfold opens
      simp only [List.map_append, List.map_cons, List.map_nil]
      refine List.nodup_append.2 ⟨hd.1, List.nodup_append.2 ⟨hn.sublist hsub, by simp, ?_⟩, ?_⟩
      · intro a ha b hb
        rw [List.mem_singleton] at hb
        subst hb
        rintro rfl
        exact hwc ha
      · intro a ha b hb
        rintro rfl
        rcases List.mem_append.1 hb with hb | hb
        · exact hd.2.2 a ha a (hsub.subset hb) rfl
        · rw [List.mem_singleton] at hb; exact hci (hb ▸ ha)
    · intro x hx
      unfold opens at hx
      simp only [List.map_append, List.map_cons, List.map_nil, List.mem_append, List.mem_singleton] at hx
      rcases hx with hx | hx | hx
      · exact h3 x (opens_mem.2 (.inl hx))
      · exact h3 x (opens_mem.2 (.inr (hsub.subset hx)))
      · subst hx; exact h3 x (opens_mem.2 (.inr hc))
    · intro x hx
      simp only [List.map_append, List.map_cons, List.map_nil, List.mem_append, List.mem_singleton] at hx
      rcases hx with hx | hx
      · exact hos x hx
      · subst hx; exact h7 x (by simp)

/-! Closing, and who holds what. -/
def clsB (p : Pl) (m : Int) : Bool := okB p && decide (0 ≤ m)
def clsN (p : Pl) (m : Int) : Int := if clsB p m = true then min m p.idle.length else -1
def clsR (p : Pl) (m : Int) : Pl := if clsB p m = true then ⟨p.mx, p.idle.drop (min m p.idle.length).toNat, p.held, p.wait⟩ else Pl.zero
def heldBy (p : Pl) (o : Int) : List Int := if okB p = true then (p.held.filter fun h => decide (h.o = o)).map Ho.c else []
theorem heldBy_len (p : Pl) (o : Int) : (heldBy p o).length ≤ 6 := by
  unfold heldBy
  split
  · rename_i h
    have := (okB_iff.1 h).small
    rw [List.length_map]
    have := List.length_filter_le (fun h : Ho => decide (h.o = o)) p.held
    omega
  · simp
end Go.Proofs.Ytehdbllpiokbnaa.Pol

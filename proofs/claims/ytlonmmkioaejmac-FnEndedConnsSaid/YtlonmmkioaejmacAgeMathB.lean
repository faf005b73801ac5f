/-
  More plain facts on ages: what the drawn laws ask. No condition; nothing of the program's text is used here.
-/
import Derived.Test.YtlonmmkioaejmacAgeMath
namespace Go.Proofs.Ytlonmmkioaejmac.Age

theorem life_cases (c life : Int) : (lifeOf c life = -1) ∨ (0 ≤ c ∧ c < 6 ∧ 1 ≤ life ∧ life ≤ 1000 ∧ lifeOf c life = lifeV c life) := by
  unfold lifeOf
  split
  · rename_i h
    simp only [Bool.and_eq_true, decide_eq_true_eq, spanB_iff] at h
    exact .inr ⟨h.1.1, h.1.2, h.2.1, h.2.2, rfl⟩
  · exact .inl rfl
theorem life_nn {c life : Int} (h : 0 ≤ lifeOf c life) : 1 ≤ lifeOf c life ∧ lifeOf c life ≤ life ∧ 4 * life ≤ 5 * lifeOf c life ∧ 1 ≤ life ∧ life ≤ 1000 ∧ lifeOf 0 life = life ∧ (life < 1000 → lifeOf c (life + 1) = lifeOf c life ∨ lifeOf c (life + 1) = lifeOf c life + 1) := by
  rcases life_cases c life with e | ⟨h0, h6, h1, h2, e⟩
  · omega
  · have hb := lifeV_bounds (c := c) h1 h2
    have hz : lifeOf 0 life = life := by
      rcases life_cases 0 life with e2 | ⟨_, _, _, _, e2⟩
      · unfold lifeOf at e2
        have : spanB life = true := spanB_iff.2 ⟨h1, h2⟩
        rw [this] at e2
        simp at e2
        rw [lifeV_zero] at e2
        omega
      · rw [e2, lifeV_zero]
    refine ⟨by omega, by omega, by omega, h1, h2, hz, fun hl => ?_⟩
    have e3 : lifeOf c (life + 1) = lifeV c (life + 1) := by
      unfold lifeOf
      have : spanB (life + 1) = true := spanB_iff.2 ⟨by omega, by omega⟩
      rw [this, decide_eq_true ⟨h0, h6⟩]
      rfl
    rw [e3, e]
    exact lifeV_more h1 h2
/-- Ages as if never used. -/
def Ag.fresh (x : Ag) : Ag := ⟨x.b, x.b⟩
theorem fresh_ages {l : List Ag} (h : agesB l = true) : agesB (l.map Ag.fresh) = true := by
  obtain ⟨h1, h2⟩ := agesB_iff.1 h
  refine agesB_iff.2 ⟨by simpa using h1, fun y hy => ?_⟩
  obtain ⟨x, hx, rfl⟩ := List.mem_map.1 hy
  have := Ag.ok_iff.1 (h2 x hx)
  exact Ag.ok_iff.2 (by simp only [Ag.fresh]; omega)
theorem ages_nil : agesB [] = true := agesB_iff.2 ⟨by simp, by simp⟩
theorem next_cases (l : List Ag) (life rest : Int) : next l life rest = -1 ∨ (agesB l = true ∧ spanB life = true ∧ spanB rest = true ∧ 0 < l.length ∧ next l life rest = nextTo l life rest l.length ∧ 1 ≤ next l life rest ∧ next l life rest ≤ 2000) := by
  unfold next
  split
  · rename_i h
    simp only [Bool.and_eq_true] at h
    rcases nextTo_bounds h.1 h.2.1 h.2.2 l.length (Nat.le_refl _) with ⟨h1, _⟩ | ⟨h1, h2, h3⟩
    · exact .inl h1
    · exact .inr ⟨h.1, h.2.1, h.2.2, h3, rfl, h1, h2⟩
  · exact .inl rfl
theorem ended_at {l : List Ag} {now life rest : Int} (h : endArgs l now life rest = true) {c : Int} : c ∈ ended l now life rest ↔ ∃ k : Nat, k < l.length ∧ c = k ∧ endAt l k life rest ≤ now := by
  unfold ended
  rw [if_pos h, endedTo_mem]
theorem end_args {l : List Ag} {now life rest : Int} : endArgs l now life rest = true ↔ agesB l = true ∧ (0 ≤ now ∧ now ≤ 1000) ∧ spanB life = true ∧ spanB rest = true := by
  unfold endArgs; simp only [Bool.and_eq_true, timeB_iff]
theorem next_ends {l : List Ag} {life rest : Int} (h1 : 1 ≤ next l life rest) (h2 : next l life rest ≤ 1000) : ended l (next l life rest - 1) life rest = [] ∧ 0 < (ended l (next l life rest) life rest).length := by
  rcases next_cases l life rest with e | ⟨a1, a2, a3, a4, a5, a6, a7⟩
  · omega
  · have g1 : endArgs l (next l life rest - 1) life rest = true := end_args.2 ⟨a1, by omega, a2, a3⟩
    have g2 : endArgs l (next l life rest) life rest = true := end_args.2 ⟨a1, by omega, a2, a3⟩
    constructor
    · apply List.eq_nil_iff_forall_not_mem.2
      intro c hc
      obtain ⟨k, k1, _, k2⟩ := (ended_at g1).1 hc
      have := nextTo_le a1 a2 a3 l.length (Nat.le_refl _) k k1
      omega
    · obtain ⟨k, k1, k2⟩ := nextTo_is (l := l) (life := life) (rest := rest) l.length a4
      exact List.length_pos_of_mem ((ended_at g2).2 ⟨k, k1, rfl, by omega⟩)
theorem lifeV_mono {c life : Int} (h1 : 1 ≤ life) (h2 : life < 1000) : lifeV c life ≤ lifeV c (life + 1) := by
  rcases lifeV_more (c := c) h1 (by omega) with h | h <;> omega
theorem endAt_mono {l : List Ag} {k : Nat} (hk : k < l.length) {life rest life' rest' : Int} (h1 : spanB life = true) (h2 : life' = life ∨ (life' = life + 1 ∧ life < 1000)) (h3 : rest ≤ rest') : endAt l k life rest ≤ endAt l k life' rest' := by
  rw [endAt_eq hk, endAt_eq hk]
  have h1 := spanB_iff.1 h1
  unfold endV
  rcases h2 with e | ⟨e, h⟩
  · subst e; omega
  · subst e
    have := lifeV_mono (c := (k : Int)) h1.1 h
    omega
theorem next_mono {l : List Ag} {life rest life' rest' : Int} (h0 : 0 ≤ next l life rest) (h2 : life' = life ∨ (life' = life + 1 ∧ life < 1000)) (h3 : rest' = rest ∨ (rest' = rest + 1 ∧ rest < 1000)) : next l life rest ≤ next l life' rest' := by
  rcases next_cases l life rest with e | ⟨a1, a2, a3, a4, a5, a6, a7⟩
  · omega
  · have s1 := spanB_iff.1 a2
    have s2 := spanB_iff.1 a3
    have b2 : spanB life' = true := spanB_iff.2 (by omega)
    have b3 : spanB rest' = true := spanB_iff.2 (by omega)
    have e : next l life' rest' = nextTo l life' rest' l.length := by unfold next; rw [a1, b2, b3]; rfl
    rw [e]
    obtain ⟨k, k1, k2⟩ := nextTo_is (l := l) (life := life') (rest := rest') l.length a4
    rw [k2, a5]
    have := nextTo_le a1 a2 a3 l.length (Nat.le_refl _) k k1
    have := endAt_mono k1 (rest := rest) (rest' := rest') a2 h2 (by omega)
    omega
theorem next_one {b life rest : Int} (h1 : 0 ≤ b) (h2 : b ≤ 1000) (h3 : spanB life = true) (h4 : spanB rest = true) : next [⟨b, b⟩] life rest = b + min life rest := by
  have ha : agesB [⟨b, b⟩] = true := agesB_iff.2 ⟨by simp, by simp only [List.mem_singleton]; rintro x rfl; exact Ag.ok_iff.2 ⟨h1, Int.le_refl _, h2⟩⟩
  have e : next [⟨b, b⟩] life rest = nextTo [⟨b, b⟩] life rest 1 := by unfold next; rw [ha, h3, h4]; rfl
  rw [e]
  have : nextTo [⟨b, b⟩] life rest 1 = endAt [⟨b, b⟩] 0 life rest := by unfold nextTo; rw [if_pos (.inl rfl)]
  rw [this, endAt_eq (by simp)]
  unfold endV
  simp only [List.getElem_cons_zero]
  rw [show ((0 : Nat) : Int) = 0 from rfl, lifeV_zero]
  omega
theorem next_first {l : List Ag} {life rest : Int} (h : 0 ≤ next l life rest) (h0 : 0 < l.length) : next l life rest ≤ l[0].b + life ∧ 0 ≤ l[0].b ∧ l[0].b ≤ 1000 ∧ spanB life = true ∧ spanB rest = true := by
  rcases next_cases l life rest with e | ⟨a1, a2, a3, a4, a5, a6, a7⟩
  · omega
  · have h1 := nextTo_le a1 a2 a3 l.length (Nat.le_refl _) 0 h0
    rw [endAt_eq h0] at h1
    unfold endV at h1
    rw [show ((0 : Nat) : Int) = 0 from rfl, lifeV_zero] at h1
    have h2 := ages_at a1 h0
    exact ⟨by omega, by omega, by omega, a2, a3⟩
theorem next_iff {l : List Ag} {life rest : Int} (h1 : agesB l = true) (h2 : spanB life = true) (h3 : spanB rest = true) : next l life rest = -1 ↔ l.length = 0 := by
  have e : next l life rest = nextTo l life rest l.length := by unfold next; rw [h1, h2, h3]; rfl
  rw [e]
  rcases nextTo_bounds h1 h2 h3 l.length (Nat.le_refl _) with ⟨a, b⟩ | ⟨a, b, c⟩
  · exact ⟨fun _ => b, fun _ => a⟩
  · exact ⟨fun h => by omega, fun h => by omega⟩
theorem next_zero (life rest : Int) : 0 ≤ next [⟨0, 0⟩] life rest → spanB life = true ∧ spanB rest = true := by
  intro h
  rcases next_cases [⟨0, 0⟩] life rest with e | ⟨_, a2, a3, _⟩
  · omega
  · exact ⟨a2, a3⟩
/-! Ended connections at later times, and with longer lives. -/
theorem ended_later {l : List Ag} {now life rest : Int} (h : now + 5 ≤ 1000) {c : Int} (hc : c ∈ ended l now life rest) : c ∈ ended l (now + 5) life rest := by
  rcases ha : endArgs l now life rest with _ | _
  · unfold ended at hc; rw [ha] at hc; simp at hc
  · obtain ⟨a1, a2, a3, a4⟩ := end_args.1 ha
    obtain ⟨k, k1, k2, k3⟩ := (ended_at ha).1 hc
    exact (ended_at (end_args.2 ⟨a1, by omega, a3, a4⟩)).2 ⟨k, k1, k2, by omega⟩
theorem ended_longer {l : List Ag} {now life rest life' rest' : Int} (h1 : 1 ≤ life) (h1' : life ≤ 1000) (h2 : 1 ≤ rest) (h2' : rest ≤ 1000) (h3 : life' = life ∨ (life' = life + 1 ∧ life < 1000)) (h4 : rest ≤ rest') {c : Int} (hc : c ∈ ended l now life' rest') : c ∈ ended l now life rest := by
  rcases ha : endArgs l now life' rest' with _ | _
  · unfold ended at hc; rw [ha] at hc; simp at hc
  · obtain ⟨a1, a2, a3, a4⟩ := end_args.1 ha
    obtain ⟨k, k1, k2, k3⟩ := (ended_at ha).1 hc
    have hl : spanB life = true := spanB_iff.2 ⟨h1, h1'⟩
    refine (ended_at (end_args.2 ⟨a1, a2, hl, spanB_iff.2 ⟨h2, h2'⟩⟩)).2 ⟨k, k1, k2, ?_⟩
    have := endAt_mono k1 (rest := rest) (rest' := rest') hl h3 h4
    omega
theorem ended_none {l : List Ag} {now life rest : Int} (h : life < 1 ∨ rest < 1) : ended l now life rest = [] := by
  unfold ended
  rw [if_neg]
  intro ha
  obtain ⟨_, _, a3, a4⟩ := end_args.1 ha
  have := spanB_iff.1 a3
  have := spanB_iff.1 a4
  omega
theorem ended_pos {l : List Ag} {now life rest : Int} (h : 0 < (ended l now life rest).length) : endArgs l now life rest = true := by
  rcases ha : endArgs l now life rest with _ | _
  · unfold ended at h; rw [ha] at h; simp at h
  · rfl
theorem ended_le {l : List Ag} {now life rest : Int} : (ended l now life rest).length ≤ l.length := by
  unfold ended
  split
  · exact endedTo_len _ _ _ _ _
  · simp
theorem ended_is {l : List Ag} {now life rest : Int} (h : endArgs l now life rest = true) {k : Nat} (hk : k < l.length) : ((k : Int) ∈ ended l now life rest) ↔ (now - l[k].b ≥ lifeOf k life ∨ now - l[k].u ≥ rest) := by
  rw [ended_at h]
  obtain ⟨a1, a2, a3, a4⟩ := end_args.1 h
  have h6 := (agesB_iff.1 a1).1
  have e : lifeOf (k : Int) life = lifeV k life := by unfold lifeOf; rw [a3, decide_eq_true (by omega)]; rfl
  rw [e]
  constructor
  · rintro ⟨j, j1, j2, j3⟩
    have : j = k := by omega
    subst this
    rw [endAt_eq hk] at j3
    exact endV_le.1 j3
  · intro hh
    exact ⟨k, hk, rfl, by rw [endAt_eq hk]; exact endV_le.2 hh⟩
end Go.Proofs.Ytlonmmkioaejmac.Age

/-
  More plain facts on lines of tickets: how the model takes out those who have left. No condition; nothing of the program's text is used here.
-/
import Derived.Test.YtcfijijpcafncacLineMathB
namespace Go.Proofs.Ytcfijijpcafncac.Line
/-- Those below m that have left or are t. -/
def fil (s m : Int) (g : List Int) (t : Int) : List Int := (upto s m).filter fun x => decide (x = t ∨ x ∈ g)
theorem fil_none {s m t : Int} {g : List Int} (h : m ≤ s) : fil s m g t = [] := by unfold fil; rw [upto_none h]; rfl
theorem fil_succ {s m t : Int} {g : List Int} (h : s ≤ m) : fil s (m + 1) g t = fil s m g t ++ if m = t ∨ m ∈ g then [m] else [] := by
  unfold fil
  rw [upto_succ h, List.filter_append]
  congr 1
  by_cases c : m = t ∨ m ∈ g <;> simp [c]
theorem fil_len {s m t : Int} {g : List Int} (h : m ≤ s + 12) : (fil s m g t).length ≤ 12 := by
  have := ((asc_upto s m).filter fun x => decide (x = t ∨ x ∈ g)).length_le (lo := s) (hi := m) (fun x hx => by have := mem_upto.1 (List.mem_filter.1 hx).1; omega)
  unfold fil
  omega
theorem fil_ins {s n t : Int} {g : List Int} (h : leaveB s n g t = true) : fil s n g t = ins g t := by
  obtain ⟨h0, h1, h2, _⟩ := leave_parts h
  obtain ⟨_, _, _, _, _, a6, a7⟩ := okB_iff.1 h0
  refine Asc.ext ((asc_upto s n).filter _) (asc_ins a6) fun x => ?_
  unfold fil
  rw [List.mem_filter, mem_upto, mem_ins, decide_eq_true_eq]
  constructor
  · rintro ⟨_, c | c⟩
    · exact .inr c
    · exact .inl c
  · rintro (c | c)
    · exact ⟨a7 x c, .inr c⟩
    · exact ⟨⟨by omega, by omega⟩, .inl c⟩
/-- Where the model stands while it takes out those at the front. -/
def Mid (s n : Int) (g : List Int) (t S : Int) : Prop := s ≤ S ∧ S ≤ n ∧ front (ins g t) n S = leaveS s n g t
theorem Mid.start {s n t : Int} {g : List Int} (h : leaveB s n g t = true) : Mid s n g t s := ⟨Int.le_refl _, by have := leave_parts h; omega, rfl⟩
theorem mid_all {s n t : Int} {g : List Int} (h : leaveB s n g t = true) : from_ (ins g t) s = ins g t := by
  obtain ⟨h0, h1, h2, _⟩ := leave_parts h
  obtain ⟨_, _, _, _, _, a6, a7⟩ := okB_iff.1 h0
  exact from_all fun x hx => by
    rcases mem_ins.1 hx with c | c
    · exact (a7 x c).1
    · omega
theorem ins_lt {s n t x : Int} {g : List Int} (h : leaveB s n g t = true) (hx : x ∈ ins g t) : x < n := by
  obtain ⟨h0, h1, h2, _⟩ := leave_parts h
  obtain ⟨_, _, _, _, _, a6, a7⟩ := okB_iff.1 h0
  rcases mem_ins.1 hx with c | c
  · exact (a7 x c).2
  · omega
theorem asc_ins_from {s n t S : Int} {g : List Int} (h : leaveB s n g t = true) : Asc (from_ (ins g t) S) := (asc_ins (okB_iff.1 (leave_parts h).1).2.2.2.2.2.1).filter _
theorem mid_len {s n t S : Int} {g : List Int} (h : leaveB s n g t = true) : (from_ (ins g t) S).length ≤ 12 := by
  obtain ⟨h0, h1, h2, _⟩ := leave_parts h
  obtain ⟨_, _, _, _, _, a6, a7⟩ := okB_iff.1 h0
  have := (asc_ins_from (S := S) h).length_le (lo := s) (hi := n) (fun x hx => by
    have hm := (mem_from.1 hx).1
    refine ⟨?_, ins_lt h hm⟩
    rcases mem_ins.1 hm with c | c
    · exact (a7 x c).1
    · omega)
  omega
/-- The front of the list is Served: it goes on. -/
theorem mid_step {s n t S : Int} {g l : List Int} (h : leaveB s n g t = true) (hm : Mid s n g t S) (e : from_ (ins g t) S = S :: l) : Mid s n g t (S + 1) ∧ from_ (ins g t) (S + 1) = l := by
  obtain ⟨m1, m2, m3⟩ := hm
  have hS : S ∈ ins g t := (mem_from.1 (show S ∈ from_ (ins g t) S by rw [e]; simp)).1
  have hSn := ins_lt h hS
  have ha := asc_ins_from (S := S) h
  rw [e] at ha
  refine ⟨⟨by omega, by omega, ?_⟩, ?_⟩
  · rw [← m3]; exact front_step hSn hS
  · refine Asc.ext (asc_ins_from h) (asc_cons.1 ha).2 fun x => ?_
    have hx : x ∈ from_ (ins g t) S ↔ x = S ∨ x ∈ l := by rw [e]; simp
    rw [mem_from] at hx ⊢
    constructor
    · rintro ⟨a, b⟩
      rcases hx.1 ⟨a, by omega⟩ with c | c
      · omega
      · exact c
    · intro c
      have := (asc_cons.1 ha).1 x c
      have := hx.2 (.inr c)
      exact ⟨this.1, by omega⟩
/-- The front of the list is another one, or there is none: it stays. -/
theorem mid_stop {s n t S : Int} {g : List Int} (h : leaveB s n g t = true) (hm : Mid s n g t S) (e : ∀ l, from_ (ins g t) S ≠ S :: l) : leaveS s n g t = S ∧ leaveG s n g t = from_ (ins g t) S := by
  obtain ⟨m1, m2, m3⟩ := hm
  have hS : S ∉ ins g t := fun hS => by
    have ha := asc_ins_from (S := S) h
    have hm : S ∈ from_ (ins g t) S := mem_from.2 ⟨hS, Int.le_refl _⟩
    cases hc : from_ (ins g t) S with
    | nil => rw [hc] at hm; simp at hm
    | cons a l =>
      rw [hc] at hm ha
      rcases List.mem_cons.1 hm with c | c
      · subst c; exact e l hc
      · have h1 := (asc_cons.1 ha).1 S c
        have h2 := (mem_from.1 (show a ∈ from_ (ins g t) S by rw [hc]; simp)).2
        omega
  have e1 : leaveS s n g t = S := by rw [← m3]; exact front_stay fun hh => hS hh.2
  exact ⟨e1, by unfold leaveG; rw [e1]⟩
theorem leaveB_memB {s n t : Int} {g : List Int} : leaveB s n g t = (okB s n g && decide (t ∈ waits s n g)) := rfl
end Go.Proofs.Ytcfijijpcafncac.Line

/-
  Plain facts on lines: how many wait, and the places of those who wait, behind a call and behind somebody's leaving. No condition.
-/
import Derived.Test.YtcfijijpcafncaaLineMathC
namespace Go.Proofs.Ytcfijijpcafncaa.Line
open Go

theorem upto_length (s n : Int) : (upto s n).length = (n - s).toNat := by simp [upto]
theorem filter_split (p : Int → Bool) (l : List Int) : (l.filter p).length + (l.filter fun x => !p x).length = l.length := by
  induction l with
  | nil => rfl
  | cons a l ih => by_cases h : p a = true <;> simp [h] <;> omega
theorem waits_count {s n : Int} {g : List Int} (h : okB s n g = true) : ((waits s n g).length : Int) = n - s - g.length := by
  obtain ⟨h1, h2, h3, h4, h5, h6, h7⟩ := okB_iff.1 h
  have h8 := filter_split (fun x => !g.contains x) (upto s n)
  have h9 : ((upto s n).filter fun x => !(!g.contains x)) = g := by
    refine Asc.ext ((asc_upto s n).filter _) h6 fun x => ?_
    simp only [List.mem_filter, mem_upto, Bool.not_not, List.contains_iff_mem]
    exact ⟨fun h => h.2, fun h => ⟨h7 x h, h⟩⟩
  rw [h9, upto_length] at h8
  unfold waits
  omega

theorem place_get {l : List Int} {x : Int} (h : x ∈ l) : ∃ k, ∃ hk : k < l.length, place l x = (k : Int) ∧ l[k] = x := by
  have hk := List.idxOf_lt_length_of_mem h
  refine ⟨l.idxOf x, hk, by simp [place, h], ?_⟩
  exact List.getElem_idxOf hk
theorem place_cons {a x : Int} {l : List Int} : place (a :: l) x = if a = x then 0 else if x ∈ l then place l x + 1 else -1 := by
  by_cases h : a = x
  · subst h; simp [place]
  · have h' : ¬ x = a := fun e => h e.symm
    have hb : (a == x) = false := by simpa using h
    by_cases hm : x ∈ l
    · simp [place, h, hm, List.idxOf_cons, hb]
    · simp [place, h, h', hm]
/-- Behind a call everybody who still waits is one place further. -/
theorem place_call {s n t : Int} {g : List Int} (h : callB s n g = true) (hp : ¬ placeV s n g t = -1) :
    placeV (callT s n g + 1) n (callG s n g) t = placeV s n g t - 1 ∧ (decide (placeV s n g t = 0) = decide (callT s n g = t)) := by
  have hok := (call_parts h).1
  unfold placeV at hp ⊢
  rw [waitV_yes hok] at hp ⊢
  rw [waitV_yes (call_ok h)]
  have hw := call_waits h
  have hm : t ∈ waits s n g := by
    apply Classical.byContradiction
    intro hh
    exact hp (place_no hh)
  have hasc := asc_waits s n g
  rw [hw] at hm hasc ⊢
  obtain ⟨ha, _⟩ := asc_cons.1 hasc
  rw [place_cons]
  by_cases e : callT s n g = t
  · subst e
    have : callT s n g ∉ waits (callT s n g + 1) n (callG s n g) := fun hh => by have := ha _ hh; omega
    rw [place_no this]
    simp
  · have hm' : t ∈ waits (callT s n g + 1) n (callG s n g) := by
      rcases List.mem_cons.1 hm with hh | hh
      · exact absurd hh.symm e
      · exact hh
    rw [if_neg e, if_pos hm']
    have := place_lt hm'
    refine ⟨by omega, ?_⟩
    rw [decide_eq_decide]
    exact ⟨fun hh => by omega, fun hh => absurd hh e⟩

theorem place_asc_at {l : List Int} (ha : Asc l) {k : Nat} (hk : k < l.length) : place l l[k] = k := by
  refine place_at hk fun hm => ?_
  obtain ⟨i, hi, e⟩ := List.getElem_of_mem hm
  rw [List.getElem_take] at e
  rw [List.length_take] at hi
  have := List.pairwise_iff_getElem.1 ha i k (by omega) hk (by omega)
  omega
/-- Who leaves moves those after them on. -/
theorem place_without {l : List Int} (ha : Asc l) {i k : Nat} (hi : i < l.length) (hk : k < l.length) (hne : i ≠ k) :
    place (l.filter fun x => !(x == l[i])) l[k] = (if i < k then (k : Int) - 1 else k) := by
  have hlt : ∀ {a b : Nat} (ha' : a < l.length) (hb : b < l.length), a < b → l[a] < l[b] := fun ha' hb h => List.pairwise_iff_getElem.1 ha _ _ ha' hb h
  induction l generalizing i k with
  | nil => simp at hi
  | cons a l ih =>
    obtain ⟨h1, h2⟩ := asc_cons.1 ha
    cases i with
    | zero =>
      cases k with
      | zero => exact absurd rfl hne
      | succ k =>
        have hk' : k < l.length := by simpa using hk
        have hf : ((a :: l).filter fun x => !(x == (a :: l)[0])) = l := by
          simp only [List.getElem_cons_zero]
          rw [List.filter_cons_of_neg (by simp)]
          refine List.filter_eq_self.2 fun x hx => ?_
          have := h1 x hx
          simp; omega
        rw [hf]
        simp only [List.getElem_cons_succ]
        rw [place_asc_at h2 hk']
        simp
    | succ i =>
      have hi' : i < l.length := by simpa using hi
      have hai := h1 _ (List.getElem_mem hi')
      have hf : ((a :: l).filter fun x => !(x == (a :: l)[i + 1])) = a :: l.filter fun x => !(x == l[i]) := by
        simp only [List.getElem_cons_succ]
        rw [List.filter_cons_of_pos (by simp; omega)]
      rw [hf]
      cases k with
      | zero => simp [place_cons]
      | succ k =>
        have hk' : k < l.length := by simpa using hk
        have hak := h1 _ (List.getElem_mem hk')
        have hne' : i ≠ k := fun e => hne (by omega)
        have ih' := ih h2 hi' hk' hne' (fun ha' hb h => List.pairwise_iff_getElem.1 h2 _ _ ha' hb h)
        simp only [List.getElem_cons_succ]
        have hm : l[k] ∈ l.filter fun x => !(x == l[i]) := by
          refine List.mem_filter.2 ⟨List.getElem_mem hk', ?_⟩
          rcases Nat.lt_or_gt_of_ne hne' with e | e
          · have := List.pairwise_iff_getElem.1 h2 i k hi' hk' e; simp; omega
          · have := List.pairwise_iff_getElem.1 h2 k i hk' hi' e; simp; omega
        rw [place_cons, if_neg (by omega), if_pos hm, ih']
        split <;> split <;> omega

/-- Behind the first one's leaving the second one is called. -/
theorem call_leave {s n : Int} {g : List Int} (h : callB s n g = true) :
    leaveB s n g (callT s n g) = true ∧ waits (leaveS s n g (callT s n g)) n (leaveG s n g (callT s n g)) = (waits s n g).tail := by
  obtain ⟨hok, l, hw⟩ := call_parts h
  have hm : callT s n g ∈ waits s n g := by rw [hw]; exact List.mem_cons_self
  refine ⟨by unfold leaveB; simp [hok, hm], ?_⟩
  have hasc := asc_waits s n g
  rw [leave_waits, hw]
  rw [hw] at hasc
  obtain ⟨h1, _⟩ := asc_cons.1 hasc
  rw [List.filter_cons_of_neg (by simp), List.tail_cons]
  refine List.filter_eq_self.2 fun x hx => ?_
  have := h1 x hx
  simp; omega
theorem callT_waits {s n : Int} {g : List Int} (h : 0 < (waits s n g).length) : callT s n g = (waits s n g)[0] := by
  unfold callT
  generalize waits s n g = l at h ⊢
  cases l with
  | nil => simp at h
  | cons a l => simp
theorem callB_waits {s n : Int} {g : List Int} (h : okB s n g = true) : callB s n g = decide (0 < (waits s n g).length) := by
  unfold callB
  rw [h]
  cases waits s n g <;> simp
end Go.Proofs.Ytcfijijpcafncaa.Line

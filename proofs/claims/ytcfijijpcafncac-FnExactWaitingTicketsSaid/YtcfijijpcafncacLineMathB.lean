/-
  More plain facts on lines of tickets, for the loops of the program and of its model. No condition; nothing of the program's text is used here.
-/
import Derived.Test.YtcfijijpcafncacLineMath
namespace Go.Proofs.Ytcfijijpcafncac.Line
/-- The place of a ticket that waits in a valid line. -/
def placeV (s n : Int) (g : List Int) (t : Int) : Int := place (waitV s n g) t
theorem room_of_mem {l : List Int} {k : Nat} {t : Int} (ht : t ∈ l) (h : ∀ x ∈ l.take k, x < t) : k < l.length := by
  rcases Nat.lt_or_ge k l.length with c | c
  · exact c
  · rw [List.take_of_length_le c] at h
    have := h t ht
    omega
theorem place_asc {l : List Int} {k : Nat} {t : Int} (ha : Asc l) (ht : t ∈ l) (hk : k < l.length) (h : ∀ x ∈ l.take k, x < t) (hx : ¬ l[k] < t) : place l t = k := by
  have e : l[k] = t := by
    obtain ⟨j, hj, rfl⟩ := List.mem_iff_getElem.1 ht
    rcases Nat.lt_trichotomy j k with c | c | c
    · have := h l[j] (List.mem_take_iff_getElem.2 ⟨j, by omega, rfl⟩)
      omega
    · subst c; rfl
    · have := List.pairwise_iff_getElem.1 ha k j hk hj c
      omega
  subst e
  exact place_at hk fun hm => by have := h _ hm; omega
end Go.Proofs.Ytcfijijpcafncac.Line

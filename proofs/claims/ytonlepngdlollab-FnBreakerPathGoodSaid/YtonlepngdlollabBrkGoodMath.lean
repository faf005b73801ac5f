/-
  Plain fact: good calls alone leave a breaker shut. No condition; nothing of the program's text is used here.
-/
import Derived.Test.YtonlepngdlollabBrkMath
namespace Go.Proofs.Ytonlepngdlollab.Brk
theorem path_good {b : Br} {gs l : List Bool} {ts : List Int} (h : pathB b gs ts = true) (hl : l.length = gs.length) (ha : ∀ x ∈ l, x = true) :
    (path ⟨b.li, b.re, 0, 0, b.si⟩ l ts).length = gs.length ∧ ∀ x ∈ path ⟨b.li, b.re, 0, 0, b.si⟩ l ts, x = 0 := by
  have hk := pathB_iff.1 h
  obtain ⟨h1, h2, h3, h4, h5⟩ := hk
  obtain ⟨a1, a2, a3, a4, a5, a6⟩ := h1
  have hp : pathB ⟨b.li, b.re, 0, 0, b.si⟩ l ts = true := pathB_iff.2 ⟨⟨a1, a2, ⟨Int.le_refl _, by show (0 : Int) ≤ 2; decide⟩, ⟨Int.le_refl _, by show (0 : Int) ≤ b.li - 1; omega⟩, a5, .inl rfl⟩, by omega, by omega, h4, h5⟩
  refine ⟨by rw [path_len' hp, hl], ?_⟩
  unfold path
  rw [if_pos hp]
  intro x hx
  unfold states at hx
  obtain ⟨k, hk, rfl⟩ := List.mem_map.1 hx
  rw [List.mem_range] at hk
  refine brAt_good rfl (fun j hj => ?_) _ (by omega)
  have : l.getD j false = l[j] := by simp [List.getD_eq_getElem?_getD, hj]
  rw [this]
  exact ha _ (List.getElem_mem hj)
end Go.Proofs.Ytonlepngdlollab.Brk

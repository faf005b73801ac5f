/-
  Leases in memory: four cells each. No condition.
-/
import Derived.Test.YtmaocmgnkdieeaaBase
import Derived.Test.YtmaocmgnkdieeaaOwnB
import Derived.Test.YtmaocmgnkdieeaaLeaseMath
namespace Go.Proofs.Ytmaocmgnkdieeaa
open Go.RowKit Lse

/-- A lease as its four cells. -/
def lcells (x : L) : List Value := [.int .i64 x.c, .int .i64 x.o, .int .i64 x.f, .int .i64 x.u]
def lvals (l : List L) : List Value := l.flatMap lcells
theorem lvals_nil : lvals [] = [] := rfl
theorem lvals_cons (x : L) (l : List L) : lvals (x :: l) = lcells x ++ lvals l := rfl
theorem lvals_len : ∀ l : List L, (lvals l).length = l.length * 4
  | [] => rfl
  | x :: l => by rw [lvals_cons, List.length_append, lvals_len l]; simp [lcells]; omega
theorem lvals_app (l m : List L) : lvals (l ++ m) = lvals l ++ lvals m := by simp [lvals]
theorem lvals_at : ∀ {l : List L} {k : Nat} (hk : k < l.length) {j : Nat} (_ : j < 4), (lvals l)[k * 4 + j]? = (lcells l[k])[j]?
  | x :: l, 0, hk, j, hj => by
    rw [lvals_cons, Nat.zero_mul, Nat.zero_add, List.getElem?_append_left (by simpa [lcells] using hj)]
    rfl
  | x :: l, k + 1, hk, j, hj => by
    rw [lvals_cons, List.getElem?_append_right (by simp [lcells]; omega)]
    have := lvals_at (l := l) (k := k) (by simpa using hk) hj
    simp only [List.getElem_cons_succ]
    rw [← this]
    congr 1
    simp [lcells]
    omega
/-- The four cells of the lease k of a row of leases. -/
theorem Sees.lease {w : World} {B : Nat} {A : Option Addr} {l : List L} (h : Sees w B A (lvals l)) {k : Nat} (hk : k < l.length) :
    ∃ b o, A = some ⟨b, o, none⟩ ∧ b < B ∧ w.cell? ⟨b, o + k * 4, none⟩ = some (.int .i64 l[k].c) ∧ w.cell? ⟨b, o + k * 4 + 1, none⟩ = some (.int .i64 l[k].o) ∧ w.cell? ⟨b, o + k * 4 + 2, none⟩ = some (.int .i64 l[k].f) ∧ w.cell? ⟨b, o + k * 4 + 3, none⟩ = some (.int .i64 l[k].u) := by
  obtain ⟨b, o, e, hb, hc⟩ := h (by
    intro e
    have := lvals_len l
    rw [e] at this
    simp at this
    omega)
  have at_ := fun j (hj : j < 4) u (hu : (lcells l[k])[j]? = some u) => hc (k * 4 + j) u (by rw [lvals_at hk hj]; exact hu)
  refine ⟨b, o, e, hb, ?_, ?_, ?_, ?_⟩
  · simpa using at_ 0 (by omega) _ rfl
  · simpa [Nat.add_assoc] using at_ 1 (by omega) _ rfl
  · simpa [Nat.add_assoc] using at_ 2 (by omega) _ rfl
  · simpa [Nat.add_assoc] using at_ 3 (by omega) _ rfl
theorem Sees.leases_take {w : World} {B : Nat} {A : Option Addr} {l : List L} (h : Sees w B A (lvals l)) (k : Nat) : Sees w B A (lvals (l.take k)) := fun hx => by
  have e := List.take_append_drop k l
  have h' : Sees w B A (lvals (l.take k) ++ lvals (l.drop k)) := by rw [← lvals_app, e]; exact h
  obtain ⟨b, o, e, hb, hc⟩ := h' (by intro h2; exact hx (List.append_eq_nil_iff.1 h2).1)
  refine ⟨b, o, e, hb, fun j u hu => hc j u ?_⟩
  have hj : j < (lvals (l.take k)).length := by
    rcases Nat.lt_or_ge j (lvals (l.take k)).length with h5 | h5
    · exact h5
    · rw [List.getElem?_eq_none h5] at hu; cases hu
  rw [List.getElem?_append_left hj]
  exact hu
/-- A lease as a value. -/
def L.val (x : L) : Value := .agg #[.int .i64 x.c, .int .i64 x.o, .int .i64 x.f, .int .i64 x.u]
end Go.Proofs.Ytmaocmgnkdieeaa

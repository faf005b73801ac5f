/-
  Plain facts on texts of settings: what is read of them, and that reading and writing are the inverse of one another. No condition; nothing of the program's text is used here.
-/
import Derived.Test.YtehdbllpiokbnabTxtQMath
import Derived.Test.YtehdbllpiokbnabSetMath

namespace Go.Proofs.Ytehdbllpiokbnab.Txt
open Stt

def setOf (w : List UInt8) : Stg := ⟨(pair 61 w).1, (pair 61 w).2⟩
def setL (s : List UInt8) : List Stg := if s = [] then [] else (spl 44 s).map setOf
theorem setL_nil : setL [] = [] := rfl
theorem setL_of {s : List UInt8} (h : s ≠ []) : setL s = (spl 44 s).map setOf := if_neg h
def stT (x : Stg) : List UInt8 := dec x.n.toNat ++ [61] ++ dec x.v.toNat
theorem stT_free {c : UInt8} (hc : ¬ Dig c) (h : c ≠ 61) (x : Stg) : c ∉ stT x := by
  intro e
  unfold stT at e
  rw [List.mem_append, List.mem_append, List.mem_singleton] at e
  rcases e with (e | e) | e
  · exact dec_free hc _ e
  · exact h e
  · exact dec_free hc _ e
theorem setL_back {l : List Stg} (h : ∀ x ∈ l, x.ok) : setL (jn (l.map stT) l.length) = l :=
  back_map stT setOf l (fun x _ => by unfold stT; simp; omega) (fun x _ => stT_free comma_no (by decide) x) (fun x hx => by
    obtain ⟨⟨h1, h2⟩, h3, h4⟩ := h x hx
    unfold setOf stT
    rw [pair_dec equal_no (by omega) (by omega)]
    show (⟨((x.n.toNat : Nat) : Int), ((x.v.toNat : Nat) : Int)⟩ : Stg) = x
    rw [show ((x.n.toNat : Nat) : Int) = x.n by omega, show ((x.v.toNat : Nat) : Int) = x.v by omega])
theorem setL_fore {s : List UInt8} (h : ∀ x ∈ setL s, x.ok) : jn ((setL s).map stT) (setL s).length = s :=
  fore_map stT setOf s (fun h0 t ht => by
    obtain ⟨⟨h1, _⟩, h2, _⟩ := h (setOf t) (by rw [setL_of h0]; exact List.mem_map_of_mem ht)
    exact (pair_glue (c := 61) h1).resolve_right (fun e => by have h2 : 0 ≤ (pair 61 t).2 := h2; omega)) _ rfl
/-! Settings. -/
def prsSB (s : List UInt8) : Bool := setsB (setL s)
def prsS (s : List UInt8) : List Stg := if prsSB s = true then setL s else []
theorem asc_len : ∀ {l : List Stg} {lo : Int}, Asc l → (∀ x ∈ l, lo ≤ x.n ∧ x.n ≤ 9) → l = [] ∨ (l.length : Int) + lo ≤ 10
  | [], _, _, _ => .inl rfl
  | x :: l, lo, h, hb => by
    unfold Asc at h
    rw [List.pairwise_cons] at h
    right
    have hx := hb x (by simp)
    have := asc_len (l := l) (lo := x.n + 1) h.2 (fun y hy => ⟨by have := h.1 y hy; omega, (hb y (by simp [hy])).2⟩)
    rw [List.length_cons]
    rcases this with rfl | h
    · simp; omega
    · omega
theorem sets_small {l : List Stg} (h : setsB l = true) : l.length ≤ 10 := by
  obtain ⟨h1, h2⟩ := setsB_iff.1 h
  rcases asc_len (lo := 0) h2 fun x hx => (h1 x hx).1 with rfl | h
  · simp
  · omega
theorem prsS_yes {s : List UInt8} (h : setsB (setL s) = true) : prsS s = setL s := if_pos h
theorem prsS_no {s : List UInt8} (h : setsB (setL s) = false) : prsS s = [] := by unfold prsS prsSB; rw [h]; rfl
theorem prsS_back {l : List Stg} (h : setsB l = true) : prsSB (jn (l.map stT) l.length) = true ∧ prsS (jn (l.map stT) l.length) = l := by
  have e := setL_back (setsB_iff.1 h).1
  have hb : prsSB (jn (l.map stT) l.length) = true := by unfold prsSB; rw [e]; exact h
  exact ⟨hb, by unfold prsS; rw [if_pos hb, e]⟩
theorem prsS_fore {s : List UInt8} (h : prsSB s = true) : jn ((prsS s).map stT) (prsS s).length = s ∧ setsB (prsS s) = true := by
  have e : prsS s = setL s := if_pos h
  rw [e]
  exact ⟨setL_fore (setsB_iff.1 h).1, h⟩
end Go.Proofs.Ytehdbllpiokbnab.Txt

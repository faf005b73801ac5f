/-
  Plain facts on texts of lists and pools: what is read of them, and that reading and writing are the inverse of one another. No condition; nothing of the program's text is used here.
-/
import Derived.Test.YtehdbllpiokbnabTxtPMath
import Derived.Test.YtehdbllpiokbnabPoolMath

namespace Go.Proofs.Ytehdbllpiokbnab.Txt
open Pol

/-- The numbers of a text. -/
def numL (s : List UInt8) : List Int := if s = [] then [] else (spl 44 s).map num
def pairL : List (List UInt8) → Int × Int
  | [a, b] => (num a, num b)
  | _ => (-1, -1)
/-- The two numbers of a word with a sign between them. -/
def pair (c : UInt8) (w : List UInt8) : Int × Int := pairL (spl c w)
def holOf (w : List UInt8) : Ho := ⟨(pair 58 w).1, (pair 58 w).2⟩
def holL (s : List UInt8) : List Ho := if s = [] then [] else (spl 44 s).map holOf
theorem numL_nil : numL [] = [] := rfl
theorem holL_nil : holL [] = [] := rfl
theorem numL_of {s : List UInt8} (h : s ≠ []) : numL s = (spl 44 s).map num := if_neg h
theorem holL_of {s : List UInt8} (h : s ≠ []) : holL s = (spl 44 s).map holOf := if_neg h
theorem pair_of {c : UInt8} {w a b : List UInt8} (h : spl c w = [a, b]) : pair c w = (num a, num b) := by unfold pair; rw [h]; rfl
theorem pair_no {c : UInt8} {w : List UInt8} (h : (spl c w).length ≠ 2) : pair c w = (-1, -1) := by
  unfold pair
  obtain ⟨x, hx⟩ : ∃ x, x = spl c w := ⟨_, rfl⟩
  rw [← hx] at h ⊢
  match x, h with
  | [], _ => rfl
  | [_], _ => rfl
  | [_, _], h => exact absurd rfl h
  | _ :: _ :: _ :: _, _ => rfl
theorem two_of {l : List (List UInt8)} (h : l.length = 2) : ∃ a b, l = [a, b] := by
  match l, h with
  | [a, b], _ => exact ⟨a, b, rfl⟩
theorem three_of {l : List (List UInt8)} (h : l.length = 3) : ∃ a b c, l = [a, b, c] := by
  match l, h with
  | [a, b, c], _ => exact ⟨a, b, c, rfl⟩
theorem pair_glue {c : UInt8} {w : List UInt8} (h : 0 ≤ (pair c w).1) : dec (pair c w).1.toNat ++ [c] ++ dec (pair c w).2.toNat = w ∨ (pair c w).2 < 0 := by
  by_cases hl : (spl c w).length = 2
  · obtain ⟨a, b, e⟩ := two_of hl
    rw [pair_of e] at h ⊢
    by_cases h2 : num b < 0
    · exact .inr h2
    · left
      rw [dec_num h, dec_num (by simpa using h2)]
      have := glue_of_spl c w
      rw [e] at this
      rw [← this]; simp [glue]
  · rw [pair_no hl] at h; simp at h
theorem pair_dec {c : UInt8} (hc : ¬ Dig c) {a b : Nat} (ha : a ≤ 9999) (hb : b ≤ 9999) : pair c (dec a ++ [c] ++ dec b) = ((a : Int), (b : Int)) := by
  have e : spl c (dec a ++ [c] ++ dec b) = [dec a, dec b] := by
    rw [List.append_assoc, List.singleton_append, spl_cons (dec_free hc a), spl_one (dec_free hc b)]
  rw [pair_of e, num_dec ha, num_dec hb]
theorem pair_le (c : UInt8) (w : List UInt8) : ((pair c w).1 ≤ 9999 ∧ -1 ≤ (pair c w).1) ∧ (pair c w).2 ≤ 9999 ∧ -1 ≤ (pair c w).2 := by
  by_cases hl : (spl c w).length = 2
  · obtain ⟨a, b, e⟩ := two_of hl
    rw [pair_of e]
    exact ⟨⟨num_le, num_ge a⟩, num_le, num_ge b⟩
  · rw [pair_no hl]; exact ⟨⟨by decide, by decide⟩, by decide, by decide⟩

/-! Lists of numbers. -/
theorem glue_ne {c : UInt8} {l : List (List UInt8)} (h : l ≠ []) (h1 : ∀ t ∈ l, 0 < t.length) : glue c l ≠ [] := by
  match l, h with
  | x :: l, _ =>
    have hx := h1 x (by simp)
    intro e
    cases l with
    | nil => rw [glue] at e; rw [e] at hx; simp at hx
    | cons y l =>
      have := congrArg List.length e
      rw [glue] at this
      simp at this
theorem back_map {α : Type} (f : α → List UInt8) (g : List UInt8 → α) (l : List α) (h0 : ∀ x ∈ l, 0 < (f x).length) (hc : ∀ x ∈ l, (44 : UInt8) ∉ f x) (hg : ∀ x ∈ l, g (f x) = x) :
    (if jn (l.map f) l.length = [] then [] else (spl 44 (jn (l.map f) l.length)).map g) = l := by
  have e : jn (l.map f) l.length = glue 44 (l.map f) := by
    have := jn_all (l.map f)
    rw [List.length_map] at this
    exact this
  rw [e]
  cases hl : l with
  | nil => rfl
  | cons x m =>
    rw [← hl]
    have hne : l.map f ≠ [] := by rw [hl]; simp
    rw [if_neg (glue_ne hne (fun t ht => by obtain ⟨y, hy, rfl⟩ := List.mem_map.1 ht; exact h0 y hy)), spl_glue hne (fun t ht => by obtain ⟨y, hy, rfl⟩ := List.mem_map.1 ht; exact hc y hy), List.map_map]
    have : l.map (g ∘ f) = l.map id := List.map_congr_left fun y hy => hg y hy
    rw [this, List.map_id]
theorem fore_map {α : Type} (f : α → List UInt8) (g : List UInt8 → α) (s : List UInt8) (h : s ≠ [] → ∀ t ∈ spl 44 s, f (g t) = t) (l : List α) (hl : l = if s = [] then [] else (spl 44 s).map g) :
    jn (l.map f) l.length = s := by
  have e : jn (l.map f) l.length = glue 44 (l.map f) := by
    have := jn_all (l.map f)
    rw [List.length_map] at this
    exact this
  rw [e, hl]
  by_cases h0 : s = []
  · rw [if_pos h0, h0]; rfl
  · rw [if_neg h0, List.map_map]
    have : (spl 44 s).map (f ∘ g) = (spl 44 s).map id := List.map_congr_left fun y hy => h h0 y hy
    rw [this, List.map_id, glue_of_spl]
theorem comma_no : ¬ Dig 44 := by decide
theorem colon_no : ¬ Dig 58 := by decide
theorem equal_no : ¬ Dig 61 := by decide
theorem bar_no : ¬ Dig 124 := by decide
theorem space_no : ¬ Dig 32 := by decide
def numT (x : Int) : List UInt8 := dec x.toNat
def hoT (x : Ho) : List UInt8 := dec x.c.toNat ++ [58] ++ dec x.o.toNat
theorem numL_back {l : List Int} (h : ∀ x ∈ l, 0 ≤ x ∧ x ≤ 9999) : numL (jn (l.map numT) l.length) = l :=
  back_map numT num l (fun x _ => dec_pos _) (fun x _ => dec_free comma_no _) (fun x hx => by
    have := h x hx
    unfold numT
    rw [num_dec (by omega)]; omega)
theorem numL_fore {s : List UInt8} (h : ∀ x ∈ numL s, 0 ≤ x) : jn ((numL s).map numT) (numL s).length = s :=
  fore_map numT num s (fun h0 t ht => dec_num (h _ (by rw [numL_of h0]; exact List.mem_map_of_mem ht))) _ rfl
theorem hoT_free {c : UInt8} (hc : ¬ Dig c) (h : c ≠ 58) (x : Ho) : c ∉ hoT x := by
  intro e
  unfold hoT at e
  rw [List.mem_append, List.mem_append, List.mem_singleton] at e
  rcases e with (e | e) | e
  · exact dec_free hc _ e
  · exact h e
  · exact dec_free hc _ e
theorem holL_back {l : List Ho} (h : ∀ x ∈ l, (0 ≤ x.c ∧ x.c ≤ 9999) ∧ 0 ≤ x.o ∧ x.o ≤ 9999) : holL (jn (l.map hoT) l.length) = l :=
  back_map hoT holOf l (fun x _ => by unfold hoT; simp; omega) (fun x _ => hoT_free comma_no (by decide) x) (fun x hx => by
    obtain ⟨⟨h1, h2⟩, h3, h4⟩ := h x hx
    unfold holOf hoT
    rw [pair_dec colon_no (by omega) (by omega)]
    show (⟨((x.c.toNat : Nat) : Int), ((x.o.toNat : Nat) : Int)⟩ : Ho) = x
    rw [show ((x.c.toNat : Nat) : Int) = x.c by omega, show ((x.o.toNat : Nat) : Int) = x.o by omega])
theorem holL_fore {s : List UInt8} (h : ∀ x ∈ holL s, 0 ≤ x.c ∧ 0 ≤ x.o) : jn ((holL s).map hoT) (holL s).length = s :=
  fore_map hoT holOf s (fun h0 t ht => by
    obtain ⟨h1, h2⟩ := h (holOf t) (by rw [holL_of h0]; exact List.mem_map_of_mem ht)
    exact (pair_glue (c := 58) h1).resolve_right (fun e => by have h2 : 0 ≤ (pair 58 t).2 := h2; omega)) _ rfl
theorem jn_free {α : Type} {c : UInt8} (hc : c ≠ 44) (f : α → List UInt8) (l : List α) (h : ∀ x ∈ l, c ∉ f x) : c ∉ jn (l.map f) l.length := by
  have e : jn (l.map f) l.length = glue 44 (l.map f) := by
    have := jn_all (l.map f)
    rw [List.length_map] at this
    exact this
  rw [e]
  intro hm
  rcases glue_mem hm with e | ⟨t, ht, hx⟩
  · exact hc e
  · obtain ⟨y, hy, rfl⟩ := List.mem_map.1 ht
    exact h y hy hx
/-! Pools. -/
def rawL : List (List UInt8) → List (List UInt8) → Option Pl
  | [a, _], [x, y, z] => some ⟨num a, numL x, holL y, numL z⟩
  | _, _ => none
/-- What a text says of a pool, if it has the parts of one. -/
def rawP (s : List UInt8) : Option Pl := rawL (spl 32 s) (spl 124 ((spl 32 s).getD 1 []))
def prsB (s : List UInt8) : Bool := match rawP s with | some p => okB p | none => false
def prsP (s : List UInt8) : Pl := if prsB s = true then (rawP s).getD Pl.zero else Pl.zero
theorem prsP_no {s : List UInt8} (h : prsB s = false) : prsP s = Pl.zero := by unfold prsP; rw [h]; rfl
theorem raw_no2 {s : List UInt8} (h : (spl 32 s).length ≠ 2) : rawP s = none := by
  unfold rawP
  obtain ⟨x, hx⟩ : ∃ x, x = spl 32 s := ⟨_, rfl⟩
  rw [← hx] at h ⊢
  match x, h with
  | [], _ => rfl
  | [_], _ => rfl
  | [_, _], h => exact absurd rfl h
  | _ :: _ :: _ :: _, _ => rfl
theorem raw_no3 {s a b : List UInt8} (e : spl 32 s = [a, b]) (h : (spl 124 b).length ≠ 3) : rawP s = none := by
  unfold rawP
  rw [e, show ([a, b] : List (List UInt8)).getD 1 [] = b from rfl]
  obtain ⟨x, hx⟩ : ∃ x, x = spl 124 b := ⟨_, rfl⟩
  rw [← hx] at h ⊢
  match x, h with
  | [], _ => rfl
  | [_], _ => rfl
  | [_, _], _ => rfl
  | [_, _, _], h => exact absurd rfl h
  | _ :: _ :: _ :: _ :: _, _ => rfl
theorem raw_yes {s a b x y z : List UInt8} (e : spl 32 s = [a, b]) (e2 : spl 124 b = [x, y, z]) : rawP s = some ⟨num a, numL x, holL y, numL z⟩ := by
  unfold rawP
  rw [e, show ([a, b] : List (List UInt8)).getD 1 [] = b from rfl, e2]
  rfl
theorem prsB_no {s : List UInt8} (h : rawP s = none) : prsB s = false := by unfold prsB; rw [h]
theorem prsB_of {s : List UInt8} {p : Pl} (h : rawP s = some p) : prsB s = okB p := by unfold prsB; rw [h]
theorem prsP_of {s : List UInt8} {p : Pl} (h : rawP s = some p) (hk : okB p = true) : prsP s = p := by unfold prsP; rw [prsB_of h, hk, h]; rfl
theorem raw_inv {s : List UInt8} {p : Pl} (h : rawP s = some p) : ∃ a b x y z, spl 32 s = [a, b] ∧ spl 124 b = [x, y, z] ∧ p = ⟨num a, numL x, holL y, numL z⟩ := by
  by_cases h2 : (spl 32 s).length = 2
  · obtain ⟨a, b, e⟩ := two_of h2
    by_cases h3 : (spl 124 b).length = 3
    · obtain ⟨x, y, z, e2⟩ := three_of h3
      rw [raw_yes e e2] at h
      exact ⟨a, b, x, y, z, e, e2, by injection h with h; exact h.symm⟩
    · rw [raw_no3 e h3] at h; cases h
  · rw [raw_no2 h2] at h; cases h
def poT (p : Pl) : List UInt8 := dec p.mx.toNat ++ [32] ++ jn (p.idle.map numT) p.idle.length ++ [124] ++ jn (p.held.map hoT) p.held.length ++ [124] ++ jn (p.wait.map numT) p.wait.length
def NumOk (p : Pl) : Prop := (0 ≤ p.mx ∧ p.mx ≤ 9999) ∧ (∀ x ∈ p.idle, 0 ≤ x ∧ x ≤ 9999) ∧ (∀ x ∈ p.held, (0 ≤ x.c ∧ x.c ≤ 9999) ∧ 0 ≤ x.o ∧ x.o ≤ 9999) ∧ ∀ x ∈ p.wait, 0 ≤ x ∧ x ≤ 9999
theorem ok_numOk {p : Pl} (h : Ok p) : NumOk p := by
  obtain ⟨⟨h0, h1⟩, _, h3, h4, _, h6, _⟩ := h
  refine ⟨⟨by omega, by omega⟩, fun x hx => ?_, fun x hx => ?_, fun x hx => ?_⟩
  · have := h3 x (by unfold opens; simp [hx]); omega
  · have a := h3 x.c (by unfold opens; exact List.mem_append.2 (.inr (List.mem_map_of_mem hx)))
    have b := h4 x.o (List.mem_map_of_mem hx)
    exact ⟨⟨by omega, by omega⟩, by omega, by omega⟩
  · have := h6 x hx; omega
theorem raw_poT {p : Pl} (h : NumOk p) : rawP (poT p) = some p := by
  obtain ⟨⟨h0, h1⟩, h2, h3, h4⟩ := h
  have f1 : ∀ c : UInt8, ¬ Dig c → c ≠ 44 → c ∉ jn (p.idle.map numT) p.idle.length := fun c hc h => jn_free h numT p.idle fun x _ => dec_free hc _
  have f2 : ∀ c : UInt8, ¬ Dig c → c ≠ 44 → c ≠ 58 → c ∉ jn (p.held.map hoT) p.held.length := fun c hc h h' => jn_free h hoT p.held fun x _ => hoT_free hc h' x
  have f3 : ∀ c : UInt8, ¬ Dig c → c ≠ 44 → c ∉ jn (p.wait.map numT) p.wait.length := fun c hc h => jn_free h numT p.wait fun x _ => dec_free hc _
  have hI := numL_back h2
  have hH := holL_back h3
  have hW := numL_back h4
  have e1 : spl 32 (poT p) = [dec p.mx.toNat, jn (p.idle.map numT) p.idle.length ++ 124 :: (jn (p.held.map hoT) p.held.length ++ 124 :: jn (p.wait.map numT) p.wait.length)] := by
    have : poT p = dec p.mx.toNat ++ 32 :: (jn (p.idle.map numT) p.idle.length ++ 124 :: (jn (p.held.map hoT) p.held.length ++ 124 :: jn (p.wait.map numT) p.wait.length)) := by
      unfold poT; simp
    rw [this, spl_cons (dec_free space_no _), spl_one]
    intro e
    rw [List.mem_append, List.mem_cons, List.mem_append, List.mem_cons] at e
    rcases e with e | e | e | e | e
    · exact f1 32 space_no (by decide) e
    · exact absurd e (by decide)
    · exact f2 32 space_no (by decide) (by decide) e
    · exact absurd e (by decide)
    · exact f3 32 space_no (by decide) e
  have e2 := spl_cons (f1 124 bar_no (by decide)) (jn (p.held.map hoT) p.held.length ++ 124 :: jn (p.wait.map numT) p.wait.length)
  rw [spl_cons (f2 124 bar_no (by decide) (by decide)), spl_one (f3 124 bar_no (by decide))] at e2
  rw [raw_yes e1 e2, hI, hH, hW, num_dec (by omega)]
  rw [show ((p.mx.toNat : Nat) : Int) = p.mx by omega]
theorem prsB_poT {p : Pl} (h : Ok p) : prsB (poT p) = true := by rw [prsB_of (raw_poT (ok_numOk h))]; exact okB_iff.2 h
theorem prsP_poT {p : Pl} (h : Ok p) : prsP (poT p) = p := prsP_of (raw_poT (ok_numOk h)) (okB_iff.2 h)
theorem poT_prsP {s : List UInt8} (h : prsB s = true) : poT (prsP s) = s ∧ Ok (prsP s) := by
  obtain ⟨p, hp⟩ : ∃ p, rawP s = some p := by
    cases hr : rawP s with
    | none => rw [prsB_no hr] at h; cases h
    | some p => exact ⟨p, rfl⟩
  rw [prsB_of hp] at h
  rw [prsP_of hp h]
  have hok := okB_iff.1 h
  refine ⟨?_, hok⟩
  obtain ⟨⟨h0, h1⟩, h2, h3, h4⟩ := (ok_numOk hok)
  obtain ⟨a, b, x, y, z, e, e2, rfl⟩ := raw_inv hp
  have i1 := numL_fore (s := x) fun v hv => (h2 v hv).1
  have i2 := holL_fore (s := y) fun v hv => ⟨(h3 v hv).1.1, (h3 v hv).2.1⟩
  have i3 := numL_fore (s := z) fun v hv => (h4 v hv).1
  unfold poT
  rw [show (⟨num a, numL x, holL y, numL z⟩ : Pl).mx = num a from rfl, show (⟨num a, numL x, holL y, numL z⟩ : Pl).idle = numL x from rfl, show (⟨num a, numL x, holL y, numL z⟩ : Pl).held = holL y from rfl, show (⟨num a, numL x, holL y, numL z⟩ : Pl).wait = numL z from rfl]
  rw [i1, i2, i3, dec_num h0]
  have g1 := glue_of_spl 32 s
  have g2 := glue_of_spl 124 b
  rw [e] at g1
  rw [e2] at g2
  rw [← g1, ← g2]
  simp [glue]
end Go.Proofs.Ytehdbllpiokbnab.Txt

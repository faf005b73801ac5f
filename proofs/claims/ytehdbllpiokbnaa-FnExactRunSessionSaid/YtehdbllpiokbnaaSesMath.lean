/-
  Plain facts on sessions: what a line makes of a pool and what it answers. No condition; nothing of the program's text is used here.
-/
import Derived.Test.YtehdbllpiokbnaaTa
import Derived.Test.YtehdbllpiokbnaaPoolLawMath

namespace Go.Proofs.Ytehdbllpiokbnaa.Ses
open Pol Txt

def tNo : List UInt8 := [110, 111]
def tWait : List UInt8 := [119, 97, 105, 116]
def tIdle : List UInt8 := [105, 100, 108, 101]
def tTo : List UInt8 := [116, 111, 32]
def tOk : List UInt8 := [111, 107]
def tWhat : List UInt8 := [119, 104, 97, 116]
def nAcq : List UInt8 := [97, 99, 113, 117, 105, 114, 101]
def nRel : List UInt8 := [114, 101, 108, 101, 97, 115, 101]
def nCls : List UInt8 := [99, 108, 111, 115, 101]
def nSiz : List UInt8 := [115, 105, 122, 101]
def nHel : List UInt8 := [104, 101, 108, 100]
def nPoo : List UInt8 := [112, 111, 111, 108]
def sized (p : Pl) (n : Int) : Pl := ⟨n, p.idle, p.held, p.wait⟩
def rAcq (p : Pl) (n : Int) : Pl × List UInt8 := if acqB p n = true then (acqR p n, if acqN p n = -1 then tWait else dec (acqN p n).toNat) else (p, tNo)
def rRel (p : Pl) (n : Int) : Pl × List UInt8 := if relB p n = true then (relR p n, if relN p n = -1 then tIdle else tTo ++ dec (relN p n).toNat) else (p, tNo)
def rCls (p : Pl) (n : Int) : Pl × List UInt8 := if clsB p n = true then (clsR p n, dec (clsN p n).toNat) else (p, tNo)
def rSiz (p : Pl) (n : Int) : Pl × List UInt8 := if okB (sized p n) = true then (sized p n, tOk) else (p, tNo)
def rHel (p : Pl) (n : Int) : Pl × List UInt8 := (p, jn ((heldBy p n).map numT) (heldBy p n).length)
def rCmd (p : Pl) (name : List UInt8) (n : Int) : Pl × List UInt8 :=
  if name = nAcq then rAcq p n else if name = nRel then rRel p n else if name = nCls then rCls p n else if name = nSiz then rSiz p n else if name = nHel then rHel p n else (p, tWhat)
def rWords (p : Pl) : List (List UInt8) → Pl × List UInt8
  | [a, b] => rCmd p a (num b)
  | _ => (p, tWhat)
def rLin (p : Pl) (l : List UInt8) : Pl × List UInt8 := if l = nPoo then (p, poT p) else rWords p (spl 32 l)
theorem acq_range {p : Pl} {n : Int} (h : acqB p n = true) : acqN p n = -1 ∨ (0 ≤ acqN p n ∧ acqN p n ≤ 9999) := by
  rcases hf : fullB p with _ | _
  · obtain ⟨e, _, _, _⟩ := acq_one h hf
    have hok := (acqB_iff.1 h).1
    have hm := hok.1
    have := pick_ok hok hf
    rw [e]; omega
  · exact .inl (acq_full h hf).1
theorem rel_range {p : Pl} {n : Int} (h : relB p n = true) : relN p n = -1 ∨ (0 ≤ relN p n ∧ relN p n ≤ 9999) := by
  obtain ⟨x, hx⟩ : ∃ x, x = p.wait := ⟨_, rfl⟩
  cases x with
  | nil => exact .inl (rel_none h hx.symm).1
  | cons o l =>
    have e := (rel_some h hx.symm).1
    have hok := (relB_iff.1 h).1
    have := hok.2.2.2.2.2.1 o (by rw [← hx]; simp)
    rw [e]; omega
theorem cls_range {p : Pl} {n : Int} (h : clsB p n = true) : 0 ≤ clsN p n ∧ clsN p n ≤ 9999 := by
  obtain ⟨k, hk, e, _⟩ := cls_nat h
  have := (clsB_iff.1 h).1.small
  rw [e]; omega
theorem held_range {p : Pl} {n : Int} (h : Ok p) : ∀ x ∈ heldBy p n, 0 ≤ x ∧ x ≤ 9999 := fun x hx => by
  have hm := h.1
  have := h.2.2.1 x (by unfold opens; exact List.mem_append.2 (.inr (held_mem hx)))
  omega
theorem dec_len4 {n : Int} (h : n ≤ 9999) : (dec n.toNat).length ≤ 4 := dec_len 3 _ (by omega)
theorem numTs_le {l : List Int} (h : ∀ x ∈ l, 0 ≤ x ∧ x ≤ 9999) : (jn (l.map numT) l.length).length ≤ 5 * l.length := jn_len (fun t ht => by obtain ⟨x, hx, rfl⟩ := List.mem_map.1 ht; exact dec_len4 (h x hx).2) l.length
theorem hoTs_le {l : List Ho} (h : ∀ x ∈ l, (0 ≤ x.c ∧ x.c ≤ 9999) ∧ 0 ≤ x.o ∧ x.o ≤ 9999) : (jn (l.map hoT) l.length).length ≤ 10 * l.length := jn_len (fun t ht => by
  obtain ⟨x, hx, rfl⟩ := List.mem_map.1 ht
  have h1 := dec_len4 (h x hx).1.2
  have h2 := dec_len4 (h x hx).2.2
  unfold hoT
  simp only [List.length_append, List.length_singleton]; omega) l.length
theorem poT_len {p : Pl} (h : Ok p) : (poT p).length ≤ 900 := by
  obtain ⟨⟨h0, h1⟩, k1, k2, k3⟩ := ok_numOk h
  obtain ⟨z1, z2, z3⟩ := h.small
  have l0 := dec_len4 h1
  have l1 := numTs_le k1
  have l2 := hoTs_le k2
  have l3 := numTs_le k3
  unfold poT
  simp only [List.length_append, List.length_singleton]; omega
/-- A valid pool and a short text. -/
def Good (r : Pl × List UInt8) : Prop := Ok r.1 ∧ r.2.length ≤ 900
theorem good_word {p : Pl} {w : List UInt8} (h : Ok p) (hw : w.length ≤ 900) : Good (p, w) := ⟨h, hw⟩
theorem rAcq_good {p : Pl} {n : Int} (h : Ok p) : Good (rAcq p n) := by
  unfold rAcq
  split
  · rename_i hb
    refine ⟨okB_iff.1 (acqR_ok hb), ?_⟩
    rcases acq_range hb with e | e
    · simp only [if_pos e]; decide
    · simp only [if_neg (show ¬ acqN p n = -1 by omega)]; have := dec_len4 e.2; omega
  · exact good_word h (by decide)
theorem rRel_good {p : Pl} {n : Int} (h : Ok p) : Good (rRel p n) := by
  unfold rRel
  split
  · rename_i hb
    refine ⟨okB_iff.1 (relR_ok hb), ?_⟩
    rcases rel_range hb with e | e
    · simp only [if_pos e]; decide
    · simp only [if_neg (show ¬ relN p n = -1 by omega), List.length_append]
      have := dec_len4 e.2
      have h3 : tTo.length = 3 := rfl
      omega
  · exact good_word h (by decide)
theorem rCls_good {p : Pl} {n : Int} (h : Ok p) : Good (rCls p n) := by
  unfold rCls
  split
  · rename_i hb
    exact ⟨okB_iff.1 (clsR_ok hb), by have := dec_len4 (cls_range hb).2; show (dec (clsN p n).toNat).length ≤ 900; omega⟩
  · exact good_word h (by decide)
theorem rSiz_good {p : Pl} {n : Int} (h : Ok p) : Good (rSiz p n) := by
  unfold rSiz
  split
  · rename_i hb
    exact good_word (okB_iff.1 hb) (by decide)
  · exact good_word h (by decide)
theorem rHel_good {p : Pl} {n : Int} (h : Ok p) : Good (rHel p n) := ⟨h, by
  have := numTs_le (held_range (n := n) h)
  have := heldBy_len p n
  show (jn ((heldBy p n).map numT) (heldBy p n).length).length ≤ 900
  omega⟩
theorem rCmd_good {p : Pl} {name : List UInt8} {n : Int} (h : Ok p) : Good (rCmd p name n) := by
  unfold rCmd
  split
  · exact rAcq_good h
  split
  · exact rRel_good h
  split
  · exact rCls_good h
  split
  · exact rSiz_good h
  split
  · exact rHel_good h
  · exact good_word h (by decide)
theorem rWords_good {p : Pl} (h : Ok p) : ∀ l, Good (rWords p l)
  | [] => good_word h (w := tWhat) (by decide)
  | [_] => good_word h (w := tWhat) (by decide)
  | [_, _] => rCmd_good h
  | _ :: _ :: _ :: _ => good_word h (w := tWhat) (by decide)
theorem rLin_good {p : Pl} {l : List UInt8} (h : Ok p) : Good (rLin p l) := by
  unfold rLin
  split
  · exact ⟨h, poT_len h⟩
  · exact rWords_good h _
theorem spl_pool : spl 32 nPoo = [nPoo] := by decide
theorem rLin_pool (p : Pl) : rLin p nPoo = (p, poT p) := if_pos rfl
theorem rLin_two {p : Pl} {l a b : List UInt8} (e : spl 32 l = [a, b]) : rLin p l = rCmd p a (num b) := by
  have hn : l ≠ nPoo := by rintro rfl; rw [spl_pool] at e; injection e with _ e; cases e
  unfold rLin
  rw [if_neg hn, e]; rfl
theorem rWords_what {p : Pl} {l : List (List UInt8)} (h : l.length ≠ 2) : rWords p l = (p, tWhat) := by
  match l, h with
  | [], _ => rfl
  | [_], _ => rfl
  | [_, _], h => exact absurd rfl h
  | _ :: _ :: _ :: _, _ => rfl
theorem rLin_what {p : Pl} {l : List UInt8} (h : (spl 32 l).length ≠ 2) (hn : l ≠ nPoo) : rLin p l = (p, tWhat) := by
  unfold rLin
  rw [if_neg hn, rWords_what h]
/-- One word is the line itself. -/
theorem spl_single {l x : List UInt8} (h : spl 32 l = [x]) : x = l := by
  have := glue_of_spl 32 l
  rw [h] at this
  exact this
/-- The first k lines: the pool and what was said. -/
def rSt (ls : List (List UInt8)) : Nat → Pl × List UInt8
  | 0 => (⟨2, [], [], []⟩, [])
  | k + 1 => ((rLin (rSt ls k).1 (ls.getD k [])).1, (rSt ls k).2 ++ (rLin (rSt ls k).1 (ls.getD k [])).2 ++ [10])
theorem ok_first : Ok ⟨2, [], [], []⟩ := by
  refine ⟨by decide, by simp [opens], by simp [opens], by simp, by simp, by simp, .inl rfl⟩
theorem rSt_good (ls : List (List UInt8)) : ∀ k, Ok (rSt ls k).1 ∧ (rSt ls k).2.length ≤ 901 * k
  | 0 => ⟨ok_first, by simp [rSt]⟩
  | k + 1 => by
    obtain ⟨h1, h2⟩ := rSt_good ls k
    obtain ⟨g1, g2⟩ := rLin_good (l := ls.getD k []) h1
    refine ⟨g1, ?_⟩
    show ((rSt ls k).2 ++ (rLin (rSt ls k).1 (ls.getD k [])).2 ++ [10]).length ≤ 901 * (k + 1)
    simp only [List.length_append, List.length_singleton]
    omega
/-- What a session says. -/
def rSes (ls : List (List UInt8)) : List UInt8 := (rSt ls (min ls.length 20)).2
end Go.Proofs.Ytehdbllpiokbnaa.Ses

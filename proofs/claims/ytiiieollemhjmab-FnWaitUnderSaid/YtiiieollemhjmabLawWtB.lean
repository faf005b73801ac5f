/-
  What the walks of the laws on counts of waits use. No condition.
-/
import Derived.Test.YtiiieollemhjmabLawWt
import Derived.Deep.RegionHeld3
namespace Go.Proofs.Ytiiieollemhjmab
open Go.RowKit Wt
theorem equalInts_same (A B : Option Addr) (c d : Nat) (xs : List Int) (w : World) (h : Sees w w.heap.size A (ints xs)) (h' : Sees w w.heap.size B (ints xs)) (hn : xs.length ≤ 4194304) :
    Calls Try.prog 20 #[.slice A xs.length c, .slice B xs.length d] w fun e w' => e = .returned (.bool true) ∧ Below w.heap.size w w' := by
  have := equalInts_any A B c d xs xs w h h' (Nat.le_trans hn (by decide))
  rwa [eqB_iff.2 rfl] at this
theorem Own.seesW {w : World} {base c : Nat} {A : Option Addr} {ys : List Int} (h : Own w base (.slice A ys.length c) ys) : Sees w w.heap.size A (ints ys) := Sees.of_own h.out
theorem Own.capW {w : World} {base c : Nat} {A : Option Addr} {ys : List Int} (h : Own w base (.slice A ys.length c) ys) : ys.length ≤ c := by
  obtain ⟨_, _, e, q, _⟩ := own_form h.out
  injection e with _ _ e; omega
theorem CwAns.get {l : List Int} {w : World} {e : Ending} {w' : World} (h : CwAns l w e w') : ∃ A c, e = .returned (.slice A (cntW l).length c) ∧ Own w' w.heap.size (.slice A (cntW l).length c) (cntW l) ∧ Below w.heap.size w w' := by
  obtain ⟨v, rfl, ho, hb⟩ := h
  obtain ⟨A, c, rfl, _⟩ := own_form ho.out
  exact ⟨A, c, rfl, ho, hb⟩
theorem sees_addW {w : World} {B : Nat} {A : Option Addr} {l : List Int} (h : Sees w B A (ints l)) (k : Nat) : Sees w B (Option.map (fun x => x.add k) A) (ints (l.drop k)) := by
  have e : ints (l.drop k) = (ints l).drop k := by simp [ints]
  rw [e]
  intro hx
  obtain ⟨b, o, e1, _⟩ := h (by intro e2; rw [e2] at hx; simp at hx)
  have h2 := h.drop (k := k) e1
  have hadd : (⟨b, o, none⟩ : Addr).add k = ⟨b, o + k, none⟩ := by unfold Addr.add; split <;> simp_all
  have h3 : Option.map (fun x => x.add k) A = some ⟨b, o + k, none⟩ := by rw [e1]; simp only [Option.map_some, hadd]
  rw [h3]
  exact h2 hx
theorem drop_snoc {ys : List Int} {k : Nat} (h : k < ys.length) : (ys.drop k).reverse = (ys.drop (k + 1)).reverse ++ [ys[k]] := by
  rw [List.drop_eq_getElem_cons h, List.reverse_cons]
/-- 'make([]T, n)' behind a guard that says yes. -/
theorem wpList_make_want {P : Program} (w : World) {ops : Array Oper} {rest : List Oper} {o : Oper} {a : Act} {Q : Exit → Act → World → Prop}
    (hg : Region.wanted o (yielded ops a.tmps) = true) (l c : Operand) (t : TypeId) (hop : o.op = Op.makeSlice t l c)
    (base : Nat) (e : TypeId) (i : TypeInfo) (z : Value) (size : Nat) (h1 : P.underlying t = some (.slice e)) (h2 : P.info? e = some i) (h3 : i.zero = some z) (h4 : i.size = size)
    (kl kc : IntKind) (L C : Int) (n : Nat) (hl : a.eval l = .int kl L) (hc : a.eval c = .int kc C) (hL : L = (n : Int)) (hC : C = (n : Int)) (b2 : i.bytes * n ≤ 281474976710656) (b3 : n ≤ maxLen) (b4 : base ≤ w.heap.size)
    (hK : ∀ w', w'.ownsRow base e size (.slice (some ⟨w.heap.size, 0, none⟩) n n) n (madeCells z.cells (n * size)).toList → w.grownBy w' none → wpList P ops Q rest (a.put o.dst (.slice (some ⟨w.heap.size, 0, none⟩) n n)) w') :
    wpList P ops Q (o :: rest) a w := by
  refine BigFrame.wpList_want hg fun K hK' => ?_
  obtain ⟨w', hrun, r1, r2⟩ := run_make_full (P := P) w base t e i z size h1 h2 h3 h4 kl kc n b2 b3 b4
  subst hL
  subst hC
  unfold Oper.wp
  simp [execOp, hop, hl, hc, hrun, Result.andThen]
  exact hK' _ _ (hK w' r1 r2)
theorem iValidCounts_len {A : Option Addr} {c n : Nat} {l : List Int} {w : World} {B : Nat} (hl : l.length = n) (h : Sees w B A (ints l)) (hn : l.length ≤ 4194304) :
    Calls Try.prog 16 #[.slice A n c] w fun e w' => e = .returned (.bool (cntB l)) ∧ w = w' := by
  subst hl; exact iValidCounts_any A c l w h hn
theorem iCountWaits_len {A : Option Addr} {c n : Nat} {l : List Int} {w : World} (hl : l.length = n) (h : Sees w w.heap.size A (ints l)) (hn : l.length ≤ 4194304) :
    Calls Try.prog 19 #[.slice A n c] w (CwAns l w) := by
  subst hl; exact iCountWaits_any A c l w h hn
theorem waits_empty {l : List Int} (h : waitsB l = true) : (cntW l).length = 8 := by rw [cntW_yes h]; rfl
theorem waits_none {l : List Int} (h : waitsB l = false) : (cntW l).length = 0 := by rw [cntW_no h]; rfl
theorem cn_step {l : List Int} (h : waitsB l = true) {j : Nat} (hj : j < l.length) (b : Nat) : (binV l[j] = (b : Int) → cn (l.take (j + 1)) b = cn (l.take j) b + 1) ∧ (binV l[j] ≠ (b : Int) → cn (l.take (j + 1)) b = cn (l.take j) b) := by
  rw [binV_yes (waits_at h hj), List.take_succ_eq_append_getElem hj, cn_snoc]
  exact ⟨fun e => by rw [if_pos e], fun e => by rw [if_neg e]; omega⟩
theorem lastB_yes {l : List Int} {k : Nat} (h : k < l.length) : 0 < l[k] → lastB l (k + 1) = k := fun e => by
  have e1 : l.getD k 0 = l[k] := by simp [List.getD_eq_getElem?_getD, h]
  unfold lastB
  rw [e1, if_pos e]
theorem lastB_no {l : List Int} {k : Nat} (h : k < l.length) : ¬ 0 < l[k] → lastB l (k + 1) = lastB l k := fun e => by
  have e1 : l.getD k 0 = l[k] := by simp [List.getD_eq_getElem?_getD, h]
  rw [lastB, e1, if_neg e]
theorem und_law {l : List Int} {p : Int} (h : undB l p = true) : binV (undV l p) = (und l p : Nat) ∧ und l p < 8 ∧ p * l.sum ≤ 100 * pre l (und l p + 1) ∧ (und l p ≠ 0 → 100 * pre l (und l p) < p * l.sum) ∧ topV (und l p : Nat) = undV l p := by
  obtain ⟨a, b, c⟩ := isU_und h
  have e : undV l p = topV (und l p) := undV_of h ⟨a, b, c⟩
  have ht := top_range ((und l p : Nat) : Int)
  refine ⟨?_, a, b, fun g => ?_, e.symm⟩
  · rw [undV_yes h, binV_yes ht]; exact bin_top (by omega)
  · have := c (und l p - 1) (by omega)
    rwa [Nat.sub_add_cancel (by omega)] at this
end Go.Proofs.Ytiiieollemhjmab

/-
  A region that draws its order, by one fact that each of its operations keeps. No condition; nothing of the program's text is used here.
-/
import Derived.Orders
import Derived.RegionTactic
import Derived.Deep.RegionHeld3
namespace Go.Proofs.Ytmpiigjkmodekaa
open Go

theorem ready_true {md : Region.Mode} {ops : Array Oper} {listed : Array Bool} (hr : Region.ready md ops listed = []) (i : Nat) (h : listed.getD i true = false → ∃ o, ops[i]? = some o ∧ ∀ e ∈ o.after, listed.getD e.on false = true) : listed.getD i true = true := by
  cases hh : listed.getD i true
  · obtain ⟨o, ho, ha⟩ := h hh
    have hm : i ∈ Region.ready md ops listed := mem_ready.2 ⟨hh, o, ho, fun e he _ => ha e he⟩
    rw [hr] at hm
    cases hm
  · rfl
theorem wpAny_inv {P : Program} {md : Region.Mode} {ops : Array Oper} {Q : Exit → Act → World → Prop} (I : Nat → Array Bool → Act → World → Prop)
    (h0 : ∀ listed a w, I 0 listed a w → Region.ready md ops listed = [])
    (hend : ∀ n listed a w, I n listed a w → Region.ready md ops listed = [] → Q .normal a w)
    (hstep : ∀ n listed a w, I (n + 1) listed a w → ∀ i o, ops[i]? = some o → listed.getD i true = false → (∀ e ∈ o.after, Region.binds md e = true → listed.getD e.on false = true) →
      ∀ K' : Act → World → Prop, (∀ a w, I n (listed.setIfInBounds i true) a w → K' a w) → if Region.wanted o (yielded ops a.tmps) = true then Oper.wp P o a w K' Q else K' (a.put o.dst undef) w) :
    ∀ n listed a w, I n listed a w → wpAny P md ops Q n listed a w
  | 0, listed, a, w, h => ⟨h0 listed a w h, hend 0 listed a w h (h0 listed a w h)⟩
  | n + 1, listed, a, w, h => by
    refine ⟨fun hr => hend _ _ _ _ h hr, fun i hi => ?_⟩
    obtain ⟨hl, o, ho, hall⟩ := mem_ready.1 hi
    exact wpOp_step ho (fun K' hK => hstep n listed a w h i o ho hl hall K' (fun a' w' hI => hK a' w' (wpAny_inv I h0 hend hstep n _ a' w' hI)))
end Go.Proofs.Ytmpiigjkmodekaa

/-
  What the model's ReleaseConn answers. Condition: the lists lie in memory.
-/
import Derived.Test.YtehdbllpiokbnaaPlQ
import Derived.Test.YtehdbllpiokbnaaPlS0
import Derived.StillTailTactics
import Derived.Deep.RegionHeld3
import Derived.Deep.RegionLaw
import Derived.Deep.CutRange

namespace Go.Proofs.Ytehdbllpiokbnaa
open Go.RowKit Pol

theorem place_split {l : List Ho} {o : Int} (hn : (l.map Ho.c).Nodup) (hm : o ∈ l.map Ho.c) : ∃ k : Nat, k < l.length ∧ Line.place (l.map Ho.c) o = k ∧ without l o = l.take k ++ l.drop (k + 1) := by
  obtain ⟨h, hh, rfl⟩ := List.mem_map.1 hm
  obtain ⟨k, hk, e⟩ := List.mem_iff_getElem.1 hh
  refine ⟨k, hk, ?_, by rw [← e]; exact without_at hn hk⟩
  rw [← e]
  refine place_map hk fun hin => ?_
  have hk' : k < (l.map Ho.c).length := by rw [List.length_map]; exact hk
  have := nodup_not hk' (by rw [List.getElem_map]; exact hin)
  rw [decide_eq_true hn] at this
  cases this
theorem OwnP.moreHeld {w w' : World} {base : Nat} {A1 A2 A3 : Option Addr} {c1 c2 c3 : Nat} {p : Pl} (h : OwnP w base A1 A2 A3 c1 c2 c3 p) {X : List Ho} {A : Option Addr} {c m : Nat} (hX : X.length = m) {xs : List Value} (hs : xs = strip hcells X) (h' : w'.ownsRow base 91 2 (.slice A m c) m xs) (hg : w.grownBy w' (Value.slice A2 p.held.length c2).ownBlock) (hat : (Value.slice A m c).ownBlock = (Value.slice A2 p.held.length c2).ownBlock ∨ (Value.slice A m c).ownBlock = some w.heap.size) :
    OwnP w' base A1 A A3 c1 c c3 ⟨p.mx, p.idle, X, p.wait⟩ := by
  subst hX hs
  obtain ⟨h1, h2, h3, f12, f13, f23⟩ := h
  exact ⟨row_kept h1 hg (fun k hk e => f12 k hk e), h', row_kept h3 hg (fun k hk e => f23 k e hk), (far_step f12.symm hat (fun k hk => (h1.out.lt k hk).2)).symm, f13, far_step f23 hat (fun k hk => (h3.out.lt k hk).2)⟩
theorem add_plain {b o j : Nat} : (⟨b, o, none⟩ : Addr).add j = ⟨b, o + j, none⟩ := by unfold Addr.add; split <;> simp_all
theorem hslide {w : World} {B b of : Nat} {l : List Ho} (h : Sees w B (some ⟨b, of, none⟩) (strip hcells l)) (k : Nat) : Sees w B (some ⟨b, of + k * 2, none⟩) (strip hcells (l.drop k)) := by
  rw [strip_drop hcells_len]
  exact h.drop rfl

end Go.Proofs.Ytehdbllpiokbnaa

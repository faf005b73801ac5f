/-
  What the functions answer that draw the arguments of the laws on pools. Condition: the code is at most 2^20 bytes.
-/
import Derived.Test.YtehdbllpiokbnabPlGenC
import Derived.Test.YtehdbllpiokbnabPlW
import Derived.Deep.RegionHeld3

namespace Go.Proofs.Ytehdbllpiokbnab
open Go.RowKit Pol
theorem At.fourP {w : World} {g : Nat} {t : TypeId} {a b c d : Value} (h : At w g t #[a, b, c, d]) : w.cell? ⟨g, 0, none⟩ = some a ∧ w.cell? ⟨g, 1, none⟩ = some b ∧ w.cell? ⟨g, 2, none⟩ = some c ∧ w.cell? ⟨g, 3, none⟩ = some d ∧ g < w.heap.size ∧ ∀ i, w.frozen? ⟨g, i, none⟩ = false :=
  ⟨h.cell 0, h.cell 1, h.cell 2, h.cell 3, h.lt, h.frozen⟩
/-- A pool and a number that were drawn. -/
def DrawPB (w : World) (e : Ending) (w' : World) : Prop := ∃ (A1 A2 A3 : Option Addr) (c1 c2 c3 : Nat) (p : Pl) (o : Int), e = .returned (.tuple #[.agg #[.int .i64 p.mx, .slice A1 p.idle.length c1, .slice A2 p.held.length c2, .slice A3 p.wait.length c3], .int .i64 o]) ∧ DQ w w' A1 A2 A3 c1 c2 c3 p ∧ -1 ≤ o ∧ o ≤ 1000
set_option maxHeartbeats 4000000 in
theorem drawFormatPool_any (A : Option Addr) (n c : Nat) (zs : List Int) (w : World) (h : Sees w w.heap.size A (byts zs)) (hz : ∀ z ∈ zs, 0 ≤ z ∧ z ≤ 255) (hn : zs.length = n) (hc : n ≤ c) (hm : n ≤ 1048576) (hcc : c ≤ maxLen) :
    Calls Try.prog 8 #[.slice A n c] w (DrawP0 w) := by
  have HZ := hid hz
  have HE := hid hn
  have HC := hid hcc
  clear hz hn hcc
  have pz0 := At.new w 26 #[.int .i64 0, .slice none 0 0, .slice none 0 0, .slice none 0 0]
  have hb0 := (Below.refl w.heap.size w).alloc (Nat.le_refl _) (.cells #[.int .i64 0, .slice none 0 0, .slice none 0 0, .slice none 0 0] 26)
  have h0 := h.alloc (Nat.le_refl _) (.cells #[.int .i64 0, .slice none 0 0, .slice none 0 0, .slice none 0 0] 26)
  go_enter Try.func8, Try.ntmps8
  go_wp2_with fail
  refine (newReader_any A n c zs _ (h0.more (by simp)) HZ.out HE.out hc hm HC.out).mono ?_
  rintro e w1 ⟨rfl, hb1, hr1⟩
  have hB1 := hb0.trans (hb1.mono hb0.size)
  have pz1 := pz0.below hb1 pz0.lt
  obtain ⟨g, hg⟩ : ∃ g, g = w.heap.size + 1 := ⟨_, rfl⟩
  rw [show (w.alloc (.cells #[.int .i64 0, .slice none 0 0, .slice none 0 0, .slice none 0 0] 26)).heap.size = w.heap.size + 1 by simp, ← hg] at hr1
  have hg2 := hg
  have hgl := hr1.lt
  clear hb0 hb1 pz0 h0
  go_wp2_with fail
  simp only [← hg]
  refine (anyPool_any g 0 _ hr1 (by omega)).mono ?_
  rintro e w2 ⟨A1, A2, A3, c1, c2, c3, p, q, rfl, hO, hgr, hr2, hq, hl1, hl2, hl3⟩
  have pz2 := pz1.past hgr (by omega)
  have hB2 := hB1.trans (below_of_grown hgr (B := w.heap.size) (by omega) (by omega))
  have hz2 := hgr.size
  have hwg : w.heap.size < g := by omega
  clear hr1 pz1 hB1 hgr hg hg2
  obtain ⟨hp, hgz⟩ := pool_put (.int .i64 p.mx) (.slice A1 p.idle.length c1) (.slice A2 p.held.length c2) (.slice A3 p.wait.length c3) pz2 rfl
  have hBf := below_put hB2 hgz (Nat.le_refl _) hB2.size
  have hOf := ((hO).past pz2 hgz).mono (show w.heap.size ≤ w1.heap.size by omega)
  obtain ⟨p0, p1, p2, p3, pl, pf⟩ := pz2.fourP
  go_wp2
  refine bodyPost_ret (v := .agg #[.int .i64 p.mx, .slice A1 p.idle.length c1, .slice A2 p.held.length c2, .slice A3 p.wait.length c3]) (by simp [results, Try.results8, go_sem, hp.cell]) rfl ?_
  exact ⟨A1, A2, A3, c1, c2, c3, p, rfl, hOf, hBf, hl1, hl2, hl3⟩

end Go.Proofs.Ytehdbllpiokbnab

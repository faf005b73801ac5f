/-
  What the functions answer that draw a line and a ticket: some line with small numbers, and some small number. Condition: the code is at most 2^20 bytes.
-/
import Derived.Test.YtcfijijpcafncaaLineDraw
import Derived.Deep.RegionHeld3
namespace Go.Proofs.Ytcfijijpcafncaa
open Go.RowKit

/-- Some line with small numbers, whose list is the call's own, and some number. -/
def DrawTAns (w : World) (e : Ending) (w' : World) : Prop :=
  ∃ (s n : Int) (A : Option Addr) (c : Nat) (l : List Int) (t : Int), e = .returned (.tuple #[.agg #[.int .i64 s, .int .i64 n, .slice A l.length c], .int .i64 t]) ∧ Own w' w.heap.size (.slice A l.length c) l ∧ -5000 ≤ s ∧ s ≤ 5000 ∧ -5000 ≤ n ∧ n ≤ 5000 ∧ l.length ≤ 20 ∧ Below w.heap.size w w'

set_option maxHeartbeats 400000 in
theorem drawLeaveLine_any (A : Option Addr) (n c : Nat) (zs : List Int) (w : World) (h : Sees w w.heap.size A (byts zs)) (hz : ∀ z ∈ zs, 0 ≤ z ∧ z ≤ 255) (hn : zs.length = n) (hc : n ≤ c) (hm : n ≤ 1048576) (hcc : c ≤ maxLen) :
    Calls Try.prog 23 #[.slice A n c] w (DrawTAns w) := by
  have HZ := hid hz
  have HE := hid hn
  have HC := hid hcc
  clear hz hn hcc
  go_enter Try.func23, Try.ntmps23
  go_wp2_with fail
  refine (newReader_any A n c zs _ ((h.alloc (Nat.le_refl _) _).more (by simp)) HZ.out HE.out hc hm HC.out).mono ?_
  rintro e w1 ⟨rfl, hb1, hr1⟩
  have hz1 := hb1.size
  have b0 : At w1 w.heap.size 25 #[.int .i64 0, .int .i64 0, .slice none 0 0] := (At.new _ _ _).below hb1 (by simp)
  simp only [World.size_alloc] at hr1 hz1 hb1
  go_wp2_with fail
  refine (anyLine_any (w.heap.size + 1) 0 _ hr1 (by omega)).mono ?_
  rintro e w2 ⟨s, m, A2, c2, l, q, rfl, ho, k1, k2, k3, k4, k5, hg2, hr2, hq⟩
  have b2 := b0.past hg2 (by omega)
  have hb2 : Below (w.heap.size + 1) w1 w2 := below_of_grown hg2 (Nat.le_refl _) (by omega)
  have hz2 := hb2.size
  have hgl := hr2.lt
  have hgl1 := hr1.lt
  have L2 : At (w2.alloc (.cells #[.int .i64 s, .int .i64 m, .slice A2 l.length c2] 25)) w2.heap.size 25 #[.int .i64 s, .int .i64 m, .slice A2 l.length c2] := At.new _ _ _
  have y0 : (w2.alloc (.cells #[.int .i64 s, .int .i64 m, .slice A2 l.length c2] 25)).cell? ⟨w2.heap.size, 0, none⟩ = some (.int .i64 s) := L2.cell 0
  have y1 : (w2.alloc (.cells #[.int .i64 s, .int .i64 m, .slice A2 l.length c2] 25)).cell? ⟨w2.heap.size, 1, none⟩ = some (.int .i64 m) := L2.cell 1
  have y2 : (w2.alloc (.cells #[.int .i64 s, .int .i64 m, .slice A2 l.length c2] 25)).cell? ⟨w2.heap.size, 2, none⟩ = some (.slice A2 l.length c2) := L2.cell 2
  have kf := L2.frozen
  have hr3 := hr2.alloc (.cells #[.int .i64 s, .int .i64 m, .slice A2 l.length c2] 25)
  have b3 := b2.alloc (.cells #[.int .i64 s, .int .i64 m, .slice A2 l.length c2] 25)
  have ho3 : Own (w2.alloc (.cells #[.int .i64 s, .int .i64 m, .slice A2 l.length c2] 25)) w1.heap.size (.slice A2 l.length c2) l := ho.below ((Below.refl _ _).alloc (Nat.le_refl _) _)
  have q2 : At ((w2.alloc (.cells #[.int .i64 s, .int .i64 m, .slice A2 l.length c2] 25)).alloc (.cells (ints [0, 1, 2, 3, 5, 12, -1]).toArray 3)).drew (w2.heap.size + 1) 3 (ints [0, 1, 2, 3, 5, 12, -1]).toArray := by
    have := (At.new (w2.alloc (.cells #[.int .i64 s, .int .i64 m, .slice A2 l.length c2] 25)) 3 (ints [0, 1, 2, 3, 5, 12, -1]).toArray).drew
    rwa [World.size_alloc] at this
  have hsw : ∀ y : Int, -1 ≤ y → y ≤ 12 → IntKind.i64.wrap (s + y) = s + y := fun y h1 h2 => by rw [IntKind.wrap_i64]; omega
  have HSW := hid hsw
  clear hsw
  have hq1 : w.heap.size < w1.heap.size := by omega
  have hq2 : ¬ w.heap.size = w2.heap.size := by omega
  go_wp2_with fail
  go_region_held3 (fun w' => w'.cell? ⟨w2.heap.size, 0, none⟩ = some (.int .i64 s) ∧ w'.cell? ⟨w2.heap.size, 1, none⟩ = some (.int .i64 m) ∧ w'.cell? ⟨w2.heap.size, 2, none⟩ = some (.slice A2 l.length c2))
    (first | with_reducible exact ⟨y0, y1, y2⟩ | with_reducible exact ⟨d0, d1, d2⟩ | go_keep)
    (first | (go_at_call 39; refine (one_any (w.heap.size + 1) q _ 7 _ [0, 1, 2, 3, 5, 12, -1] _ ((hr3.alloc _).drew) (by omega) q2 (by rfl) (by simp; omega) (by rfl) (by omega) (by omega)).mono ?_; rintro e w6 ⟨x2, rfl, hx2, hg6, hr6⟩; have hx2' : -1 ≤ x2 ∧ x2 ≤ 12 := (by simp at hx2; omega); have hww := HSW.out x2 hx2'.1 hx2'.2; clear hx2; have L6 := ((L2.alloc _).drew).past hg6 (by omega); have d0 := L6.cell 0; have d1 := L6.cell 1; have d2 := L6.cell 2; have b6 := ((b3.alloc _).drew).past hg6 (by omega); have e0 := b6.cell; have ef := b6.frozen))
  obtain ⟨hx2a, hx2b⟩ := hx2'
  have ho6 : Own w6 w1.heap.size (.slice A2 l.length c2) l := Own.past (show Own ((w2.alloc (.cells #[.int .i64 s, .int .i64 m, .slice A2 l.length c2] 25)).alloc (.cells (ints [0, 1, 2, 3, 5, 12, -1]).toArray 3)).drew w1.heap.size (.slice A2 l.length c2) l from (show Own ((w2.alloc (.cells #[.int .i64 s, .int .i64 m, .slice A2 l.length c2] 25)).alloc (.cells (ints [0, 1, 2, 3, 5, 12, -1]).toArray 3)) w1.heap.size (.slice A2 l.length c2) l from ho3.below ((Below.refl _ _).alloc (Nat.le_refl _) _))) hg6 (by omega)
  have hb6 : Below (w.heap.size + 1) ((w2.alloc (.cells #[.int .i64 s, .int .i64 m, .slice A2 l.length c2] 25)).alloc (.cells (ints [0, 1, 2, 3, 5, 12, -1]).toArray 3)).drew w6 := below_of_grown hg6 (Nat.le_refl _) (by simp; omega)
  clear y0 y1 y2 kf L2 L6 hr3 hr6 q2
  go_wp2
  refine bodyPost_ret (v := .tuple #[.agg #[.int .i64 s, .int .i64 m, .slice A2 l.length c2], .int .i64 (s + x2)]) (by simp [results, Try.results23, go_sem, e0]) rfl ⟨s, m, A2, c2, l, s + x2, rfl, ?_, k1, k2, k3, k4, k5, ?_⟩
  · exact (((ho6.setCell (by simpa using hq1) _).setCell (by simpa using hq1) _).setCell (by simpa using hq1) _).mono (by omega)
  · have hA : Below w.heap.size w w2 := (((Below.refl _ _).alloc (Nat.le_refl _) _).trans (hb1.mono (by omega))).trans (hb2.mono (by omega))
    have hB : Below w.heap.size w ((w2.alloc (.cells #[.int .i64 s, .int .i64 m, .slice A2 l.length c2] 25)).alloc (.cells (ints [0, 1, 2, 3, 5, 12, -1]).toArray 3)).drew := ((hA.alloc hA.size _).alloc (by simp; omega) _).drew
    exact (((hB.trans (hb6.mono (by omega))).setCell (by simp) _).setCell (by simp) _).setCell (by simp) _

end Go.Proofs.Ytcfijijpcafncaa

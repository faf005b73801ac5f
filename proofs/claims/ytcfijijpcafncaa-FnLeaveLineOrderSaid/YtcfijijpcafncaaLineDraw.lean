/-
  What the functions answer that draw a line: some line with small numbers. Condition: the code is at most 2^20 bytes.
-/
import Derived.Test.YtcfijijpcafncaaLineGenB
namespace Go.Proofs.Ytcfijijpcafncaa
open Go.RowKit

/-- Some line with small numbers, whose list is the call's own. -/
def DrawAns (w : World) (e : Ending) (w' : World) : Prop :=
  ∃ (s n : Int) (A : Option Addr) (c : Nat) (l : List Int), e = .returned (.agg #[.int .i64 s, .int .i64 n, .slice A l.length c]) ∧ Own w' w.heap.size (.slice A l.length c) l ∧ -5000 ≤ s ∧ s ≤ 5000 ∧ -5000 ≤ n ∧ n ≤ 5000 ∧ l.length ≤ 20 ∧ Below w.heap.size w w'

/-- Block L holds the line that the law has drawn; nothing that was there has changed. -/
def LS (w0 w : World) (L : Nat) (s n : Int) (A : Option Addr) (c : Nat) (l : List Int) : Prop :=
  At w L 25 #[.int .i64 s, .int .i64 n, .slice A l.length c] ∧ Own w w0.heap.size (.slice A l.length c) l ∧ Below w0.heap.size w0 w ∧ w0.heap.size ≤ L
section
variable {w0 w w' : World} {L : Nat} {s n : Int} {A : Option Addr} {c : Nat} {l : List Int}
theorem LS.start {w1 : World} (ho : Own w1 w0.heap.size (.slice A l.length c) l) (hb : Below w0.heap.size w0 w1) : LS w0 (w1.alloc (.cells #[.int .i64 s, .int .i64 n, .slice A l.length c] 25)) w1.heap.size s n A c l :=
  ⟨At.new _ _ _, ho.below ((Below.refl _ _).alloc (Nat.le_refl _) _), hb.alloc hb.size _, hb.size⟩
theorem LS.below (h : LS w0 w L s n A c l) (hb : Below w.heap.size w w') : LS w0 w' L s n A c l := by
  obtain ⟨h1, h2, h3, h4⟩ := h
  exact ⟨h1.below hb h1.lt, h2.below hb, h3.trans (hb.mono h3.size), h4⟩
theorem LS.alloc (h : LS w0 w L s n A c l) (o : Obj) : LS w0 (w.alloc o) L s n A c l := h.below ((Below.refl _ _).alloc (Nat.le_refl _) o)
theorem LS.drewN (h : LS w0 w L s n A c l) (k : Nat) : LS w0 (w.drewN k) L s n A c l := h.below (below_drewN (Below.refl _ _) k)
theorem LS.cells (h : LS w0 w L s n A c l) : w.cell? ⟨L, 0, none⟩ = some (.int .i64 s) ∧ w.cell? ⟨L, 1, none⟩ = some (.int .i64 n) ∧ w.cell? ⟨L, 2, none⟩ = some (.slice A l.length c) ∧ L < w.heap.size :=
  ⟨h.1.cell 0, h.1.cell 1, h.1.cell 2, h.1.lt⟩
theorem LS.sees (h : LS w0 w L s n A c l) : Sees w w.heap.size A (ints l) := Sees.of_own h.2.1.out
end

set_option maxHeartbeats 1000000 in
theorem drawValidLine_any (A : Option Addr) (n c : Nat) (zs : List Int) (w : World) (h : Sees w w.heap.size A (byts zs)) (hz : ∀ z ∈ zs, 0 ≤ z ∧ z ≤ 255) (hn : zs.length = n) (hc : n ≤ c) (hm : n ≤ 1048576) (hcc : c ≤ maxLen) :
    Calls Try.prog 10 #[.slice A n c] w (DrawAns w) := by
  have HZ := hid hz
  have HE := hid hn
  have HC := hid hcc
  clear hz hn hcc
  go_enter Try.func10, Try.ntmps10
  go_wp2_with fail
  refine (newReader_any A n c zs _ ((h.alloc (Nat.le_refl _) _).more (by simp)) HZ.out HE.out hc hm HC.out).mono ?_
  rintro e w1 ⟨rfl, hb1, hr1⟩
  have hz1 := hb1.size
  have b0 : At w1 w.heap.size 25 #[.int .i64 0, .int .i64 0, .slice none 0 0] := (At.new _ _ _).below hb1 (by simp)
  simp only [World.size_alloc] at hr1 hz1 hb1
  go_wp2_with fail
  refine (anyLine_any (w.heap.size + 1) 0 _ hr1 (by omega)).mono ?_
  rintro e w2 ⟨s, m, A2, c2, l, q, rfl, ho, k1, k2, k3, k4, k5, hg2, hr2, hq⟩
  have b2 := b0.past hg2 (by omega)
  have hq1 : w.heap.size < w1.heap.size := by omega
  have c0 := b2.cell
  have f0 := b2.frozen
  have hb2 : Below (w.heap.size + 1) w1 w2 := below_of_grown hg2 (Nat.le_refl _) (by omega)
  go_wp2
  refine bodyPost_ret (v := .agg #[.int .i64 s, .int .i64 m, .slice A2 l.length c2]) (by simp [results, Try.results10, go_sem, c0]) rfl ⟨s, m, A2, c2, l, rfl, ?_, k1, k2, k3, k4, k5, ?_⟩
  · exact (((ho.setCell (by simpa using hq1) _).setCell (by simpa using hq1) _).setCell (by simpa using hq1) _).mono (by omega)
  · exact (((((Below.refl _ _).alloc (Nat.le_refl _) _).trans (hb1.mono (by omega))).trans (hb2.mono (by omega))).setCell (by simp) _ |>.setCell (by simp) _).setCell (by simp) _

set_option maxHeartbeats 1000000 in
theorem drawTakeTicket_any (A : Option Addr) (n c : Nat) (zs : List Int) (w : World) (h : Sees w w.heap.size A (byts zs)) (hz : ∀ z ∈ zs, 0 ≤ z ∧ z ≤ 255) (hn : zs.length = n) (hc : n ≤ c) (hm : n ≤ 1048576) (hcc : c ≤ maxLen) :
    Calls Try.prog 13 #[.slice A n c] w (DrawAns w) := by
  have HZ := hid hz
  have HE := hid hn
  have HC := hid hcc
  clear hz hn hcc
  go_enter Try.func13, Try.ntmps13
  go_wp2_with fail
  refine (newReader_any A n c zs _ ((h.alloc (Nat.le_refl _) _).more (by simp)) HZ.out HE.out hc hm HC.out).mono ?_
  rintro e w1 ⟨rfl, hb1, hr1⟩
  have hz1 := hb1.size
  have b0 : At w1 w.heap.size 25 #[.int .i64 0, .int .i64 0, .slice none 0 0] := (At.new _ _ _).below hb1 (by simp)
  simp only [World.size_alloc] at hr1 hz1 hb1
  go_wp2_with fail
  refine (anyLine_any (w.heap.size + 1) 0 _ hr1 (by omega)).mono ?_
  rintro e w2 ⟨s, m, A2, c2, l, q, rfl, ho, k1, k2, k3, k4, k5, hg2, hr2, hq⟩
  have b2 := b0.past hg2 (by omega)
  have hq1 : w.heap.size < w1.heap.size := by omega
  have c0 := b2.cell
  have f0 := b2.frozen
  have hb2 : Below (w.heap.size + 1) w1 w2 := below_of_grown hg2 (Nat.le_refl _) (by omega)
  go_wp2
  refine bodyPost_ret (v := .agg #[.int .i64 s, .int .i64 m, .slice A2 l.length c2]) (by simp [results, Try.results13, go_sem, c0]) rfl ⟨s, m, A2, c2, l, rfl, ?_, k1, k2, k3, k4, k5, ?_⟩
  · exact (((ho.setCell (by simpa using hq1) _).setCell (by simpa using hq1) _).setCell (by simpa using hq1) _).mono (by omega)
  · exact (((((Below.refl _ _).alloc (Nat.le_refl _) _).trans (hb1.mono (by omega))).trans (hb2.mono (by omega))).setCell (by simp) _ |>.setCell (by simp) _).setCell (by simp) _

set_option maxHeartbeats 1000000 in
theorem drawWaitingTickets_any (A : Option Addr) (n c : Nat) (zs : List Int) (w : World) (h : Sees w w.heap.size A (byts zs)) (hz : ∀ z ∈ zs, 0 ≤ z ∧ z ≤ 255) (hn : zs.length = n) (hc : n ≤ c) (hm : n ≤ 1048576) (hcc : c ≤ maxLen) :
    Calls Try.prog 20 #[.slice A n c] w (DrawAns w) := by
  have HZ := hid hz
  have HE := hid hn
  have HC := hid hcc
  clear hz hn hcc
  go_enter Try.func20, Try.ntmps20
  go_wp2_with fail
  refine (newReader_any A n c zs _ ((h.alloc (Nat.le_refl _) _).more (by simp)) HZ.out HE.out hc hm HC.out).mono ?_
  rintro e w1 ⟨rfl, hb1, hr1⟩
  have hz1 := hb1.size
  have b0 : At w1 w.heap.size 25 #[.int .i64 0, .int .i64 0, .slice none 0 0] := (At.new _ _ _).below hb1 (by simp)
  simp only [World.size_alloc] at hr1 hz1 hb1
  go_wp2_with fail
  refine (anyLine_any (w.heap.size + 1) 0 _ hr1 (by omega)).mono ?_
  rintro e w2 ⟨s, m, A2, c2, l, q, rfl, ho, k1, k2, k3, k4, k5, hg2, hr2, hq⟩
  have b2 := b0.past hg2 (by omega)
  have hq1 : w.heap.size < w1.heap.size := by omega
  have c0 := b2.cell
  have f0 := b2.frozen
  have hb2 : Below (w.heap.size + 1) w1 w2 := below_of_grown hg2 (Nat.le_refl _) (by omega)
  go_wp2
  refine bodyPost_ret (v := .agg #[.int .i64 s, .int .i64 m, .slice A2 l.length c2]) (by simp [results, Try.results20, go_sem, c0]) rfl ⟨s, m, A2, c2, l, rfl, ?_, k1, k2, k3, k4, k5, ?_⟩
  · exact (((ho.setCell (by simpa using hq1) _).setCell (by simpa using hq1) _).setCell (by simpa using hq1) _).mono (by omega)
  · exact (((((Below.refl _ _).alloc (Nat.le_refl _) _).trans (hb1.mono (by omega))).trans (hb2.mono (by omega))).setCell (by simp) _ |>.setCell (by simp) _).setCell (by simp) _

set_option maxHeartbeats 1000000 in
theorem drawCallNext_any (A : Option Addr) (n c : Nat) (zs : List Int) (w : World) (h : Sees w w.heap.size A (byts zs)) (hz : ∀ z ∈ zs, 0 ≤ z ∧ z ≤ 255) (hn : zs.length = n) (hc : n ≤ c) (hm : n ≤ 1048576) (hcc : c ≤ maxLen) :
    Calls Try.prog 26 #[.slice A n c] w (DrawAns w) := by
  have HZ := hid hz
  have HE := hid hn
  have HC := hid hcc
  clear hz hn hcc
  go_enter Try.func26, Try.ntmps26
  go_wp2_with fail
  refine (newReader_any A n c zs _ ((h.alloc (Nat.le_refl _) _).more (by simp)) HZ.out HE.out hc hm HC.out).mono ?_
  rintro e w1 ⟨rfl, hb1, hr1⟩
  have hz1 := hb1.size
  have b0 : At w1 w.heap.size 25 #[.int .i64 0, .int .i64 0, .slice none 0 0] := (At.new _ _ _).below hb1 (by simp)
  simp only [World.size_alloc] at hr1 hz1 hb1
  go_wp2_with fail
  refine (anyLine_any (w.heap.size + 1) 0 _ hr1 (by omega)).mono ?_
  rintro e w2 ⟨s, m, A2, c2, l, q, rfl, ho, k1, k2, k3, k4, k5, hg2, hr2, hq⟩
  have b2 := b0.past hg2 (by omega)
  have hq1 : w.heap.size < w1.heap.size := by omega
  have c0 := b2.cell
  have f0 := b2.frozen
  have hb2 : Below (w.heap.size + 1) w1 w2 := below_of_grown hg2 (Nat.le_refl _) (by omega)
  go_wp2
  refine bodyPost_ret (v := .agg #[.int .i64 s, .int .i64 m, .slice A2 l.length c2]) (by simp [results, Try.results26, go_sem, c0]) rfl ⟨s, m, A2, c2, l, rfl, ?_, k1, k2, k3, k4, k5, ?_⟩
  · exact (((ho.setCell (by simpa using hq1) _).setCell (by simpa using hq1) _).setCell (by simpa using hq1) _).mono (by omega)
  · exact (((((Below.refl _ _).alloc (Nat.le_refl _) _).trans (hb1.mono (by omega))).trans (hb2.mono (by omega))).setCell (by simp) _ |>.setCell (by simp) _).setCell (by simp) _

end Go.Proofs.Ytcfijijpcafncaa

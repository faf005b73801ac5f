/-
  What the model's generator of ages answers, and the functions that draw the arguments of the laws on ages. Condition: the code is at most 2^20 bytes.
-/
import Derived.Test.YtlonmmkioaejmaaDraws
import Derived.Test.YtlonmmkioaejmaaSsAge
namespace Go.Proofs.Ytlonmmkioaejmaa
open Go.RowKit Age

abbrev GA (w0 wr : World) (g q : Nat) (v : Value) (l : List Ag) : Prop := GLs 46 2 acells w0 wr g q v l
abbrev DA (w w' : World) (A : Option Addr) (c : Nat) (l : List Ag) : Prop := DLs 46 2 acells 7 w w' A c l
set_option maxHeartbeats 1000000 in
theorem someSpan_any (g p : Nat) (w : World) (h : Rd w g p) (hp : p < 100000) :
    Calls Try.prog 39 #[.pointer (some ⟨g, 0, none⟩)] w (OneAns [50, 20, 100, 10, 1, 1000, 0, 1001] w g p) := by
  have hg := h.lt
  go_enter Try.func39, Try.ntmps39
  go_wp2_with fail
  refine (one_any g p _ 8 _ [50, 20, 100, 10, 1, 1000, 0, 1001] _ (h.alloc _) hp (At.new w 3 _) (by rfl) (by omega) (by rfl) (by omega) (by omega)).mono ?_
  rintro e w1 ⟨x, rfl, hx, hg1, hr1⟩
  go_wp2
  go_ret
  exact ⟨_, rfl, hx, grown_trans (grown_of_below ((Below.refl _ _).alloc (Nat.le_refl _) _) _) hg1, hr1⟩

theorem own_block' {w : World} {base : Nat} {t : TypeId} {s n : Nat} {v : Value} {xs : List Value} (h : w.ownsRow base t s v n xs) (hn : 0 < n) : ∃ g c, v = .slice (some ⟨g, 0, none⟩) n c ∧ n ≤ c ∧ c ≤ maxLen := by
  rcases h.2 with ⟨_, e⟩ | ⟨g, cap, cur, e, _, _, h1, h2, _⟩
  · omega
  · exact ⟨g, cap, e, h1, h2⟩
theorem put_two {w0 wr : World} {g q gg n c i j : Nat} {u u' : Value} {l l' : List Ag} (h : GA w0 wr g q (.slice (some ⟨gg, 0, none⟩) n c) l) (h' : ((wr.setCell ⟨gg, i, none⟩ u).setCell ⟨gg, j, none⟩ u').ownsRow w0.heap.size 46 2 (.slice (some ⟨gg, 0, none⟩) n c) l'.length (strip acells l')) : GA w0 ((wr.setCell ⟨gg, i, none⟩ u).setCell ⟨gg, j, none⟩ u') g q (.slice (some ⟨gg, 0, none⟩) n c) l' := by
  obtain ⟨h1, h2, h3, h4⟩ := h
  have hgg : w0.heap.size ≤ gg := (h1.lt gg rfl).1
  refine ⟨h', (h2.far (by simp; omega) u).far (by simp; omega) u', ?_, h4⟩
  exact ⟨h3.os, h3.tape, h3.output, by simpa [World.setCell] using h3.size, fun k hk hn => ((Below.heap_setCell _ ⟨gg, j, none⟩ u' k (by simp; omega)).trans (Below.heap_setCell wr ⟨gg, i, none⟩ u k (by simp; omega))).trans (h3.block k hk hn)⟩

def Pair0 (w : World) (e : Ending) (w' : World) : Prop := ∃ i j : Int, e = .returned (.tuple #[.int .i64 i, .int .i64 j]) ∧ Below w.heap.size w w'
def AgD0 (w : World) (e : Ending) (w' : World) : Prop := ∃ A c l, e = .returned (.slice A (List.length l) c) ∧ DA w w' A c l
def AgD2 (w : World) (e : Ending) (w' : World) : Prop := ∃ A c l, ∃ i j : Int, e = .returned (.tuple #[.slice A (List.length l) c, .int .i64 i, .int .i64 j]) ∧ DA w w' A c l
def AgD3 (w : World) (e : Ending) (w' : World) : Prop := ∃ A c l, ∃ i j k : Int, e = .returned (.tuple #[.slice A (List.length l) c, .int .i64 i, .int .i64 j, .int .i64 k]) ∧ DA w w' A c l ∧ 0 ≤ i ∧ i ≤ 1001 ∧ 0 ≤ j ∧ 0 ≤ k
set_option maxHeartbeats 1000000 in
theorem drawLifeOf_any (A : Option Addr) (n c : Nat) (zs : List Int) (w : World) (h : Sees w w.heap.size A (byts zs)) (hz : ∀ z ∈ zs, 0 ≤ z ∧ z ≤ 255) (hn : zs.length = n) (hc : n ≤ c) (hm : n ≤ 1048576) (hcc : c ≤ maxLen) :
    Calls Try.prog 27 #[.slice A n c] w (Pair0 w) := by
  have HZ := hid hz
  have HE := hid hn
  have HC := hid hcc
  clear hz hn hcc
  go_enter Try.func27, Try.ntmps27
  go_wp2_with fail
  refine (newReader_any A n c zs _ h HZ.out HE.out hc hm HC.out).mono ?_
  rintro e w1 ⟨rfl, hb1, hr1⟩
  have gl : GA w1 w1 w.heap.size 0 (.slice none 0 0) [] := ⟨OwnS.none_ _ _, hr1, grown_refl _ _, hr1.lt⟩
  go_wp2_with fail
  refine (pick_any w.heap.size 0 8 _ gl.rd (by omega)).mono ?_
  rintro e w3 ⟨x, rfl, lx, ux, hg3, hr3⟩
  have gl3 := gl.pick hg3 hr3
  have bx := ux (by omega)
  clear hg3 hr3 gl ux
  go_wp2_with fail
  refine (someSpan_any w.heap.size (0 + 1) _ gl3.rd (by omega)).mono ?_
  rintro e w4 ⟨y, rfl, my, hg4, hr4⟩
  have gl4 := gl3.pick hg4 hr4
  clear hg4 hr4 gl3
  go_wp2_with fail
  refine (pick_any w.heap.size (0 + 1 + 1) 250 _ gl4.rd (by omega)).mono ?_
  rintro e w5 ⟨z, rfl, lz, uz, hg5, hr5⟩
  have gl5 := gl4.pick hg5 hr5
  have bz := uz (by omega)
  clear hg5 hr5 gl4 uz
  obtain ⟨_, z2, z3⟩ := gl5.lt
  go_wp2_with fail
  refine (one_any w.heap.size (0 + 1 + 1 + 1) _ 2 _ [y, 1 + z] _ (gl5.alloc _).rd (by omega) (At.new _ 3 _) (by rfl) (by omega) (by rfl) (by omega) (by omega)).mono ?_
  rintro e w6 ⟨v, rfl, mv, hg6, hr6⟩
  have gl6 := (gl5.alloc _).pick hg6 hr6
  clear hg6 hr6 gl5
  clear mv
  go_wp2
  go_ret2
  exact ⟨x - 1, v, rfl, (DLs.of_gl (m := 7) hb1 gl6 (Nat.le_refl _) (by simp)).bel⟩

end Go.Proofs.Ytlonmmkioaejmaa

/-
  What the functions answer that draw the arguments of the laws on hosts. Condition: the code is at most 2^20 bytes.
-/
import Derived.Test.YtbgpdpmijlhkkabHoGen
namespace Go.Proofs.Ytbgpdpmijlhkkab
open Go.RowKit Hos

def HoD0 (w : World) (e : Ending) (w' : World) : Prop := ∃ A c l, e = .returned (.slice A (List.length l) c) ∧ DH w w' A c l
def HoD1 (w : World) (e : Ending) (w' : World) : Prop := ∃ A c l, ∃ i : Int, e = .returned (.tuple #[.slice A (List.length l) c, .int .i64 i]) ∧ DH w w' A c l ∧ -1 ≤ i ∧ i ≤ 1001
def HoD2 (w : World) (e : Ending) (w' : World) : Prop := ∃ A c l, ∃ i j : Int, e = .returned (.tuple #[.slice A (List.length l) c, .int .i64 i, .int .i64 j]) ∧ DH w w' A c l ∧ -1 ≤ i ∧ i ≤ 5 ∧ -3 ≤ j ∧ j ≤ 101
set_option maxHeartbeats 1000000 in
theorem drawRouteRead_any (A : Option Addr) (n c : Nat) (zs : List Int) (w : World) (h : Sees w w.heap.size A (byts zs)) (hz : ∀ z ∈ zs, 0 ≤ z ∧ z ≤ 255) (hn : zs.length = n) (hc : n ≤ c) (hm : n ≤ 1048576) (hcc : c ≤ maxLen) :
    Calls Try.prog 10 #[.slice A n c] w (HoD1 w) := by
  have HZ := hid hz
  have HE := hid hn
  have HC := hid hcc
  clear hz hn hcc
  go_enter Try.func10, Try.ntmps10
  go_wp2_with fail
  refine (newReader_any A n c zs _ h HZ.out HE.out hc hm HC.out).mono ?_
  rintro e w1 ⟨rfl, hb1, hr1⟩
  go_wp2_with fail
  refine (anyHosts_any w.heap.size 0 _ hr1 (by omega)).mono ?_
  rintro e w2 ⟨A2, c2, l, q, rfl, gl, hl, hq⟩
  obtain ⟨_, z2, z3⟩ := gl.lt
  go_wp2_with fail
  refine (one_any w.heap.size (q) _ 7 _ [0, 5, 7, 10, 1000, 1001, -1] _ (gl.alloc _).rd (by omega) (At.new _ 3 _) (by rfl) (by omega) (by rfl) (by omega) (by omega)).mono ?_
  rintro e w3 ⟨x3, rfl, mx, hg3, hr3⟩
  replace gl := (gl.alloc _).pick hg3 hr3
  have hx3 : -1 ≤ x3 ∧ x3 ≤ 1001 := by simp at mx; omega
  clear hg3 hr3 mx
  go_wp2
  go_ret2
  exact ⟨A2, c2, l, x3, rfl, DLs.of_gl hb1 gl (Nat.le_refl _) hl, hx3.1, hx3.2⟩

set_option maxHeartbeats 1000000 in
theorem drawAddLoad_any (A : Option Addr) (n c : Nat) (zs : List Int) (w : World) (h : Sees w w.heap.size A (byts zs)) (hz : ∀ z ∈ zs, 0 ≤ z ∧ z ≤ 255) (hn : zs.length = n) (hc : n ≤ c) (hm : n ≤ 1048576) (hcc : c ≤ maxLen) :
    Calls Try.prog 14 #[.slice A n c] w (HoD2 w) := by
  have HZ := hid hz
  have HE := hid hn
  have HC := hid hcc
  clear hz hn hcc
  go_enter Try.func14, Try.ntmps14
  go_wp2_with fail
  refine (newReader_any A n c zs _ h HZ.out HE.out hc hm HC.out).mono ?_
  rintro e w1 ⟨rfl, hb1, hr1⟩
  go_wp2_with fail
  refine (anyHosts_any w.heap.size 0 _ hr1 (by omega)).mono ?_
  rintro e w2 ⟨A2, c2, l, q, rfl, gl, hl, hq⟩
  obtain ⟨_, z2, z3⟩ := gl.lt
  go_wp2_with fail
  refine (one_any w.heap.size (q) _ 5 _ [0, 1, 2, 5, -1] _ (gl.alloc _).rd (by omega) (At.new _ 3 _) (by rfl) (by omega) (by rfl) (by omega) (by omega)).mono ?_
  rintro e w3 ⟨x3, rfl, mx, hg3, hr3⟩
  replace gl := (gl.alloc _).pick hg3 hr3
  have hx3 : -1 ≤ x3 ∧ x3 ≤ 5 := by simp at mx; omega
  clear hg3 hr3 mx
  obtain ⟨_, z2, z3⟩ := gl.lt
  go_wp2_with fail
  refine (one_any w.heap.size (q + 1) _ 7 _ [1, -1, 0, 50, 100, 101, -3] _ (gl.alloc _).rd (by omega) (At.new _ 3 _) (by rfl) (by omega) (by rfl) (by omega) (by omega)).mono ?_
  rintro e w4 ⟨x4, rfl, mx, hg3, hr3⟩
  replace gl := (gl.alloc _).pick hg3 hr3
  have hx4 : -3 ≤ x4 ∧ x4 ≤ 101 := by simp at mx; omega
  clear hg3 hr3 mx
  go_wp2
  go_ret3
  exact ⟨A2, c2, l, x3, x4, rfl, DLs.of_gl hb1 gl (Nat.le_refl _) hl, hx3.1, hx3.2, hx4.1, hx4.2⟩

end Go.Proofs.Ytbgpdpmijlhkkab

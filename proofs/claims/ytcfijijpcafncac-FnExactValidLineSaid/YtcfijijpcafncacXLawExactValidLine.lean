/-
  The walk of the exact law FnExactValidLine: at every argument it returns true and changes nothing that was there. Conditions: none.
-/
import Derived.Test.YtcfijijpcafncacExC
import Derived.Deep.RegionHeld3
namespace Go.Proofs.Ytcfijijpcafncac
open Go.RowKit

set_option maxHeartbeats 2000000 in
theorem walkExactValidLine (A : Option Addr) (c : Nat) (s n : Int) (xs : List Int) (w : World) (hm : xs.length ≤ maxLen) (h : Sees w w.heap.size A (ints xs)) :
    Calls Try.prog 3 #[.agg #[.int .i64 s, .int .i64 n, .slice A xs.length c]] w fun e w' => e = .returned (.bool true) ∧ Below w.heap.size w w' := by
  have HM := hid hm
  clear hm
  by_cases hbig : 1048576 < xs.length
  · have E : Hid ((if 1048576 < xs.length then (-1 : Int) else 1048576 - xs.length) = -1) := hid (if_pos hbig)
    go_enter Try.func3, Try.ntmps3
    go_wp2_with fail
    refine (szLine_any A xs.length c s n _ HM.out).mono ?_
    rintro e w1 ⟨he, hb1⟩
    rw [E.out] at he
    subst he
    have ex1 := (EX.start (s := s) (n := n) (c := c) h).below hb1
    go_wp2
    go_ret
    exact ⟨rfl, ex1.bel⟩
  · have E : Hid ((if 1048576 < xs.length then (-1 : Int) else 1048576 - xs.length) = 1048576 - xs.length) := hid (if_neg hbig)
    have HN := hid (show xs.length ≤ 4194304 by omega)
    have hle : ¬ (1048576 : Int) - (xs.length : Int) < 0 := by omega
    go_enter Try.func3, Try.ntmps3
    go_wp2_with fail
    refine (szLine_any A xs.length c s n _ HM.out).mono ?_
    rintro e w1 ⟨he, hb1⟩
    rw [E.out] at he
    subst he
    have ex1 := (EX.start (s := s) (n := n) (c := c) h).below hb1
    clear hb1
    obtain ⟨c0, c1, c2, cl⟩ := ex1.cells
    go_wp2_with fail
    refine (toLine_any A c s n xs _ ex1.sees HN.out).mono ?_
    rintro e w2 ⟨v2, rfl, ho2, hb2⟩
    obtain ⟨A2, cc2, rfl, _⟩ := ho2.form
    have ex2 := ex1.below hb2
    clear c0 c1 c2 cl
    obtain ⟨c0, c1, c2, cl⟩ := ex2.cells
    go_wp2_with fail
    refine (sValidLine_any _ _ _ _ _ _ (Sees.of_own ho2.out) (Nat.le_trans HN.out (by decide))).mono ?_
    rintro e w3 ⟨rfl, hb3⟩
    have ex3 := ex2.below hb3
    clear c0 c1 c2 cl
    obtain ⟨c0, c1, c2, cl⟩ := ex3.cells
    go_wp2_with fail
    refine (toLine_any A c s n xs _ ex3.sees HN.out).mono ?_
    rintro e w4 ⟨v4, rfl, ho4, hb4⟩
    obtain ⟨A4, cc4, rfl, _⟩ := ho4.form
    have ex4 := (ex3.below hb4).alloc (.cells #[.int .i64 s, .int .i64 n, .slice A4 xs.length cc4] 27)
    have lx4 := XL.start (s := s) (n := n) ho4
    clear c0 c1 c2 cl hb2 hb3 hb4 ho2 ho4
    go_wp2_with fail
    refine (iValidLine_any _ _ _ _ _ _ lx4.sees (Nat.le_trans HN.out (by decide))).mono ?_
    rintro e w5 ⟨rfl, hb5⟩
    have ex5 := ex4.below hb5
    have lx5 := lx4.below hb5
    have exd := ex5.drew
    have lxd := lx5.drew
    clear hb5
    obtain ⟨y0, y1, y2, yl⟩ := ex5.cells
    obtain ⟨x0, x1, x2, xl⟩ := lx5.cells
    go_wp2_with fail
    go_region_held3 (fun w' => w'.cell? ⟨w.heap.size, 0, none⟩ = some (.int .i64 s) ∧ w'.cell? ⟨w.heap.size, 1, none⟩ = some (.int .i64 n) ∧ w'.cell? ⟨w.heap.size, 2, none⟩ = some (.slice A xs.length c) ∧ w'.cell? ⟨w4.heap.size, 0, none⟩ = some (.int .i64 s) ∧ w'.cell? ⟨w4.heap.size, 1, none⟩ = some (.int .i64 n) ∧ w'.cell? ⟨w4.heap.size, 2, none⟩ = some (.slice A4 xs.length cc4))
      (first | with_reducible exact ⟨y0, y1, y2, x0, x1, x2⟩ | with_reducible exact ⟨a0, a1, a2, a3, a4, a5⟩ | with_reducible exact ⟨b0, b1, b2, b3, b4, b5⟩ | go_keep)
      (first
        | (go_at_call 11; (with_reducible refine (toLine_any A c s n xs _ exd.sees HN.out).mono ?_); rintro e w6 ⟨v6, rfl, ho6, hb6⟩; obtain ⟨A6, cc6, rfl, _⟩ := ho6.form; have ex6 := exd.below hb6; have lx6 := lxd.below hb6; obtain ⟨a0, a1, a2, al⟩ := ex6.cells; obtain ⟨a3, a4, a5, am⟩ := lx6.cells)
        | (go_at_call 13; (with_reducible refine (eqLine_same A4 A6 cc4 cc6 s n xs _ lx6.sees (Sees.of_own ho6.out) HN.out).mono ?_); rintro e w7 ⟨rfl, hb7⟩; have ex7 := ex6.below hb7; have lx7 := lx6.below hb7; obtain ⟨b0, b1, b2, bl⟩ := ex7.cells; obtain ⟨b3, b4, b5, bm⟩ := lx7.cells))
    all_goals
      go_wp2
      go_ret
      exact ⟨rfl, ex7.bel⟩
end Go.Proofs.Ytcfijijpcafncac

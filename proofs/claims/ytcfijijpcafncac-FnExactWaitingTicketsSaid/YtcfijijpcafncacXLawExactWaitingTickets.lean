/-
  The walk of the exact law FnExactWaitingTickets: at every argument it returns true and changes nothing that was there. Conditions: none.
-/
import Derived.Test.YtcfijijpcafncacExC
import Derived.Test.YtcfijijpcafncacExE
import Derived.Test.YtcfijijpcafncacLineD
import Derived.Test.YtcfijijpcafncacLineE
import Derived.Deep.RegionHeld3
namespace Go.Proofs.Ytcfijijpcafncac
open Go.RowKit

theorem eqIntS_same (A B : Option Addr) (c d : Nat) (xs : List Int) (w : World) (h : Sees w w.heap.size A (ints xs)) (h' : Sees w w.heap.size B (ints xs)) (hn : xs.length ≤ 4194304) :
    Calls Try.prog 20 #[.slice A xs.length c, .slice B xs.length d] w fun e w' => e = .returned (.bool true) ∧ Below w.heap.size w w' := by
  have := eqIntS_any A B c d xs xs w h h' (Nat.le_trans hn (by decide))
  rwa [eqB_iff.2 rfl] at this

set_option maxHeartbeats 2000000 in
theorem walkExactWaitingTickets (A : Option Addr) (c : Nat) (s n : Int) (xs : List Int) (w : World) (hm : xs.length ≤ maxLen) (h : Sees w w.heap.size A (ints xs)) :
    Calls Try.prog 5 #[.agg #[.int .i64 s, .int .i64 n, .slice A xs.length c]] w fun e w' => e = .returned (.bool true) ∧ Below w.heap.size w w' := by
  have HM := hid hm
  clear hm
  by_cases hbig : 1048576 < xs.length
  · have E : Hid ((if 1048576 < xs.length then (-1 : Int) else 1048576 - xs.length) = -1) := hid (if_pos hbig)
    go_enter Try.func5, Try.ntmps5
    go_wp2_with fail
    refine (szLine_any A xs.length c s n _ HM.out).mono ?_
    rintro e w1 ⟨he, hb1⟩
    rw [E.out] at he
    subst he
    have ex1 := (EX.start (s := s) (n := n) (c := c) h).below hb1
    go_wp2
    go_ret
    exact ⟨rfl, ex1.bel⟩
  · have E : Hid ((if 1048576 < xs.length then (-1 : Int) else 1048576 - xs.length) = 1048576 - xs.length) := hid (if_neg hbig)
    have HN := hid (show xs.length ≤ 4194304 by omega)
    have hle : ¬ (1048576 : Int) - (xs.length : Int) < 0 := by omega
    go_enter Try.func5, Try.ntmps5
    go_wp2_with fail
    refine (szLine_any A xs.length c s n _ HM.out).mono ?_
    rintro e w1 ⟨he, hb1⟩
    rw [E.out] at he
    subst he
    have ex1 := (EX.start (s := s) (n := n) (c := c) h).below hb1
    clear hb1
    obtain ⟨c0, c1, c2, cl⟩ := ex1.cells
    go_wp2_with fail
    refine (toLine_any A c s n xs _ ex1.sees HN.out).mono ?_
    rintro e w2 ⟨v2, rfl, ho2, hb2⟩
    obtain ⟨A2, cc2, rfl, _⟩ := ho2.form
    have ex2 := ex1.below hb2
    clear c0 c1 c2 cl
    obtain ⟨L, hL⟩ : ∃ y, y = Line.waitV s n xs := ⟨_, rfl⟩
    have HLL : Hid (Line.waitV s n xs = L) := hid hL.symm
    have HLn : Hid (L.length ≤ 4194304) := hid (by rw [hL]; have := waitV_len s n xs; omega)
    clear hL
    obtain ⟨c0, c1, c2, cl⟩ := ex2.cells
    go_wp2_with fail
    refine (sWaitingTickets_any _ _ _ _ _ _ (Sees.of_own ho2.out) HN.out).mono ?_
    rintro e w3 ⟨v3, rfl, ho3, hb3⟩
    rw [HLL.out] at ho3
    obtain ⟨A3, cc3, rfl, _⟩ := ho3.form
    have ex3 := ex2.below hb3
    have huw : ∀ k, (Value.slice A3 L.length cc3).ownBlock = some k → k < w3.heap.size := fun k hk => (ho3.out.lt k hk).2
    have hz3 := hb3.size
    clear c0 c1 c2 cl hb2 hb3 ho2
    obtain ⟨c0, c1, c2, cl⟩ := ex3.cells
    go_wp2_with fail
    refine (toLine_any A c s n xs _ ex3.sees HN.out).mono ?_
    rintro e w4 ⟨v4, rfl, ho4, hb4⟩
    obtain ⟨A4, cc4, rfl, _⟩ := ho4.form
    have ex4 := (ex3.below hb4).alloc (.cells #[.int .i64 s, .int .i64 n, .slice A4 xs.length cc4] 27)
    have hw4 := (ho3.below hb4).below ((Below.refl _ _).alloc (Nat.le_refl _) (.cells #[.int .i64 s, .int .i64 n, .slice A4 xs.length cc4] 27))
    have lx4 := XL.start (s := s) (n := n) ho4
    have hux : ∀ k, (Value.slice A4 xs.length cc4).ownBlock = some k → k < w4.heap.size := fun k hk => (ho4.out.lt k hk).2
    have hz4 := hb4.size
    clear c0 c1 c2 cl hb4 ho4 ho3
    obtain ⟨c0, c1, c2, cl⟩ := lx4.cells
    go_wp2_with fail
    refine (iWaitingTickets_any _ _ _ _ _ _ lx4.sees HN.out).mono ?_
    rintro e w5 ⟨v5, rfl, ho5, hb5⟩
    rw [HLL.out] at ho5
    obtain ⟨A5, cc5, rfl, _⟩ := ho5.form
    have ex5 := ex4.below hb5
    have hw5 := hw4.below hb5
    have lx5 := lx4.below hb5
    have hz5 := hb5.size
    clear c0 c1 c2 cl hb5
    go_wp2_with fail
    refine (eqIntS_same A5 A3 cc5 cc3 L _ (Sees.of_own ho5.out) (Sees.of_own hw5.out) HLn.out).mono ?_
    rintro e w6 ⟨rfl, hb6⟩
    have ex6 := ex5.below hb6
    have hw6 := hw5.below hb6
    have lx6 := lx5.below hb6
    have hg6 := ho5.below hb6
    have exd := ex6.drew
    have lxd := lx6.drew
    have hwd := hw6.below ((Below.refl _ _).drew)
    have hgd := hg6.below ((Below.refl _ _).drew)
    clear hb6 ho5
    obtain ⟨y0, y1, y2, yl⟩ := ex6.cells
    obtain ⟨x0, x1, x2, xl⟩ := lx6.cells
    go_wp2_with fail
    go_region_held3 (fun w' => w'.cell? ⟨w.heap.size, 0, none⟩ = some (.int .i64 s) ∧ w'.cell? ⟨w.heap.size, 1, none⟩ = some (.int .i64 n) ∧ w'.cell? ⟨w.heap.size, 2, none⟩ = some (.slice A xs.length c) ∧ w'.cell? ⟨w4.heap.size, 0, none⟩ = some (.int .i64 s) ∧ w'.cell? ⟨w4.heap.size, 1, none⟩ = some (.int .i64 n) ∧ w'.cell? ⟨w4.heap.size, 2, none⟩ = some (.slice A4 xs.length cc4))
      (first | with_reducible exact ⟨y0, y1, y2, x0, x1, x2⟩ | with_reducible exact ⟨a0, a1, a2, a3, a4, a5⟩ | with_reducible exact ⟨b0, b1, b2, b3, b4, b5⟩ | go_keep)
      (first
        | (go_at_call 11; (with_reducible refine (toLine_any A c s n xs _ exd.sees HN.out).mono ?_); rintro e w7 ⟨v7, rfl, ho7, hb7⟩; obtain ⟨A7, cc7, rfl, _⟩ := ho7.form; have ex7 := exd.below hb7; have lx7 := lxd.below hb7; have hw7 := hwd.below hb7; have hg7 := hgd.below hb7; obtain ⟨a0, a1, a2, al⟩ := ex7.cells; obtain ⟨a3, a4, a5, am⟩ := lx7.cells)
        | (go_at_call 13; (with_reducible refine (eqLine_same A4 A7 cc4 cc7 s n xs _ lx7.sees (Sees.of_own ho7.out) HN.out).mono ?_); rintro e w8 ⟨rfl, hb8⟩; have ex8 := ex7.below hb8; have lx8 := lx7.below hb8; have hw8 := hw7.below hb8; have hg8 := hg7.below hb8; obtain ⟨b0, b1, b2, bl⟩ := ex8.cells; obtain ⟨b3, b4, b5, bm⟩ := lx8.cells))
    clear y0 y1 y2 yl x0 x1 x2 xl a0 a1 a2 al a3 a4 a5 am b0 b1 b2 bl hb7 hb8 ho7 ex3 ex4 ex5 ex6 ex7 exd hw4 hw5 hw6 hw7 hwd lx4 lx5 lx6 lx7 lxd hg6 hg7 hgd
    have hk1 : ¬ (1 : Int) + (xs.length : Int) < 0 := by omega
    have hk2 : ¬ (1 : Int) + (L.length : Int) < 0 := by omega
    have hzw : w.heap.size ≤ w3.heap.size := by have := ex2.size; omega
    go_wp2_with fail
    refine (markLine_any _ A4 cc4 s n xs _ lx8.2 HN.out).mono ?_
    rintro e w9 ⟨rfl, _, hr9⟩
    have ex9 := ex8.mark lx8.2 (by omega) hr9
    have hw9 := hw8.kept' hr9 (apart (M := w3.heap.size) huw (fun k hk => (lx8.2.out.lt k hk).1))
    have hg9 := hg8.kept' hr9 (apart' (M := w4.heap.size + 1) (fun k hk => by have := hux k hk; omega) (fun k hk => by have := (hg8.out.lt k hk).1; simpa only [World.size_alloc] using this))
    clear b3 b4 b5 bm hr9 ex8 hw8 hg8
    go_wp2_with fail
    refine (eqIntS_same A5 A3 cc5 cc3 L _ (Sees.of_own hg9.out) (Sees.of_own hw9.out) HLn.out).mono ?_
    rintro e w10 ⟨rfl, hb10⟩
    have ex10 := ex9.below hb10
    have hw10 := hw9.below hb10
    have hg10 := hg9.below hb10
    clear hb10 ex9 hw9 hg9 lx8
    go_wp2_with fail
    refine (markIntS_any _ A5 cc5 L _ hg10 HLn.out).mono ?_
    rintro e w11 ⟨rfl, ho11, hr11⟩
    have ex11 := ex10.mark hg10 (by simp only [World.size_alloc]; omega) hr11
    have hw11 := hw10.kept' hr11 (apart (M := w3.heap.size) huw (fun k hk => by have := (hg10.out.lt k hk).1; simp only [World.size_alloc] at this; omega))
    clear hr11 ex10 hw10 hg10
    go_wp2_with fail
    refine (heldIntS_any A5 L.length cc5 _ (sees_marks ho11) HLn.out).mono ?_
    rintro e w12 ⟨rfl, rfl⟩
    obtain ⟨c0, c1, c2, cl⟩ := ex11.cells
    go_wp2_with fail
    refine (toLine_any A c s n xs _ ex11.sees HN.out).mono ?_
    rintro e w13 ⟨v13, rfl, ho13, hb13⟩
    obtain ⟨A13, cc13, rfl, _⟩ := ho13.form
    have ex13 := ex11.below hb13
    have hw13 := hw11.below hb13
    have ho13m := ho11.below hb13
    clear c0 c1 c2 cl hb13 ex11 hw11 ho11
    go_wp2_with fail
    refine (iWaitingTickets_any _ _ _ _ _ _ (Sees.of_own ho13.out) HN.out).mono ?_
    rintro e w14 ⟨v14, rfl, ho14, hb14⟩
    rw [HLL.out] at ho14
    obtain ⟨A14, cc14, rfl, _⟩ := ho14.form
    have ex14 := ex13.below hb14
    have hw14 := hw13.below hb14
    have ho14m := ho13m.below hb14
    clear hb14 ho13 ex13 hw13 ho13m
    go_wp2_with fail
    refine (eqIntS_same A14 A3 cc14 cc3 L _ (Sees.of_own ho14.out) (Sees.of_own hw14.out) HLn.out).mono ?_
    rintro e w15 ⟨rfl, hb15⟩
    have ex15 := ex14.below hb15
    have ho15 := ho14m.below hb15
    clear hb15 ex14 hw14 ho14 ho14m
    go_wp2_with fail
    refine (heldIntS_any A5 L.length cc5 _ (sees_marks ho15) HLn.out).mono ?_
    rintro e w16 ⟨rfl, rfl⟩
    go_wp2
    go_ret
    exact ⟨rfl, ex15.bel⟩
end Go.Proofs.Ytcfijijpcafncac

/-
  The walk of the exact law FnExactLeaveLine: at every argument it returns true and changes nothing that was there. Conditions: none.
-/
import Derived.Test.YtcfijijpcafncacExC
import Derived.Test.YtcfijijpcafncacExE
import Derived.Test.YtcfijijpcafncacLineH
import Derived.Test.YtcfijijpcafncacLineI
import Derived.Deep.RegionHeld3
namespace Go.Proofs.Ytcfijijpcafncac
open Go.RowKit

set_option maxHeartbeats 2000000 in
theorem walkExactLeaveLine (A : Option Addr) (c : Nat) (s n t : Int) (xs : List Int) (w : World) (hm : xs.length ≤ maxLen) (h : Sees w w.heap.size A (ints xs)) :
    Calls Try.prog 6 #[.agg #[.int .i64 s, .int .i64 n, .slice A xs.length c], .int .i64 t] w fun e w' => e = .returned (.bool true) ∧ Below w.heap.size w w' := by
  have HM := hid hm
  clear hm
  by_cases hbig : 1048576 < xs.length
  · have E : Hid ((if 1048576 < xs.length then (-1 : Int) else 1048576 - xs.length) = -1) := hid (if_pos hbig)
    go_enter Try.func6, Try.ntmps6
    go_wp2_with fail
    refine (szLine_any A xs.length c s n _ HM.out).mono ?_
    rintro e w1 ⟨he, hb1⟩
    rw [E.out] at he
    subst he
    have ex1 := (EX.start (s := s) (n := n) (c := c) h).below hb1
    go_wp2
    go_ret
    exact ⟨rfl, ex1.bel⟩
  · have E : Hid ((if 1048576 < xs.length then (-1 : Int) else 1048576 - xs.length) = 1048576 - xs.length) := hid (if_neg hbig)
    have HN := hid (show xs.length ≤ 4194304 by omega)
    have hle : ¬ (1048576 : Int) - (xs.length : Int) < 0 := by omega
    go_enter Try.func6, Try.ntmps6
    go_wp2_with fail
    refine (szLine_any A xs.length c s n _ HM.out).mono ?_
    rintro e w1 ⟨he, hb1⟩
    rw [E.out] at he
    subst he
    have ex1 := (EX.start (s := s) (n := n) (c := c) h).below hb1
    clear hb1
    obtain ⟨c0, c1, c2, cl⟩ := ex1.cells
    go_wp2_with fail
    refine (toLine_any A c s n xs _ ex1.sees HN.out).mono ?_
    rintro e w2 ⟨v2, rfl, ho2, hb2⟩
    obtain ⟨A2, cc2, rfl, _⟩ := ho2.form
    have ex2 := ex1.below hb2
    clear c0 c1 c2 cl
    obtain ⟨S, hS⟩ : ∃ y, y = leS s n t xs := ⟨_, rfl⟩
    obtain ⟨N, hN⟩ : ∃ y, y = leN s n t xs := ⟨_, rfl⟩
    obtain ⟨L, hL⟩ : ∃ y, y = leL s n t xs := ⟨_, rfl⟩
    obtain ⟨K, hK⟩ : ∃ y, y = Line.leaveB s n xs t := ⟨_, rfl⟩
    have HS : Hid (leS s n t xs = S) := hid hS.symm
    have HNN : Hid (leN s n t xs = N) := hid hN.symm
    have HLL : Hid (leL s n t xs = L) := hid hL.symm
    have HK : Hid (Line.leaveB s n xs t = K) := hid hK.symm
    have HLn : Hid (L.length ≤ 4194304) := hid (by rw [hL]; exact le_len)
    clear hS hN hL hK 
    obtain ⟨c0, c1, c2, cl⟩ := ex2.cells
    go_wp2_with fail
    refine (sLeaveLine_any _ _ _ _ _ _ _ (Sees.of_own ho2.out) HN.out).mono ?_
    rintro e w3 ⟨hans, hb3⟩
    obtain ⟨A3, cc3, he, ho3⟩ := leaveUni hans
    rw [HS.out, HNN.out, HLL.out, HK.out] at he
    rw [HLL.out] at ho3
    subst he
    clear hans
    have ex3 := (ex2.below hb3).alloc (.cells #[.int .i64 S, .int .i64 N, .slice A3 L.length cc3] 27)
    have xw3 := XL.start (s := S) (n := N) ho3
    have huw : ∀ k, (Value.slice A3 L.length cc3).ownBlock = some k → k < w3.heap.size := fun k hk => (ho3.out.lt k hk).2
    have hz3 := hb3.size
    clear c0 c1 c2 cl hb2 hb3 ho2 ho3
    obtain ⟨c0, c1, c2, cl⟩ := ex3.cells
    go_wp2_with fail
    refine (toLine_any A c s n xs _ ex3.sees HN.out).mono ?_
    rintro e w4 ⟨v4, rfl, ho4, hb4⟩
    obtain ⟨A4, cc4, rfl, _⟩ := ho4.form
    have ex4 := (ex3.below hb4).alloc (.cells #[.int .i64 s, .int .i64 n, .slice A4 xs.length cc4] 27)
    have xw4 := (xw3.below hb4).alloc (.cells #[.int .i64 s, .int .i64 n, .slice A4 xs.length cc4] 27)
    have lx4 := XL.start (s := s) (n := n) ho4
    have hux : ∀ k, (Value.slice A4 xs.length cc4).ownBlock = some k → k < w4.heap.size := fun k hk => (ho4.out.lt k hk).2
    have hz4 := hb4.size
    clear c0 c1 c2 cl hb4 ho4
    obtain ⟨c0, c1, c2, cl⟩ := lx4.cells
    go_wp2_with fail
    refine (iLeaveLine_any _ _ _ _ _ _ _ lx4.sees HN.out).mono ?_
    rintro e w5 ⟨hans, hb5⟩
    obtain ⟨A5, cc5, he, ho5⟩ := leaveUni hans
    rw [HS.out, HNN.out, HLL.out, HK.out] at he
    rw [HLL.out] at ho5
    subst he
    clear hans
    have ex5 := (ex4.below hb5).alloc (.cells #[.int .i64 S, .int .i64 N, .slice A5 L.length cc5] 27)
    have xw5 := (xw4.below hb5).alloc (.cells #[.int .i64 S, .int .i64 N, .slice A5 L.length cc5] 27)
    have lx5 := (lx4.below hb5).alloc (.cells #[.int .i64 S, .int .i64 N, .slice A5 L.length cc5] 27)
    have xg5 := XL.start (s := S) (n := N) ho5
    have hz5 := hb5.size
    clear c0 c1 c2 cl hb5 ho5
    obtain ⟨c0, c1, c2, cl⟩ := xg5.cells
    obtain ⟨d0, d1, d2, dl⟩ := xw5.cells
    go_wp2_with fail
    refine (eqLine_same A5 A3 cc5 cc3 S N L _ xg5.sees xw5.sees HLn.out).mono ?_
    rintro e w6 ⟨rfl, hb6⟩
    have ex6 := ex5.below hb6
    have xw6 := xw5.below hb6
    have lx6 := lx5.below hb6
    have xg6 := xg5.below hb6
    have exd := ex6.drew
    have lxd := lx6.drew
    have xwd := xw6.drew
    have xgd := xg6.drew
    clear c0 c1 c2 cl d0 d1 d2 dl hb6
    obtain ⟨y0, y1, y2, yl⟩ := ex6.cells
    obtain ⟨x0, x1, x2, xl⟩ := lx6.cells
    go_wp2_with fail
    go_region_held3 (fun w' => w'.cell? ⟨w.heap.size, 0, none⟩ = some (.int .i64 s) ∧ w'.cell? ⟨w.heap.size, 1, none⟩ = some (.int .i64 n) ∧ w'.cell? ⟨w.heap.size, 2, none⟩ = some (.slice A xs.length c) ∧ w'.cell? ⟨w4.heap.size, 0, none⟩ = some (.int .i64 s) ∧ w'.cell? ⟨w4.heap.size, 1, none⟩ = some (.int .i64 n) ∧ w'.cell? ⟨w4.heap.size, 2, none⟩ = some (.slice A4 xs.length cc4))
      (first | with_reducible exact ⟨y0, y1, y2, x0, x1, x2⟩ | with_reducible exact ⟨a0, a1, a2, a3, a4, a5⟩ | with_reducible exact ⟨b0, b1, b2, b3, b4, b5⟩ | go_keep)
      (first
        | (go_at_call 11; (with_reducible refine (toLine_any A c s n xs _ exd.sees HN.out).mono ?_); rintro e w7 ⟨v7, rfl, ho7, hb7⟩; obtain ⟨A7, cc7, rfl, _⟩ := ho7.form; have ex7 := exd.below hb7; have lx7 := lxd.below hb7; have xw7 := xwd.below hb7; have xg7 := xgd.below hb7; obtain ⟨a0, a1, a2, al⟩ := ex7.cells; obtain ⟨a3, a4, a5, am⟩ := lx7.cells)
        | (go_at_call 13; (with_reducible refine (eqLine_same A4 A7 cc4 cc7 s n xs _ lx7.sees (Sees.of_own ho7.out) HN.out).mono ?_); rintro e w8 ⟨rfl, hb8⟩; have ex8 := ex7.below hb8; have lx8 := lx7.below hb8; have xw8 := xw7.below hb8; have xg8 := xg7.below hb8; obtain ⟨b0, b1, b2, bl⟩ := ex8.cells; obtain ⟨b3, b4, b5, bm⟩ := lx8.cells))
    clear y0 y1 y2 yl x0 x1 x2 xl a0 a1 a2 al a3 a4 a5 am b0 b1 b2 bl hb7 hb8 ho7 ex3 ex4 ex5 ex6 ex7 exd xw3 xw4 xw5 xw6 xw7 xwd lx4 lx5 lx6 lx7 lxd xg5 xg6 xg7 xgd
    have hk1 : ¬ (1 : Int) + (xs.length : Int) < 0 := by omega
    have hk2 : ¬ (1 : Int) + (L.length : Int) < 0 := by omega
    have hzw : w.heap.size < w3.heap.size + 1 := by have := ex2.size; simp only [World.size_alloc] at hz4 hz5; omega
    go_wp2_with fail
    refine (markLine_any _ A4 cc4 s n xs _ lx8.2 HN.out).mono ?_
    rintro e w9 ⟨rfl, _, hg9⟩
    have ex9 := ex8.mark lx8.2 (by simp only [World.size_alloc]; omega) hg9
    have xw9 := xw8.mark lx8.2 hg9 (apart (M := w3.heap.size + 1) (fun k hk => by have := huw k hk; omega) (fun k hk => by have := (lx8.2.out.lt k hk).1; simpa only [World.size_alloc] using this))
    have xg9 := xg8.mark lx8.2 hg9 (apart' (M := w4.heap.size + 1) (fun k hk => by have := hux k hk; omega) (fun k hk => by have := (xg8.2.out.lt k hk).1; simpa only [World.size_alloc] using this))
    clear b3 b4 b5 bm hg9 ex8 xw8 xg8
    obtain ⟨c0, c1, c2, cl⟩ := xg9.cells
    obtain ⟨d0, d1, d2, dl⟩ := xw9.cells
    go_wp2_with fail
    refine (eqLine_same A5 A3 cc5 cc3 S N L _ xg9.sees xw9.sees HLn.out).mono ?_
    rintro e w10 ⟨rfl, hb10⟩
    have ex10 := ex9.below hb10
    have xw10 := xw9.below hb10
    have xg10 := xg9.below hb10
    clear c0 c1 c2 cl d0 d1 d2 dl hb10 ex9 xw9 xg9 lx8
    obtain ⟨c0, c1, c2, cl⟩ := xg10.cells
    go_wp2_with fail
    refine (markLine_any _ A5 cc5 S N L _ xg10.2 HLn.out).mono ?_
    rintro e w11 ⟨rfl, ho11, hg11⟩
    have ex11 := ex10.mark xg10.2 (by simp only [World.size_alloc] at hz4 ⊢; omega) hg11
    have xw11 := xw10.mark xg10.2 hg11 (apart (M := w3.heap.size + 1) (fun k hk => by have := huw k hk; omega) (fun k hk => by have := (xg10.2.out.lt k hk).1; simp only [World.size_alloc] at this hz4; omega))
    have gb11 := xg10.1.grown hg11 fun e => (xg10.2.ne xg10.1 (by decide)) e.symm
    clear c0 c1 c2 cl hg11 ex10 xw10 xg10
    have c0 := gb11.cell 0
    have c1 := gb11.cell 1
    have c2 := gb11.cell 2
    have cl := gb11.lt
    go_wp2_with fail
    refine (heldLine_any A5 L.length cc5 S N _ (sees_marks ho11) HLn.out).mono ?_
    rintro e w12 ⟨rfl, hb12⟩
    have ex12 := ex11.below hb12
    have xw12 := xw11.below hb12
    have gb12 := gb11.below hb12 gb11.lt
    have ho12 := ho11.below hb12
    clear c0 c1 c2 cl hb12 ex11 xw11 gb11 ho11
    obtain ⟨c0, c1, c2, cl⟩ := ex12.cells
    go_wp2_with fail
    refine (toLine_any A c s n xs _ ex12.sees HN.out).mono ?_
    rintro e w13 ⟨v13, rfl, ho13, hb13⟩
    obtain ⟨A13, cc13, rfl, _⟩ := ho13.form
    have ex13 := ex12.below hb13
    have xw13 := xw12.below hb13
    have gb13 := gb12.below hb13 gb12.lt
    have ho13m := ho12.below hb13
    clear c0 c1 c2 cl hb13 ex12 xw12 gb12 ho12
    go_wp2_with fail
    refine (iLeaveLine_any _ _ _ _ _ _ _ (Sees.of_own ho13.out) HN.out).mono ?_
    rintro e w14 ⟨hans, hb14⟩
    obtain ⟨A14, cc14, he, ho14⟩ := leaveUni hans
    rw [HS.out, HNN.out, HLL.out, HK.out] at he
    rw [HLL.out] at ho14
    subst he
    clear hans
    have ex14 := (ex13.below hb14).alloc (.cells #[.int .i64 S, .int .i64 N, .slice A14 L.length cc14] 27)
    have xw14 := (xw13.below hb14).alloc (.cells #[.int .i64 S, .int .i64 N, .slice A14 L.length cc14] 27)
    have gb14 := (gb13.below hb14 gb13.lt).alloc (.cells #[.int .i64 S, .int .i64 N, .slice A14 L.length cc14] 27)
    have ho14m := (ho13m.below hb14).below ((Below.refl _ _).alloc (Nat.le_refl _) (.cells #[.int .i64 S, .int .i64 N, .slice A14 L.length cc14] 27))
    have xh14 := XL.start (s := S) (n := N) ho14
    clear hb14 ho14 ho13 ex13 xw13 gb13 ho13m
    obtain ⟨c0, c1, c2, cl⟩ := xh14.cells
    obtain ⟨d0, d1, d2, dl⟩ := xw14.cells
    go_wp2_with fail
    refine (eqLine_same A14 A3 cc14 cc3 S N L _ xh14.sees xw14.sees HLn.out).mono ?_
    rintro e w15 ⟨rfl, hb15⟩
    have ex15 := ex14.below hb15
    have gb15 := gb14.below hb15 gb14.lt
    have ho15 := ho14m.below hb15
    clear c0 c1 c2 cl d0 d1 d2 dl hb15 ex14 xw14 gb14 ho14m xh14
    have c0 := gb15.cell 0
    have c1 := gb15.cell 1
    have c2 := gb15.cell 2
    have cl := gb15.lt
    go_wp2_with fail
    refine (heldLine_any A5 L.length cc5 S N _ (sees_marks ho15) HLn.out).mono ?_
    rintro e w16 ⟨rfl, hb16⟩
    have ex16 := ex15.below hb16
    go_wp2
    go_ret
    exact ⟨rfl, ex16.bel⟩
end Go.Proofs.Ytcfijijpcafncac

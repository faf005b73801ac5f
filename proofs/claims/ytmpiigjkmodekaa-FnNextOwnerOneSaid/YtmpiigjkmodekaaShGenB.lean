/-
  What the model's anyShare answers. Condition: the reader stands at a place below 900.
-/
import Derived.Test.YtmpiigjkmodekaaShGenA
import Derived.Test.YtmpiigjkmodekaaRegInv
import Derived.Test.YtmpiigjkmodekaaExA
import Derived.Deep.RegionHeld3
import Derived.Deep.RegionLaw
import Derived.Deep.CutRange
import Derived.Handy
namespace Go.Proofs.Ytmpiigjkmodekaa
open Go.RowKit Sha
set_option maxHeartbeats 64000000 in
set_option maxRecDepth 16384 in
theorem anyShare_any (g p : Nat) (w : World) (h : Rd w g p) (hp : p < 900) :
    Calls Try.prog 10 #[.pointer (some ⟨g, 0, none⟩)] w (ShareAns w g p) := by
  have hg := h.lt
  have hmk : ∀ w', Sem.run Try.prog (Instr.makeSlice 23 (.int .i64 5) (.int .i64 5)) w' = .ok (.slice (some ⟨w'.heap.size, 0, none⟩) 5 5) (w'.alloc (.cells #[.int .i64 0, .int .i64 0, .int .i64 0, .int .i64 0, .int .i64 0] 3)) := fun w' => by
    obtain ⟨i0, hi0, hz0, hz1, hz2⟩ := info_parts intInfo
    have := run_make (P := Try.prog) w' 23 3 i0 (.int .i64 0) Try.underlying23 hi0 hz0 .i64 .i64 5 5 (by decide) (by decide) (by rw [hz2]; decide) (by decide)
    rw [hz1] at this
    have e : madeCells (Value.int .i64 0).cells (Int.toNat 5 * 1) = #[.int .i64 0, .int .i64 0, .int .i64 0, .int .i64 0, .int .i64 0] := Array.toList_inj.1 (by rw [show (Value.int IntKind.i64 0).cells = #[Value.int .i64 0] from rfl, made_ints]; rfl)
    rw [e] at this
    exact this
  go_enter Try.func10, Try.ntmps10
  go_upto_region 1 with fail
  go_cut [3] from 8 to 13 (fun v3 wx => ∃ (b b1 b2 : Nat) (x : Int), v3 = .pointer (some ⟨b, 0, none⟩) ∧ GS w wx g b 0 (p + 1) ⟨x, [], [0, 0, 0, 0, 0]⟩ (some ⟨b1, 0, none⟩) (some ⟨b2, 0, none⟩) 0 5)
  case first =>
    have hrf : RF w (w.alloc (.cells #[.int .i64 0, .slice none 0 0, .slice none 0 0] 25)).drew g p false false false false false false false false undef undef undef undef undef undef undef := by
      have hr := (h.alloc (.cells #[.int .i64 0, .slice none 0 0, .slice none 0 0] 25)).drew
      exact ⟨grown_of_below ((Below.refl _ _).alloc (Nat.le_refl _) _).drew _, (At.new w _ _).drew, hg, by simp, by simp, hr, by simp, by simp, by simp, by simp, by simp, by simp, by simp⟩
    refine wp_region_any (by kernel_rfl) ?_
    refine wpAny_inv (I := (fun n listed a wx => ∃ (l0 l1 l2 l3 l4 l5 l6 l7 : Bool) (v3 v8 v9 v10 v11 v12 v13 : Value), listed = #[l0, l1, l2, l3, l4, l5, l6, l7] ∧ l0.toNat + l1.toNat + l2.toNat + l3.toNat + l4.toNat + l5.toNat + l6.toNat + l7.toNat + n = 8 ∧ a = ({ tmps := #[.pointer (some ⟨g, 0, none⟩), undef, .pointer (some ⟨w.heap.size, 0, none⟩), v3, undef, undef, undef, undef, v8, v9, v10, v11, v12, v13, undef, undef, undef, undef, undef, undef, undef, undef, undef, undef, undef, undef, undef, undef, undef, undef, undef, undef, undef, undef, undef, undef, undef, undef, undef, undef, undef, undef, undef, undef, undef, undef, undef, undef, undef, undef, undef, undef, undef, undef, undef, undef, undef, undef, undef, undef, undef, undef, undef, undef, undef, undef], defers := [] } : Act) ∧ RF w wx g p l0 l1 l2 l3 l4 l5 l6 l7 v3 v8 v9 v10 v11 v12 v13)) ?h0 ?hend ?hstep 8 _ _ _ ⟨false, false, false, false, false, false, false, false, undef, undef, undef, undef, undef, undef, undef, rfl, rfl, rfl, hrf⟩
    case h0 =>
      rintro listed a wx ⟨l0, l1, l2, l3, l4, l5, l6, l7, v3, v8, v9, v10, v11, v12, v13, rfl, hsum, rfl, hF⟩
      have z0 := l0.toNat_le; have z1 := l1.toNat_le; have z2 := l2.toNat_le; have z3 := l3.toNat_le; have z4 := l4.toNat_le; have z5 := l5.toNat_le; have z6 := l6.toNat_le; have z7 := l7.toNat_le
      have t0 : l0 = true := Bool.toNat_eq_one.1 (by omega)
      have t1 : l1 = true := Bool.toNat_eq_one.1 (by omega)
      have t2 : l2 = true := Bool.toNat_eq_one.1 (by omega)
      have t3 : l3 = true := Bool.toNat_eq_one.1 (by omega)
      have t4 : l4 = true := Bool.toNat_eq_one.1 (by omega)
      have t5 : l5 = true := Bool.toNat_eq_one.1 (by omega)
      have t6 : l6 = true := Bool.toNat_eq_one.1 (by omega)
      have t7 : l7 = true := Bool.toNat_eq_one.1 (by omega)
      subst t0 t1 t2 t3 t4 t5 t6 t7
      rfl
    case hend =>
      rintro n listed a wx ⟨l0, l1, l2, l3, l4, l5, l6, l7, v3, v8, v9, v10, v11, v12, v13, rfl, hsum, rfl, hF⟩ hr
      have t0 : l0 = true := ready_true hr 0 (fun hh => ⟨_, rfl, fun e he => by simp at he; ⟩)
      have t1 : l1 = true := ready_true hr 1 (fun hh => ⟨_, rfl, fun e he => by simp at he; ⟩)
      have t2 : l2 = true := ready_true hr 2 (fun hh => ⟨_, rfl, fun e he => by simp at he; rcases he with rfl | rfl | rfl <;> (first | exact t0 | exact t1)⟩)
      have t3 : l3 = true := ready_true hr 3 (fun hh => ⟨_, rfl, fun e he => by simp at he; ⟩)
      have t4 : l4 = true := ready_true hr 4 (fun hh => ⟨_, rfl, fun e he => by simp at he; ⟩)
      have t5 : l5 = true := ready_true hr 5 (fun hh => ⟨_, rfl, fun e he => by simp at he; rcases he with rfl | rfl | rfl <;> (first | exact t0 | exact t1 | exact t2 | exact t3 | exact t4)⟩)
      have t6 : l6 = true := ready_true hr 6 (fun hh => ⟨_, rfl, fun e he => by simp at he; ⟩)
      have t7 : l7 = true := ready_true hr 7 (fun hh => ⟨_, rfl, fun e he => by simp at he; rcases he with rfl | rfl | rfl | rfl | rfl | rfl | rfl | rfl | rfl | rfl <;> (first | exact t0 | exact t1 | exact t2 | exact t3 | exact t4 | exact t5 | exact t6)⟩)
      obtain ⟨L, x, b1, b2, rfl, hL, hM, hl1, hl2⟩ := hF.f7 t7
      have hrd := hF.f2
      rw [if_pos t2] at hrd
      clear t0 t1 t2 t3 t4 t5 t6 t7 hr hsum
      go_wp2_with fail
      go_meet
      exact ⟨L, b1, b2, x, rfl, hL, ⟨fun hx => absurd rfl hx, SeesF.of_at hM (fun e => by have := At.apart hL hM (by decide); omega)⟩, ⟨by simp, by simp⟩, hrd, hF.gr, hF.rs, hg, hl1⟩
    case hstep =>
      rintro n listed a wx ⟨l0, l1, l2, l3, l4, l5, l6, l7, v3, v8, v9, v10, v11, v12, v13, rfl, hsum, rfl, hF⟩ i o ho hl hall K' hK
      have hi : i < 8 := (Array.getElem?_eq_some_iff.1 ho).1
      have hwl := hF.lt
      have hi8 : i = 0 ∨ i = 1 ∨ i = 2 ∨ i = 3 ∨ i = 4 ∨ i = 5 ∨ i = 6 ∨ i = 7 := by omega
      rcases hi8 with rfl | rfl | rfl | rfl | rfl | rfl | rfl | rfl
      · have ho2 := Option.some.inj (show some _ = some o from ho)
        subst ho2
        have hli : l0 = false := hl
        subst hli
        go_simp
        exact hK _ _ ⟨true, l1, l2, l3, l4, l5, l6, l7, v3, _, v9, v10, v11, v12, v13, rfl, by have hs := hsum; simp only [Bool.toNat_true, Bool.toNat_false] at hs ⊢; omega, rfl, { hF with f0 := fun _ => rfl }⟩
      · have ho2 := Option.some.inj (show some _ = some o from ho)
        subst ho2
        have hli : l1 = false := hl
        subst hli
        go_simp
        exact hK _ _ ⟨l0, true, l2, l3, l4, l5, l6, l7, v3, v8, _, v10, v11, v12, v13, rfl, by have hs := hsum; simp only [Bool.toNat_true, Bool.toNat_false] at hs ⊢; omega, rfl, { hF.alloc _ with f1 := fun _ => ⟨_, rfl, At.new _ _ _, hwl⟩ }⟩
      · have ho2 := Option.some.inj (show some _ = some o from ho)
        subst ho2
        have hli : l2 = false := hl
        subst hli
        have t0 : l0 = true := hall ⟨0, .data⟩ (by simp) rfl
        have t1 : l1 = true := hall ⟨1, .data⟩ (by simp) rfl
        have e8 := hF.f0 t0
        obtain ⟨b, e9, hb9, hl9⟩ := hF.f1 t1
        subst e8 e9
        have hrd := hF.f2
        have hF2 := hF
        rw [if_neg (by simp)] at hrd
        go_simp
        go_at_call 11
        refine (one_any g p b 5 _ [6, 10, 20, 3, 0] _ hrd (by omega) hb9 (by rfl) (by omega) (by rfl) (by omega) (by omega)).mono ?_
        rintro e w1 ⟨x, rfl, _, hg1, hr1⟩
        exact hK _ _ ⟨l0, l1, true, l3, l4, l5, l6, l7, v3, _, _, _, v11, v12, v13, rfl, by have hs := hsum; simp only [Bool.toNat_true, Bool.toNat_false] at hs ⊢; omega, rfl, hF2.pick hg1 hr1 x⟩
      · have ho2 := Option.some.inj (show some _ = some o from ho)
        subst ho2
        have hli : l3 = false := hl
        subst hli
        go_simp
        exact hK _ _ ⟨l0, l1, l2, true, l4, l5, l6, l7, v3, v8, v9, v10, _, v12, v13, rfl, by have hs := hsum; simp only [Bool.toNat_true, Bool.toNat_false] at hs ⊢; omega, rfl, { hF.alloc _ with f3 := fun _ => ⟨_, rfl⟩ }⟩
      · have ho2 := Option.some.inj (show some _ = some o from ho)
        subst ho2
        have hli : l4 = false := hl
        subst hli
        go_simp
        exact hK _ _ ⟨l0, l1, l2, l3, true, l5, l6, l7, v3, v8, v9, v10, v11, _, v13, rfl, by have hs := hsum; simp only [Bool.toNat_true, Bool.toNat_false] at hs ⊢; omega, rfl, { hF.alloc _ with f4 := fun _ => ⟨_, rfl, At.new _ _ _, hwl⟩ }⟩
      · have ho2 := Option.some.inj (show some _ = some o from ho)
        subst ho2
        have hli : l5 = false := hl
        subst hli
        have t2 : l2 = true := hall ⟨2, .data⟩ (by simp) rfl
        have t3 : l3 = true := hall ⟨3, .data⟩ (by simp) rfl
        have t4 : l4 = true := hall ⟨4, .data⟩ (by simp) rfl
        obtain ⟨x, e10⟩ := hF.f2x t2
        obtain ⟨b1, e11⟩ := hF.f3 t3
        obtain ⟨b2, e12, hb2, hl12⟩ := hF.f4 t4
        subst e10 e11 e12
        have hF2 := hF
        go_simp
        exact hK _ _ ⟨l0, l1, l2, l3, l4, true, l6, l7, v3, v8, v9, _, _, _, _, rfl, by have hs := hsum; simp only [Bool.toNat_true, Bool.toNat_false] at hs ⊢; omega, rfl, { hF2 with f5 := fun _ => ⟨x, b1, b2, rfl, hb2, hl12⟩ }⟩
      · have ho2 := Option.some.inj (show some _ = some o from ho)
        subst ho2
        have hli : l6 = false := hl
        subst hli
        go_simp
        exact hK _ _ ⟨l0, l1, l2, l3, l4, l5, true, l7, _, v8, v9, v10, v11, v12, v13, rfl, by have hs := hsum; simp only [Bool.toNat_true, Bool.toNat_false] at hs ⊢; omega, rfl, { hF.alloc _ with f6 := fun _ => ⟨_, rfl, hwl, fun _ => At.new _ _ _⟩, d7 := fun _ => rfl, f7 := fun e => absurd (hF.d7 e) (by simp) }⟩
      · have ho2 := Option.some.inj (show some _ = some o from ho)
        subst ho2
        have hli : l7 = false := hl
        subst hli
        have t5 : l5 = true := hall ⟨5, .data⟩ (by simp) rfl
        have t6 : l6 = true := hall ⟨6, .data⟩ (by simp) rfl
        obtain ⟨x, b1, b2, e13, hb2, hl2⟩ := hF.f5 t5
        obtain ⟨L, e3, hlL, hL⟩ := hF.f6 t6
        have hL := hL rfl
        subst e3 e13
        have hF2 := hF
        have hne := At.apart hL hb2 (by decide)
        obtain ⟨hp, hgr⟩ := three_put (.int .i64 x) (.slice (some ⟨b1, 0, none⟩) 0 0) (.slice (some ⟨b2, 0, none⟩) 5 5) hL rfl
        obtain ⟨q0, q1, q2, ql, qf⟩ := hL.three
        go_simp
        exact hK _ _ ⟨l0, l1, l2, l3, l4, l5, l6, true, _, v8, v9, v10, v11, v12, _, rfl, by have hs := hsum; simp only [Bool.toNat_true, Bool.toNat_false] at hs ⊢; omega, rfl, { gr := grown_new hF2.gr hgr (by omega), rs := hF2.rs.past hgr (by omega), hg := hg, f0 := hF2.f0, f1 := fun e => by obtain ⟨b, e1, e2, e4⟩ := hF2.f1 e; exact ⟨b, e1, e2.past hgr (fun q => At.apart hL e2 (by decide) q.symm), e4⟩, f2 := ((hF2.f2.far (by simp; omega) _).far (by simp; omega) _).far (by simp; omega) _, f2x := hF2.f2x, f3 := hF2.f3, f4 := fun e => by obtain ⟨b, e1, e2, e4⟩ := hF2.f4 e; exact ⟨b, e1, e2.past hgr (fun q => At.apart hL e2 (by decide) q.symm), e4⟩, d7 := fun _ => t6, f5 := fun e => ⟨x, b1, b2, rfl, hb2.past hgr (fun e => hne e.symm), hl2⟩, f6 := fun e => ⟨L, rfl, hlL, fun q => by cases q⟩, f7 := fun _ => ⟨L, x, b1, b2, rfl, hp, hb2.past hgr (fun e => hne e.symm), hlL, hl2⟩ }⟩
  case rest =>
    obtain ⟨b, b1, b2, x0, rfl, gs⟩ := hcut
    obtain ⟨i0, hi0, hz0, hz1, hz2⟩ := info_parts intInfo
    go_wp2_with fail
    go_loopw [4] (fun i wr => ∃ (k q : Nat) (s : Shr) (A1 A2 : Option Addr) (c1 c2 : Nat), i = .int .i64 k ∧ k ≤ 5 ∧ s.m.length = k ∧ q ≤ p + 1 + k ∧ GS w wr g b 0 q s A1 A2 c1 c2) (fun i _ => 5 - (intOf i).toNat)
    case atStart => exact ⟨0, p + 1, _, _, _, 0, 5, rfl, by omega, rfl, by omega, gs⟩
    case round =>
      clear gs
      obtain ⟨k, q, s, A1, A2, c1, c2, rfl, hk, hsm, hq, gs⟩ := hrel
      obtain ⟨z1, z2, z3, z4, z5⟩ := gs.lt
      obtain ⟨y0, y1, y2, yf⟩ := gs.cells
      have HSM := hid hsm
      clear hsm
      have hlen := gs.len
      by_cases hk5 : k < 5
      · have hki : (k : Int) < 5 := by omega
        have HM4 := hid (Nat.le_trans gs.len.1 (show 5 ≤ 4194304 by decide))
        have h2 : SeesF wr (fun x => (x = b ∨ x ≤ w.heap.size ∨ x = 0) ∨ wr.heap.size ≤ x) A2 (ints s.h) := gs.2.1.2.imp (fun x hx e => e.elim id (fun e => absurd e (by omega)))
        go_wp2_with fail
        with_reducible refine (copyInts_any A1 c1 s.m _ gs.seesm HM4.out).mono ?_
        rintro e w4 ⟨v4, rfl, ho4, hb4⟩
        have gs4 := gs.below hb4
        have h24 := h2.below hb4
        have hz4 := hb4.size
        clear y0 y1 y2 yf h2 hb4 gs
        obtain ⟨z14, z24, z34, z44, z54⟩ := gs4.lt
        go_wp2_with fail
        refine (one_any g q _ 6 _ [2, 3, 5, 1, 0, 20] _ (gs4.alloc _).rd (by omega) (At.newAt 3 _ rfl) (by rfl) (by omega) (by rfl) (by omega) (by omega)).mono ?_
        rintro e w5 ⟨x, rfl, _, hg5, hr5⟩
        have gs5 := (gs4.alloc _).pick hg5 hr5
        have h25 := (h24.alloc (.cells #[.int .i64 2, .int .i64 3, .int .i64 5, .int .i64 1, .int .i64 0, .int .i64 20] 3)).grown hg5 (fun x e => .inl (.inr (.inl (by injection e with e; omega))))
        have ho5 : Own w5 wr.heap.size v4 s.m := row_kept (own_alloc ho4 _) hg5 (fun k hk e => by injection e with e; have := (ho4.out.lt k hk).1; omega)
        obtain ⟨A4, c4, rfl, _⟩ := ho5.form
        have hlow := ho5.out.lt
        have gs6 := gs5.alloc (.cells #[.int .i64 x] 3)
        have h26 := h25.alloc (.cells #[.int .i64 x] 3)
        have hz5 := hg5.size
        simp only [World.size_alloc] at hz5
        clear gs4 h24 hg5 hr5 gs5 h25 ho4
        go_wp2_with (at_builtin; refine wpList_append_own _ rfl _ _ 23 rfl wr.heap.size 3 i0 (.int .i64 0) 1 8 Try.underlying23 hi0 hz0 hz1 hz2 rfl (by decide) _ _ _ rfl (own_alloc ho5.out _) ⟨w5.heap.size, 0, none⟩ 1 1 [.int .i64 x] rfl rfl (cell_one_new _ _ _) ?c2 ?c3 ?c4 ?c5 ?_)
        case c2 => simp [Value.oneCell']
        case c3 => unfold maxLen; omega
        case c4 => omega
        case c5 => simp; omega
        case _ =>
          intro v6 w6 h6 hg6 _
          have hb6 : Below wr.heap.size (w5.alloc (.cells #[.int .i64 x] 3)) w6 := (Below.refl _ _).grown hg6 (by simp; omega) (fun q hq => (hlow q hq).1)
          have a6 : At w6 b 25 #[.int .i64 s.t, .slice A1 s.m.length c1, .slice A2 s.h.length c2] := gs6.1.below hb6 (by omega)
          have r6 : Rd w6 g (q + 1) := gs6.rd.below hb6 (by omega)
          have p6 : At w6 w.heap.size 25 #[.int .i64 0, .slice none 0 0, .slice none 0 0] := gs6.2.2.2.2.2.1.below hb6 (by omega)
          have g6 : w.grownBy w6 (some g) := grown_low gs6.2.2.2.2.1 hb6 (by omega)
          have h27 := h26.grown hg6 (fun x e => .inr (hlow x e).1)
          have ho6 : Own w6 wr.heap.size v6 (s.m ++ [x]) := by unfold Own; rw [ints_app, List.length_append]; exact h6
          obtain ⟨A6, c6, rfl, _⟩ := ho6.form
          obtain ⟨N, hN⟩ : ∃ N : List Int, N = s.m ++ [x] := ⟨_, rfl⟩
          have hNl : N.length = k + 1 := by rw [hN, List.length_append, HSM.out]; rfl
          rw [← hN] at ho6
          have hz6 := hb6.size
          simp only [World.size_alloc] at hz6
          have s1 : SeesF w6 (fun x => x = b ∨ x ≤ w.heap.size ∨ x = 0) A6 (ints N) := SeesF.of_row ho6.out (fun x h1 _ h2 => by omega)
          have a7 : At (w6.setCell ⟨b, 1, none⟩ (.slice A6 N.length c6)) b 25 #[.int .i64 s.t, .slice A6 N.length c6, .slice A2 s.h.length c2] := by simpa using a6.set 1 (.slice A6 N.length c6)
          have gg : GS w w6 g b 0 (q + 1) s none A2 0 c2 ∨ True := .inr trivial
          clear gg
          have gs7 : GS w (w6.setCell ⟨b, 1, none⟩ (.slice A6 N.length c6)) g b 0 (q + 1) ⟨s.t, N, s.h⟩ A6 A2 c6 c2 := ⟨a7, ⟨s1.grown (grown_set _ _ _ _) (fun x e => .inl (by injection e with e; exact e.symm)), (h27.grown (grown_set w6 b 1 (.slice A6 N.length c6)) (fun x e => .inl (.inl (by injection e with e; exact e.symm)))).imp (fun x _ e => .inl e)⟩, ⟨by show N.length ≤ 5; omega, hlen.2⟩, r6.far (by simp; omega) _, grown_new g6 (grown_set _ _ _ _) (by omega), p6.past (grown_set _ _ _ _) (by omega), hg, z2⟩
          obtain ⟨n0, n1, n2, nl, nf⟩ := a6.three
          have HNL := hid hNl
          have hk4 : k ≤ 4 := by omega
          clear h6 hg6 hb6 gs6 h26 h27 s1 a6 a7 r6 p6 g6 hlow ho5 ho6 hNl
          simp only [← hN]
          clear hN
          go_wp2
          go_roundw
          case rel => exact ⟨k + 1, q + 1, ⟨s.t, N, s.h⟩, A6, A2, c6, c2, by go_num, by omega, HNL.out, by omega, gs7⟩
          case measure => simp [intOf]; omega
      · have hki : ¬ (k : Int) < 5 := by omega
        go_wp2_with fail
        refine (one_any g q _ 5 _ [4, 6, 2, 0, 12] _ (gs.alloc _).rd (by omega) (At.newAt 3 _ rfl) (by rfl) (by omega) (by rfl) (by omega) (by omega)).mono ?_
        rintro e w2 ⟨n0, rfl, hn0, hg2, hr2⟩
        have hn0' : ∃ k : Nat, n0 = k ∧ k ≤ 12 := ⟨n0.toNat, by simp at hn0; omega, by simp at hn0; omega⟩
        obtain ⟨k0, rfl, hk0⟩ := hn0'
        have gs2 := (gs.alloc _).pick hg2 hr2
        clear hn0 gs hg2 hr2 y0 y1 y2 yf HSM hlen z3 z4 z5
        go_wp2_with fail
        go_loopw [5] (fun i wr => ∃ (k q : Nat) (s : Shr) (A1 A2 : Option Addr) (c1 c2 : Nat), i = .int .i64 k ∧ k ≤ 12 ∧ q + k ≤ p + 19 ∧ GS w wr g b 0 q s A1 A2 c1 c2) (fun i _ => (intOf i).toNat)
        case atStart => exact ⟨k0, q + 1, _, _, _, _, _, rfl, hk0, by omega, gs2⟩
        case round =>
          clear gs2 hq hk hk5 hki
          obtain ⟨k, q, s, A1, A2, c1, c2, rfl, hk, hq, gs⟩ := hrel
          obtain ⟨z1, z2, z3, z4, z5⟩ := gs.lt
          by_cases hk0 : 0 < k
          · have hki : (0 : Int) < (k : Int) := by omega
            obtain ⟨c0, d0, e0, cf⟩ := gs.cells
            have gd := (gs.apart (Nat.le_refl wr.heap.size)).drew
            have hn5 : ¬ wr.heap.size = b := by omega
            have hn5' : ¬ b = wr.heap.size := by omega
            have hlen := gs.len
            have HL1 := hid (Nat.le_trans hlen.1 (show 5 ≤ 4194304 by decide))
            have HL2 := hid (Nat.le_trans hlen.2 (show 5 ≤ 4194304 by decide))
            go_wp2_with fail
            go_region_held3 (fun w' => w'.cell? ⟨b, 0, none⟩ = some (.int .i64 s.t) ∧ w'.cell? ⟨b, 1, none⟩ = some (.slice A1 s.m.length c1) ∧ w'.cell? ⟨b, 2, none⟩ = some (.slice A2 s.h.length c2))
              (first | exact ⟨c0, d0, e0⟩ | exact ⟨f0, f1, f2⟩ | exact ⟨u0, u1, u2⟩ | go_keep)
              (first
                | (go_at_call 19; refine (pick_any g q 5 _ (by first | exact gd.rd | exact (gd.alloc _).rd) (by omega)).mono ?_; rintro e w6 ⟨x2, rfl, _, _, hg6, hr6⟩; have gs7 := GS.pick (by first | exact gd | exact gd.alloc _) hg6 hr6; obtain ⟨f0, f1, f2, ff⟩ := gs7.cells; obtain ⟨_, _, z7, z8, z9⟩ := gs7.lt; have hn6 : ¬ w6.heap.size = b := (by omega); have hn6' : ¬ b = w6.heap.size := (by omega); have hs6 := hg6.size; simp only [World.size_alloc, World.size_drew] at hs6; try (have t0 := At.past (show At (wr.drew.alloc _) wr.heap.size 25 #[.int .i64 0, .slice none 0 0, .slice none 0 0] from At.new wr.drew _ _) hg6 (by omega); have t0c := t0.cell; have t0f := t0.frozen; have t0l := t0.lt))
                | (go_at_call 6; refine (sGiveShare_any s x2 A1 A2 c1 c2 _ (by first | exact gs7.sees | exact (gs7.alloc _).sees) HL1.out HL2.out).mono ?_; rintro e w7 ⟨B7, D7, d1, d2, he, ho7, hb7⟩; obtain ⟨D, hD⟩ : ∃ D, D = giveS s x2 1 := ⟨_, rfl⟩; have hDl : D.m.length ≤ 5 ∧ D.h.length ≤ 5 := (by rw [hD]; have := giveS_five s x2 1; omega); obtain ⟨H, hH⟩ : ∃ H, H = giveB s x2 1 := ⟨_, rfl⟩; rw [← hD] at ho7; rw [← hD, ← hH] at he; clear hD hH; subst he; (first | have gs8 := GS.below gs7 hb7 | have gs8 := GS.below ((gs7.apart (Nat.le_refl w6.heap.size)).alloc _) hb7); obtain ⟨u0, u1, u2, uf⟩ := gs8.cells; have hs7 := hb7.size; obtain ⟨_, _, z10, z11, z12⟩ := gs8.lt; have hn7 : ¬ w7.heap.size = b := (by omega); have hn7' : ¬ b = w7.heap.size := (by omega); obtain ⟨hc7, hf7⟩ := below_cell hb7))
            · skip
              have hsA : SeesF w7 (fun x => x = b ∨ x ≤ w.heap.size ∨ x = 0) B7 (ints D.m) := SeesF.of_row ho7.1.out (fun x h1 _ h2 => by omega)
              have hsB : SeesF w7 (fun x => x = b ∨ x ≤ w.heap.size ∨ x = 0) D7 (ints D.h) := SeesF.of_row ho7.2.1.out (fun x h1 _ h2 => by omega)
              have gn := gs8.zero.alloc (.cells #[.int .i64 D.t, .slice B7 D.m.length d1, .slice D7 D.h.length d2] 25)
              have gy := (gs8.zero.put (c1 := d1) (c2 := d2) hsA hsB hDl).alloc (.cells #[.int .i64 D.t, .slice B7 D.m.length d1, .slice D7 D.h.length d2] 25)
              clear gs8 gs7 gs gd c0 d0 e0 f0 f1 f2 ff hsA hsB ho7
              cases H
              · go_wp2
                go_roundw
                case rel => exact ⟨k - 1, q + 1, s, A1, A2, c1, c2, by go_num, by omega, by omega, gn⟩
                case measure => simp [intOf]; omega
              · go_wp2
                go_roundw
                case rel => exact ⟨k - 1, q + 1, D, B7, D7, d1, d2, by go_num, by omega, by omega, gy⟩
                case measure => simp [intOf]; omega
            · skip
              simp only [World.size_alloc] at hs7
              have hsA : SeesF w7 (fun x => x = b ∨ x ≤ w.heap.size ∨ x = w6.heap.size) B7 (ints D.m) := SeesF.of_row ho7.1.out (fun x h1 _ h2 => by simp only [World.size_alloc] at h1; omega)
              have hsB : SeesF w7 (fun x => x = b ∨ x ≤ w.heap.size ∨ x = w6.heap.size) D7 (ints D.h) := SeesF.of_row ho7.2.1.out (fun x h1 _ h2 => by simp only [World.size_alloc] at h1; omega)
              have tt := (At.new w6 25 #[.int .i64 0, .slice none 0 0, .slice none 0 0]).below hb7 (by simp)
              obtain ⟨pt, hgr⟩ := three_put (.int .i64 D.t) (.slice B7 D.m.length d1) (.slice D7 D.h.length d2) tt rfl
              have gb := gs8.side (t := w6.heap.size) (u0 := .int .i64 D.t) (u1 := .slice B7 D.m.length d1) (u2 := .slice D7 D.h.length d2) (by omega)
              have gn := gb.zero
              have gy := (gb.put (c1 := d1) (c2 := d2) (hsA.grown hgr (fun x e => .inr (.inr (by injection e with e; exact e.symm)))) (hsB.grown hgr (fun x e => .inr (.inr (by injection e with e; exact e.symm)))) hDl).zero
              obtain ⟨q0, q1, q2, ql, qf⟩ := pt.three
              have hbt := gs8.1.past hgr (by omega)
              obtain ⟨v0, v1, v2, vl, vf⟩ := hbt.three
              clear gb tt hgr
              clear gs8 gs7 gs gd c0 d0 e0 f0 f1 f2 ff hsA hsB ho7 u0 u1 u2
              cases H
              · go_wp2
                go_roundw
                case rel => exact ⟨k - 1, q + 1, s, A1, A2, c1, c2, by go_num, by omega, by omega, gn⟩
                case measure => simp [intOf]; omega
              · go_wp2
                go_roundw
                case rel => exact ⟨k - 1, q + 1, D, B7, D7, d1, d2, by go_num, by omega, by omega, gy⟩
                case measure => simp [intOf]; omega
            · skip
              have hsA : SeesF w7 (fun x => x = b ∨ x ≤ w.heap.size ∨ x = wr.heap.size) B7 (ints D.m) := SeesF.of_row ho7.1.out (fun x h1 _ h2 => by have := t0l; omega)
              have hsB : SeesF w7 (fun x => x = b ∨ x ≤ w.heap.size ∨ x = wr.heap.size) D7 (ints D.h) := SeesF.of_row ho7.2.1.out (fun x h1 _ h2 => by have := t0l; omega)
              have tt := t0.below hb7 t0.lt
              obtain ⟨pt, hgr⟩ := three_put (.int .i64 D.t) (.slice B7 D.m.length d1) (.slice D7 D.h.length d2) tt rfl
              have gb := gs8.side (t := wr.heap.size) (u0 := .int .i64 D.t) (u1 := .slice B7 D.m.length d1) (u2 := .slice D7 D.h.length d2) (by omega)
              have gn := gb.zero
              have gy := (gb.put (c1 := d1) (c2 := d2) (hsA.grown hgr (fun x e => .inr (.inr (by injection e with e; exact e.symm)))) (hsB.grown hgr (fun x e => .inr (.inr (by injection e with e; exact e.symm)))) hDl).zero
              obtain ⟨q0, q1, q2, ql, qf⟩ := pt.three
              have hbt := gs8.1.past hgr (by omega)
              obtain ⟨v0, v1, v2, vl, vf⟩ := hbt.three
              clear gb tt hgr
              clear gs8 gs7 gs gd c0 d0 e0 f0 f1 f2 ff hsA hsB ho7 u0 u1 u2
              cases H
              · go_wp2
                go_roundw
                case rel => exact ⟨k - 1, q + 1, s, A1, A2, c1, c2, by go_num, by omega, by omega, gn⟩
                case measure => simp [intOf]; omega
              · go_wp2
                go_roundw
                case rel => exact ⟨k - 1, q + 1, D, B7, D7, d1, d2, by go_num, by omega, by omega, gy⟩
                case measure => simp [intOf]; omega
          · have hki : ¬ (0 : Int) < (k : Int) := by omega
            go_wp2_with fail
            refine (pick_any g q 20 _ gs.rd (by omega)).mono ?_
            rintro e w3 ⟨x, rfl, hx0, hx1, hg3, hr3⟩
            have gs3 := gs.pick hg3 hr3
            clear hg3 hr3 hx0 hx1 gs
            obtain ⟨_, _, z7, z8, z9⟩ := gs3.lt
            have hnb : ¬ w.heap.size = b := by omega
            have hnb' : ¬ b = w.heap.size := by omega
            have fin : ∀ (w' : World) (D : Shr) (B1 B2 : Option Addr) (d1 d2 q' : Nat), At w' w.heap.size 25 #[.int .i64 0, .slice none 0 0, .slice none 0 0] → SeesF w' (fun x => x = b ∨ x ≤ w.heap.size ∨ x = 0) B1 (ints D.m) → SeesF w' (fun x => x = b ∨ x ≤ w.heap.size ∨ x = 0) B2 (ints D.h) → Rd w' g q' → w.grownBy w' (some g) →
                SeesF (((w'.setCell ⟨w.heap.size, 0, none⟩ (.int .i64 D.t)).setCell ⟨w.heap.size, 1, none⟩ (.slice B1 D.m.length d1)).setCell ⟨w.heap.size, 2, none⟩ (.slice B2 D.h.length d2)) (fun x => x < w.heap.size) B1 (ints D.m) ∧ SeesF (((w'.setCell ⟨w.heap.size, 0, none⟩ (.int .i64 D.t)).setCell ⟨w.heap.size, 1, none⟩ (.slice B1 D.m.length d1)).setCell ⟨w.heap.size, 2, none⟩ (.slice B2 D.h.length d2)) (fun x => x < w.heap.size) B2 (ints D.h) ∧ w.grownBy (((w'.setCell ⟨w.heap.size, 0, none⟩ (.int .i64 D.t)).setCell ⟨w.heap.size, 1, none⟩ (.slice B1 D.m.length d1)).setCell ⟨w.heap.size, 2, none⟩ (.slice B2 D.h.length d2)) (some g) ∧ Rd (((w'.setCell ⟨w.heap.size, 0, none⟩ (.int .i64 D.t)).setCell ⟨w.heap.size, 1, none⟩ (.slice B1 D.m.length d1)).setCell ⟨w.heap.size, 2, none⟩ (.slice B2 D.h.length d2)) g q' ∧ At (((w'.setCell ⟨w.heap.size, 0, none⟩ (.int .i64 D.t)).setCell ⟨w.heap.size, 1, none⟩ (.slice B1 D.m.length d1)).setCell ⟨w.heap.size, 2, none⟩ (.slice B2 D.h.length d2)) w.heap.size 25 #[.int .i64 D.t, .slice B1 D.m.length d1, .slice B2 D.h.length d2] := by
              intro w' D B1 B2 d1 d2 q' h1 h2 h2' h3 h4
              obtain ⟨hp, hgr⟩ := three_put (.int .i64 D.t) (.slice B1 D.m.length d1) (.slice B2 D.h.length d2) h1 rfl
              exact ⟨(h2.grown hgr (fun x e => .inr (.inl (by injection e with e; omega)))).imp (fun x _ hx => .inr (.inl (Nat.le_of_lt hx))), (h2'.grown hgr (fun x e => .inr (.inl (by injection e with e; omega)))).imp (fun x _ hx => .inr (.inl (Nat.le_of_lt hx))), grown_new h4 hgr (Nat.le_refl _), ((h3.far (by simp; omega) _).far (by simp; omega) _).far (by simp; omega) _, hp⟩
            have FIN := hid fin
            clear fin
            have hl5 := gs3.len
            rcases hx : (x == 0) with _ | _
            · rcases hy : (x == 1) with _ | _
              · rcases hz : (x == 2) with _ | _
                · skip
                  obtain ⟨f1, f2, f3, f4, f5⟩ := FIN.out w3 s A1 A2 c1 c2 (q + 1) gs3.2.2.2.2.2.1 gs3.2.1.1 gs3.2.1.2 gs3.rd gs3.2.2.2.2.1
                  have hlen : s.m.length ≤ 6 ∧ s.h.length ≤ 6 := by omega
                  obtain ⟨c0, d0, e0, cf⟩ := gs3.cells
                  obtain ⟨r0, r1, r2, rl, rf⟩ := gs3.2.2.2.2.2.1.three
                  go_wp2
                  refine bodyPost_ret (v := .agg #[.int .i64 s.t, .slice A1 s.m.length c1, .slice A2 s.h.length c2]) (by simp [results, Try.results10, go_sem, f5.cell]) rfl ?_
                  exact ⟨s, A1, A2, c1, c2, q + 1, rfl, hlen, f1, f2, f3, f4, by omega⟩
                · skip
                  obtain ⟨c0, d0, e0, cf⟩ := gs3.cells
                  go_wp2_with fail
                  refine (spoil_any g (q + 1) A2 c2 s.h 21 _ gs3.seesh gs3.rd (by omega) (by omega)).mono ?_
                  rintro e w6 ⟨A6, c6, ys, q6, rfl, hc6, hy6, hs6, hg6, hr6, hq6⟩
                  have gs6 := gs3.pick hg6 hr6
                  obtain ⟨_, _, z10, z11, z12⟩ := gs6.lt
                  have hgs := grown_set w6 b 2 (.slice A6 ys.length c6)
                  have a7 : At (w6.setCell ⟨b, 2, none⟩ (.slice A6 ys.length c6)) b 25 #[.int .i64 s.t, .slice A1 s.m.length c1, .slice A6 ys.length c6] := by simpa using gs6.1.set 2 (.slice A6 ys.length c6)
                  have hs7 : SeesF (w6.setCell ⟨b, 2, none⟩ (.slice A6 ys.length c6)) (fun x => x = b ∨ x ≤ w.heap.size ∨ x = 0) A6 (ints ys) := (hs6.grown hgs (fun x e => by injection e with e; omega)).imp (fun x _ hx => by rcases hx with e | e | e <;> omega)
                  have ho7 := (gs6.2.1.1).grown hgs (fun x e => .inl (by injection e with e; exact e.symm))
                  have p7 := gs6.2.2.2.2.2.1.past hgs (by omega)
                  obtain ⟨f1, f2, f3, f4, f5⟩ := FIN.out (w6.setCell ⟨b, 2, none⟩ (.slice A6 ys.length c6)) ⟨s.t, s.m, ys⟩ A1 A6 c1 c6 q6 p7 ho7 hs7 (hr6.far (by simp; omega) _) (grown_new gs6.2.2.2.2.1 hgs (by omega))
                  have hlen : s.m.length ≤ 6 ∧ ys.length ≤ 6 := by omega
                  obtain ⟨n0, n1, n2, nf⟩ := gs6.cells
                  obtain ⟨m0, m1, m2, ml, mf⟩ := a7.three
                  obtain ⟨r0, r1, r2, rl, rf⟩ := p7.three
                  clear gs6 gs3 c0 d0 e0 cf hs6 hg6 hs7 ho7 hgs a7 p7
                  go_wp2
                  refine bodyPost_ret (v := .agg #[.int .i64 s.t, .slice A1 s.m.length c1, .slice A6 ys.length c6]) (by simp [results, Try.results10, go_sem, f5.cell]) rfl ?_
                  exact ⟨⟨s.t, s.m, ys⟩, A1, A6, c1, c6, q6, rfl, hlen, f1, f2, f3, f4, by omega⟩
              · skip
                obtain ⟨c0, d0, e0, cf⟩ := gs3.cells
                go_wp2_with fail
                refine (spoil_any g (q + 1) A1 c1 s.m 21 _ gs3.seesm gs3.rd (by omega) (by omega)).mono ?_
                rintro e w6 ⟨A6, c6, ys, q6, rfl, hc6, hy6, hs6, hg6, hr6, hq6⟩
                have gs6 := gs3.pick hg6 hr6
                obtain ⟨_, _, z10, z11, z12⟩ := gs6.lt
                have hgs := grown_set w6 b 1 (.slice A6 ys.length c6)
                have a7 : At (w6.setCell ⟨b, 1, none⟩ (.slice A6 ys.length c6)) b 25 #[.int .i64 s.t, .slice A6 ys.length c6, .slice A2 s.h.length c2] := by simpa using gs6.1.set 1 (.slice A6 ys.length c6)
                have hs7 : SeesF (w6.setCell ⟨b, 1, none⟩ (.slice A6 ys.length c6)) (fun x => x = b ∨ x ≤ w.heap.size ∨ x = 0) A6 (ints ys) := (hs6.grown hgs (fun x e => by injection e with e; omega)).imp (fun x _ hx => by rcases hx with e | e | e <;> omega)
                have ho7 := (gs6.2.1.2).grown hgs (fun x e => .inl (by injection e with e; exact e.symm))
                have p7 := gs6.2.2.2.2.2.1.past hgs (by omega)
                obtain ⟨f1, f2, f3, f4, f5⟩ := FIN.out (w6.setCell ⟨b, 1, none⟩ (.slice A6 ys.length c6)) ⟨s.t, ys, s.h⟩ A6 A2 c6 c2 q6 p7 hs7 ho7 (hr6.far (by simp; omega) _) (grown_new gs6.2.2.2.2.1 hgs (by omega))
                have hlen : ys.length ≤ 6 ∧ s.h.length ≤ 6 := by omega
                obtain ⟨n0, n1, n2, nf⟩ := gs6.cells
                obtain ⟨m0, m1, m2, ml, mf⟩ := a7.three
                obtain ⟨r0, r1, r2, rl, rf⟩ := p7.three
                clear gs6 gs3 c0 d0 e0 cf hs6 hg6 hs7 ho7 hgs a7 p7
                go_wp2
                refine bodyPost_ret (v := .agg #[.int .i64 s.t, .slice A6 ys.length c6, .slice A2 s.h.length c2]) (by simp [results, Try.results10, go_sem, f5.cell]) rfl ?_
                exact ⟨⟨s.t, ys, s.h⟩, A6, A2, c6, c2, q6, rfl, hlen, f1, f2, f3, f4, by omega⟩
            · go_wp2_with fail
              refine (one_any g (q + 1) _ 3 _ [-1, 21, 1] _ (gs3.alloc _).rd (by omega) (At.newAt 3 _ rfl) (by rfl) (by omega) (by rfl) (by omega) (by omega)).mono ?_
              rintro e w4 ⟨y, rfl, _, hg4, hr4⟩
              have gs4 := (gs3.alloc _).pick hg4 hr4
              have hgs := grown_set w4 b 0 (.int .i64 y)
              have a7 : At (w4.setCell ⟨b, 0, none⟩ (.int .i64 y)) b 25 #[.int .i64 y, .slice A1 s.m.length c1, .slice A2 s.h.length c2] := by simpa using gs4.1.set 0 (.int .i64 y)
              have hs7 := gs4.2.1.1.grown hgs (fun x e => .inl (by injection e with e; exact e.symm))
              have ho7 := gs4.2.1.2.grown hgs (fun x e => .inl (by injection e with e; exact e.symm))
              have p7 := gs4.2.2.2.2.2.1.past hgs (by omega)
              obtain ⟨f1, f2, f3, f4, f5⟩ := FIN.out (w4.setCell ⟨b, 0, none⟩ (.int .i64 y)) ⟨y, s.m, s.h⟩ A1 A2 c1 c2 (q + 1 + 1) p7 hs7 ho7 (gs4.rd.far (by simp; omega) _) (grown_new gs4.2.2.2.2.1 hgs (by omega))
              have hlen : s.m.length ≤ 6 ∧ s.h.length ≤ 6 := by omega
              obtain ⟨n0, n1, n2, nf⟩ := gs4.cells
              obtain ⟨_, _, z10, z11, z12⟩ := gs4.lt
              obtain ⟨m0, m1, m2, ml, mf⟩ := a7.three
              obtain ⟨r0, r1, r2, rl, rf⟩ := p7.three
              clear hg4 hr4 gs3 gs4 a7 p7 hs7 ho7 hgs
              go_wp2
              refine bodyPost_ret (v := .agg #[.int .i64 y, .slice A1 s.m.length c1, .slice A2 s.h.length c2]) (by simp [results, Try.results10, go_sem, f5.cell]) rfl ?_
              exact ⟨⟨y, s.m, s.h⟩, A1, A2, c1, c2, q + 1 + 1, rfl, hlen, f1, f2, f3, f4, by omega⟩

end Go.Proofs.Ytmpiigjkmodekaa

/-
  What the function answers that draws the arguments of the laws on several reads. Condition: the code is at most 2^20 bytes.
-/
import Derived.Test.YtmaocmgnkdieeabHoGen
import Derived.Test.YtmaocmgnkdieeabSpoil
namespace Go.Proofs.Ytmaocmgnkdieeab
open Go.RowKit Hos

/-- Hosts and numbers that were drawn; nothing that was there has changed. -/
def DR (w w' : World) (A : Option Addr) (c : Nat) (l : List Hst) (A2 : Option Addr) (c2 : Nat) (gs : List Int) : Prop :=
  Sees w' w'.heap.size A (strip hcl l) ∧ Sees w' w'.heap.size A2 (ints gs) ∧ Below w.heap.size w w' ∧ l.length ≤ 6 ∧ l.length ≤ c ∧ gs.length ≤ 14 ∧ gs.length ≤ c2
section
variable {w w' w'' : World} {A A2 : Option Addr} {c c2 : Nat} {l : List Hst} {gs : List Int}
theorem DR.below (h : DR w w' A c l A2 c2 gs) (hb : Below w'.heap.size w' w'') : DR w w'' A c l A2 c2 gs := by
  obtain ⟨h1, h2, h3, h4⟩ := h
  exact ⟨(h1.below hb).more hb.size, (h2.below hb).more hb.size, h3.trans (hb.mono h3.size), h4⟩
theorem DR.drewN (h : DR w w' A c l A2 c2 gs) (k : Nat) : DR w (w'.drewN k) A c l A2 c2 gs := h.below (below_drewN (Below.refl _ _) k)
theorem DR.drew (h : DR w w' A c l A2 c2 gs) : DR w w'.drew A c l A2 c2 gs := h.below ((Below.refl _ _).drew)
theorem DR.sees (h : DR w w' A c l A2 c2 gs) : Sees w' w'.heap.size A (strip hcl l) := h.1
theorem DR.lags (h : DR w w' A c l A2 c2 gs) : Sees w' w'.heap.size A2 (ints gs) := h.2.1
theorem DR.bel (h : DR w w' A c l A2 c2 gs) : Below w.heap.size w w' := h.2.2.1
theorem DR.n1 (h : DR w w' A c l A2 c2 gs) : l.length ≤ 4194304 := Nat.le_trans h.2.2.2.1 (by decide)
theorem DR.n2 (h : DR w w' A c l A2 c2 gs) : gs.length ≤ 4194304 := Nat.le_trans h.2.2.2.2.2.1 (by decide)
end
theorem sees_next {w : World} {B b o : Nat} {xs : List Int} (h : Sees w B (some ⟨b, o, none⟩) (ints xs)) : Sees w B (some ⟨b, o + 1, none⟩) (ints (xs.drop 1)) := by
  have e : ints (xs.drop 1) = (ints xs).drop 1 := by simp [ints]
  rw [e]
  intro hx
  obtain ⟨b', o', e1, h1, h2⟩ := h (by intro e2; rw [e2] at hx; simp at hx)
  injection e1 with e1
  injection e1 with e1 e2
  subst e1 e2
  refine ⟨b, o + 1, rfl, h1, fun j u hu => ?_⟩
  rw [← h2 (1 + j) u (by rw [← hu, List.getElem?_drop])]
  simp [Nat.add_assoc]
theorem sees_none {w : World} {B : Nat} {A : Option Addr} {xs : List Int} (h : xs.length ≤ 1) : Sees w B A (ints (xs.drop 1)) := by
  rw [List.drop_eq_nil_of_le h]
  intro hx
  exact absurd rfl hx
def HoD3 (w : World) (e : Ending) (w' : World) : Prop := ∃ A c l A2 c2 gs, e = .returned (.tuple #[.slice A (List.length l) c, .slice A2 (List.length gs) c2]) ∧ DR w w' A c l A2 c2 gs
set_option maxHeartbeats 2000000 in
theorem drawRouteReads_any (A : Option Addr) (n c : Nat) (zs : List Int) (w : World) (h : Sees w w.heap.size A (byts zs)) (hz : ∀ z ∈ zs, 0 ≤ z ∧ z ≤ 255) (hn : zs.length = n) (hc : n ≤ c) (hm : n ≤ 1048576) (hcc : c ≤ maxLen) :
    Calls Try.prog 11 #[.slice A n c] w (HoD3 w) := by
  have HZ := hid hz
  have HE := hid hn
  have HC := hid hcc
  clear hz hn hcc
  obtain ⟨i0, hi0, hz0, hz1, hz2⟩ := info_parts intInfo
  go_enter Try.func11, Try.ntmps11
  go_wp2_with fail
  refine (newReader_any A n c zs _ h HZ.out HE.out hc hm HC.out).mono ?_
  rintro e w1 ⟨rfl, hb1, hr1⟩
  go_wp2_with fail
  refine (anyHosts_any w.heap.size 0 _ hr1 (by omega)).mono ?_
  rintro e w2 ⟨A2, c2, l, q, rfl, gl, hl, hq⟩
  obtain ⟨A', c', e', hc2, _, _⟩ := OwnS.form gl.own
  injection e' with e1 _ e'
  subst e1
  subst e'
  have hd := DLs.of_gl (m := 6) hb1 gl (Nat.le_refl _) hl
  obtain ⟨y1, y2, y3⟩ := gl.lt
  have hS : SeesF w2 (fun b => b = w.heap.size ∨ w2.heap.size ≤ b) A2 (strip hcl l) := SeesF.of_row gl.own.out (fun b h1 h2 h3 => by omega)
  have hr2 := gl.rd
  have hbw := hd.bel
  clear gl hd hb1 hr1
  obtain ⟨M, hM⟩ : ∃ M, M = w2.heap.size := ⟨_, rfl⟩
  rw [← hM] at hS
  have hS3 := hS.alloc (.cells #[] 3)
  have hr3 := hr2.alloc (.cells #[] 3)
  have hB3 := hbw.alloc hbw.size (.cells #[] 3)
  have ho3 : Own (w2.alloc (.cells #[] 3)) M (.slice (some ⟨w2.heap.size, 0, none⟩) 0 0) [] := made_at 3 1 rfl (by omega)
  clear hS hr2 hbw
  go_wp2_with fail
  refine (one_any w.heap.size q _ 6 _ [4, 6, 2, 12, 0, 13] _ (hr3.alloc _) (by omega) (At.newAt 3 _ (by simp)) (by rfl) (by simp; omega) (by rfl) (by omega) (by omega)).mono ?_
  rintro e w4 ⟨x, rfl, mx, hg4, hr4⟩
  have hx : 0 ≤ x ∧ x ≤ 13 := by simp at mx; omega
  obtain ⟨n0, rfl⟩ : ∃ n0 : Nat, x = n0 := ⟨x.toNat, by omega⟩
  have hS4 := (hS3.alloc _).grown hg4 (fun b e => .inl (by injection e with e; exact e.symm))
  have ho4 : Own w4 M (.slice (some ⟨w2.heap.size, 0, none⟩) 0 0) [] := row_kept (own_alloc ho3 _) hg4 (fun k hk e => by injection e with e; have := (World.ownsRow.lt ho3 k hk).1; omega)
  have hB4 := (hB3.alloc hB3.size _).trans (below_of_grown hg4 (B := w.heap.size) (by omega) (by simp; omega))
  have hz4 : M ≤ w4.heap.size := by have := hg4.size; simp at this; omega
  obtain ⟨p0, hp0⟩ : ∃ p0, p0 = q + 1 := ⟨_, rfl⟩
  rw [← hp0] at hr4
  have hp31 : p0 ≤ 31 := by omega
  clear hS3 hr3 hB3 ho3 mx hg4
  have hgM : w.heap.size < M := by omega
  clear hM
  go_wp2_with fail
  go_loopw [6, 7] (fun v i wr => ∃ (k : Nat) (A3 : Option Addr) (c3 : Nat) (gs : List Int) (q : Nat), i = .int .i64 k ∧ gs.length + k ≤ 13 ∧ q + k ≤ p0 + 13 ∧ v = .slice A3 gs.length c3 ∧ Own wr M v gs ∧ Rd wr w.heap.size q ∧ SeesF wr (fun b => b = w.heap.size ∨ M ≤ b) A2 (strip hcl l) ∧ Below w.heap.size w wr ∧ M ≤ wr.heap.size) (fun _ i _ => (intOf i).toNat)
  case atStart => exact ⟨n0, _, _, [], p0, rfl, by simp; omega, by omega, rfl, ho4, hr4, hS4, hB4, hz4⟩
  case round =>
    clear ho4 hr4 hS4 hB4 hz4
    obtain ⟨k, A3, c3, gs, q, rfl, hk, hq, rfl, ho, hr, hS, hB, hz⟩ := hrel
    by_cases hk0 : 0 < k
    · have hki : (0 : Int) < (k : Int) := by omega
      go_wp2_with fail
      refine (one_any w.heap.size q _ 4 _ [0, 5, 10, 1000] _ (hr.alloc _) (by omega) (At.newAt 3 _ (by simp)) (by rfl) (by omega) (by rfl) (by omega) (by omega)).mono ?_
      rintro e w5 ⟨x, rfl, mx, hg5, hr5⟩
      have hS5 := (hS.alloc _).grown hg5 (fun b e => .inl (by injection e with e; exact e.symm))
      have ho5 : Own w5 M (.slice A3 gs.length c3) gs := row_kept (own_alloc ho _) hg5 (fun k hk e => by injection e with e; have := (World.ownsRow.lt ho k hk).1; omega)
      have hB5 := (hB.alloc hB.size _).trans (below_of_grown hg5 (B := w.heap.size) (by omega) (by simp; omega))
      have hz5 : M ≤ w5.heap.size := by have := hg5.size; simp at this; omega
      clear hS ho hB hz hr mx hg5
      go_wp2_with (at_builtin; refine wpList_append_own _ rfl _ _ 26 rfl M 3 i0 (.int .i64 0) 1 8 Try.underlying26 hi0 hz0 hz1 hz2 rfl (by decide) _ _ _ rfl (own_alloc ho5 _) ⟨w5.heap.size, 0, none⟩ 1 1 [.int .i64 x] rfl rfl (cell_one_new _ _ _) ?c2 ?c3 ?c4 ?c5 ?_)
      case c2 => simp [Value.oneCell']
      case c3 => unfold maxLen; omega
      case c4 => omega
      case c5 => simp; omega
      case _ =>
        intro v6 w6 h6 hg6 _
        have hlow := World.ownsRow.lt ho5
        have ho6 : Own w6 M v6 (gs ++ [x]) := by unfold Own; rw [ints_app, List.length_append]; exact h6
        obtain ⟨A6, c6, rfl, _⟩ := own_form h6
        have hbM : Below M w5 w6 := ((Below.refl M w5).alloc (by omega) (.cells #[.int .i64 x] 3)).grown hg6 (by simp; omega) (fun k hk => (hlow k hk).1)
        have hr6 := (hr5.alloc (.cells #[.int .i64 x] 3)).below (B := M) ((Below.refl _ _).grown hg6 (by simp; omega) (fun k hk => (hlow k hk).1)) (by omega)
        have hS6 := (hS5.alloc (.cells #[.int .i64 x] 3)).grown hg6 (fun b hb => .inr (hlow b hb).1)
        have hB6 : Below w.heap.size w w6 := hB5.trans (hbM.mono (by omega))
        have hz6 : M ≤ w6.heap.size := Nat.le_trans hz5 hbM.size
        have e6 : (gs ++ [x]).length = gs.length + 1 := by simp
        clear h6 hg6 hbM hlow ho5 hr5 hS5 hB5 hz5
        go_wp2
        go_roundw
        case rel => exact ⟨k - 1, A6, c6, gs ++ [x], q + 1, by go_num, by rw [e6]; omega, by omega, by rw [e6], ho6, hr6, hS6, hB6, hz6⟩
        case measure => simp [intOf]; omega
    · have hki : ¬ (0 : Int) < (k : Int) := by omega
      go_wp2_with fail
      refine (spoil_any w.heap.size q A3 c3 gs 1001 _ (Sees.of_own ho) hr (by omega) (by omega)).mono ?_
      rintro e w5 ⟨A4, c4, ys, q5, rfl, hc4, hy4, hS4, hg5, _, _⟩
      have hS5 := hS.grown hg5 (fun b e => .inl (by injection e with e; exact e.symm))
      have hB5 := hB.trans (below_of_grown hg5 (B := w.heap.size) (by omega) (by omega))
      go_wp2
      go_ret2
      exact ⟨A2, c2, l, A4, c4, ys, rfl, hS5.sees, hS4.sees, hB5, hl, hc2, by omega, hc4⟩

end Go.Proofs.Ytmaocmgnkdieeab

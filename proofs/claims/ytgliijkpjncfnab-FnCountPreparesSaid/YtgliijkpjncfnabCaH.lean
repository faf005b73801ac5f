/-
  What the model's someNames and the functions answer that draw the arguments of the laws on one cache. Condition: the code is at most 2^20 bytes.
-/
import Derived.Test.YtgliijkpjncfnabCaG
namespace Go.Proofs.Ytgliijkpjncfnab
open Go.RowKit Cac

/-- A cache that was drawn; nothing that was there has changed. -/
def DC (w w' : World) (B : Option Addr) (d : Nat) (C : Cch) : Prop := SeesF w' (fun b => b < w.heap.size) B (ints C.n) ∧ Below w.heap.size w w' ∧ C.n.length ≤ 8 ∧ C.n.length ≤ d
section
variable {w w' w'' : World} {B : Option Addr} {d : Nat} {C : Cch}
theorem DC.below (h : DC w w' B d C) (hb : Below w'.heap.size w' w'') : DC w w'' B d C := ⟨h.1.below hb, h.2.1.trans (hb.mono h.2.1.size), h.2.2⟩
theorem DC.drewN (h : DC w w' B d C) (k : Nat) : DC w (w'.drewN k) B d C := h.below (below_drewN (Below.refl _ _) k)
theorem DC.drew (h : DC w w' B d C) : DC w w'.drew B d C := h.below ((Below.refl _ _).drew)
theorem DC.alloc (h : DC w w' B d C) (o : Obj) : DC w (w'.alloc o) B d C := h.below ((Below.refl _ _).alloc (Nat.le_refl _) o)
theorem DC.sees (h : DC w w' B d C) : SeesN w' w'.heap.size B C := h.1.sees
theorem DC.bel (h : DC w w' B d C) : Below w.heap.size w w' := h.2.1
theorem DC.n4 (h : DC w w' B d C) : C.n.length ≤ 4194304 := Nat.le_trans h.2.2.1 (by decide)
theorem DC.cap (h : DC w w' B d C) : C.n.length ≤ d := h.2.2.2
end
def CaD0 (w : World) (e : Ending) (w' : World) : Prop := ∃ B d C, e = .returned (.agg #[.int .i64 (Cch.r C), .slice B (Cch.n C).length d]) ∧ DC w w' B d C
def CaD1 (w : World) (e : Ending) (w' : World) : Prop := ∃ B d C, ∃ i : Int, e = .returned (.tuple #[.agg #[.int .i64 (Cch.r C), .slice B (Cch.n C).length d], .int .i64 i]) ∧ DC w w' B d C
def CaD2 (w : World) (e : Ending) (w' : World) : Prop := ∃ B d C A c gs, e = .returned (.tuple #[.agg #[.int .i64 (Cch.r C), .slice B (Cch.n C).length d], .slice A (List.length gs) c]) ∧ DC w w' B d C ∧ SeesF w' (fun b => b < w.heap.size) A (ints gs) ∧ gs.length ≤ 18 ∧ gs.length ≤ c
/-- Names that were drawn: they lie in new blocks; only the reader's block has changed. -/
def NamesAns (w : World) (g p : Nat) (e : Ending) (w' : World) : Prop := ∃ (A : Option Addr) (c : Nat) (ys : List Int) (q : Nat),
  e = .returned (.slice A ys.length c) ∧ ys.length ≤ c ∧ ys.length ≤ 18 ∧ SeesF w' (fun b => b < w.heap.size) A (ints ys) ∧ w.grownBy w' (some g) ∧ Rd w' g q ∧ q ≤ p + 25
set_option maxHeartbeats 4000000 in
theorem someNames_any (g p : Nat) (w : World) (h : Rd w g p) (hp : p < 900) :
    Calls Try.prog 42 #[.pointer (some ⟨g, 0, none⟩)] w (NamesAns w g p) := by
  have hg := h.lt
  obtain ⟨i0, hi0, hz0, hz1, hz2⟩ := info_parts intInfo
  have hr0 := h.alloc (.cells #[] 3)
  have ho0 : Own (w.alloc (.cells #[] 3)) w.heap.size (.slice (some ⟨w.heap.size, 0, none⟩) 0 0) [] := made_at 3 1 rfl (Nat.le_refl _)
  have hg0 : w.grownBy (w.alloc (.cells #[] 3)) (some g) := grown_of_below ((Below.refl _ _).alloc (Nat.le_refl _) _) _
  go_enter Try.func42, Try.ntmps42
  go_wp2_with fail
  refine (one_any g p _ 7 _ [6, 8, 4, 16, 2, 0, 17] _ (hr0.alloc _) (by omega) (At.newAt 3 _ (by simp)) (by rfl) (by simp; omega) (by rfl) (by omega) (by omega)).mono ?_
  rintro e w1 ⟨x, rfl, mx, hg1, hr1⟩
  have hx : 0 ≤ x ∧ x ≤ 17 := by simp at mx; omega
  obtain ⟨n0, rfl⟩ : ∃ n0 : Nat, x = n0 := ⟨x.toNat, by omega⟩
  have ho1 : Own w1 w.heap.size (.slice (some ⟨w.heap.size, 0, none⟩) 0 0) [] := row_kept (own_alloc ho0 _) hg1 (fun k hk e => by injection e with e; have := (World.ownsRow.lt ho0 k hk).1; omega)
  have hgg := grown_trans (grown_trans hg0 (grown_of_below ((Below.refl _ _).alloc (Nat.le_refl _) (.cells #[.int .i64 6, .int .i64 8, .int .i64 4, .int .i64 16, .int .i64 2, .int .i64 0, .int .i64 17] 3)) (some g))) hg1
  have hz1' : w.heap.size ≤ w1.heap.size := hgg.size
  clear hr0 ho0 hg0 hg1 mx
  go_wp2_with fail
  go_loopw [3, 4] (fun v i wr => ∃ (k : Nat) (A : Option Addr) (c : Nat) (ys : List Int) (q : Nat), i = .int .i64 k ∧ ys.length + k ≤ 17 ∧ q + k ≤ p + 18 ∧ v = .slice A ys.length c ∧ Own wr w.heap.size v ys ∧ Rd wr g q ∧ w.grownBy wr (some g)) (fun _ i _ => (intOf i).toNat)
  case atStart => exact ⟨n0, _, _, [], p + 1, rfl, by simp; omega, by omega, rfl, ho1, hr1, hgg⟩
  case round =>
    clear ho1 hr1 hgg
    obtain ⟨k, A, c, ys, q, rfl, hk, hq, rfl, ho, hr, hgr⟩ := hrel
    have hzr := hgr.size
    by_cases hk0 : 0 < k
    · have hki : (0 : Int) < (k : Int) := by omega
      go_wp2_with fail
      refine (pick_any g q 6 _ hr (by omega)).mono ?_
      rintro e w5 ⟨x, rfl, _, _, hg5, hr5⟩
      have ho5 : Own w5 w.heap.size (.slice A ys.length c) ys := row_kept ho.out hg5 (fun k hk e => by injection e with e; have := (ho.out.lt k hk).1; omega)
      have hg6 := grown_trans hgr hg5
      have hz5 := hg6.size
      have hlow := ho5.out.lt
      clear ho hr hgr hg5
      go_wp2_with (at_builtin; refine wpList_append_own _ rfl _ _ 23 rfl w.heap.size 3 i0 (.int .i64 0) 1 8 Try.underlying23 hi0 hz0 hz1 hz2 rfl (by decide) _ _ _ rfl (own_alloc ho5.out _) ⟨w5.heap.size, 0, none⟩ 1 1 [.int .i64 x] rfl rfl (cell_one_new _ _ _) ?c2 ?c3 ?c4 ?c5 ?_)
      case c2 => simp [Value.oneCell']
      case c3 => unfold maxLen; omega
      case c4 => omega
      case c5 => simp; omega
      case _ =>
        intro v6 w6 h6 hg7 _
        have ho6 : Own w6 w.heap.size v6 (ys ++ [x]) := by unfold Own; rw [ints_app, List.length_append]; exact h6
        have hb6 : Below w.heap.size (w5.alloc (.cells #[.int .i64 x] 3)) w6 := (Below.refl _ _).grown hg7 (by simp; omega) (fun q hq => (hlow q hq).1)
        have hr6 := (hr5.alloc (.cells #[.int .i64 x] 3)).below hb6 hg
        have hgw := grown_low (grown_trans hg6 (grown_of_below ((Below.refl _ _).alloc (Nat.le_refl _) (.cells #[.int .i64 x] 3)) (some g))) hb6 (Nat.le_refl _)
        obtain ⟨A6, c6, rfl, _⟩ := own_form h6
        have e6 : (ys ++ [x]).length = ys.length + 1 := by simp
        clear h6 hg7 hb6 hlow ho5 hr5 hg6
        go_wp2
        go_roundw
        case rel => exact ⟨k - 1, A6, c6, ys ++ [x], q + 1, by go_num, by rw [e6]; omega, by omega, by rw [e6], ho6, hr6, hgw⟩
        case measure => simp [intOf]; omega
    · have hki : ¬ (0 : Int) < (k : Int) := by omega
      go_wp2_with fail
      refine (spoil_any g q A c ys 10 _ (Sees.of_own ho) hr (by omega) (by omega)).mono ?_
      rintro e w5 ⟨A4, c4, zs, q5, rfl, hc4, hy4, hS4, hg5, hr5, hq5⟩
      go_wp2
      go_ret
      exact ⟨A4, c4, zs, q5, rfl, hc4, by omega, hS4.imp (fun b _ hb => by omega), grown_trans hgr hg5, hr5, by omega⟩

set_option maxHeartbeats 4000000 in
theorem drawUseStatement_any (A : Option Addr) (n c : Nat) (zs : List Int) (w : World) (h : Sees w w.heap.size A (byts zs)) (hz : ∀ z ∈ zs, 0 ≤ z ∧ z ≤ 255) (hn : zs.length = n) (hc : n ≤ c) (hm : n ≤ 1048576) (hcc : c ≤ maxLen) :
    Calls Try.prog 16 #[.slice A n c] w (CaD1 w) := by
  have HZ := hid hz
  have HE := hid hn
  have HC := hid hcc
  clear hz hn hcc
  have pz0 := At.new w 25 #[.int .i64 0, .slice none 0 0]
  have hb0 := (Below.refl w.heap.size w).alloc (Nat.le_refl _) (.cells #[.int .i64 0, .slice none 0 0] 25)
  have h0 := h.alloc (Nat.le_refl _) (.cells #[.int .i64 0, .slice none 0 0] 25)
  go_enter Try.func16, Try.ntmps16
  go_wp2_with fail
  refine (newReader_any A n c zs _ (h0.more (by simp)) HZ.out HE.out hc hm HC.out).mono ?_
  rintro e w1 ⟨rfl, hb1, hr1⟩
  have hB1 := hb0.trans (hb1.mono hb0.size)
  have pz1 := pz0.below hb1 pz0.lt
  obtain ⟨g, hg⟩ : ∃ g, g = w.heap.size + 1 := ⟨_, rfl⟩
  rw [show (w.alloc (.cells #[.int .i64 0, .slice none 0 0] 25)).heap.size = w.heap.size + 1 by simp, ← hg] at hr1
  have hg2 := hg
  have hgl := hr1.lt
  clear hb0 hb1 pz0 h0
  go_wp2_with fail
  simp only [← hg]
  refine (anyCache_any g 0 _ hr1 (by omega)).mono ?_
  rintro e w2 ⟨C, B, d, q, rfl, hcd, hcl, hS, hgr, hr2, hq⟩
  have pz2 := pz1.past hgr (by omega)
  have hB2 := hB1.trans (below_of_grown hgr (B := w.heap.size) (by omega) (by omega))
  have hz2 := hgr.size
  have hwg : w.heap.size < g := by omega
  clear hr1 pz1 hB1 hgr hg hg2
  have px2 := At.new w2 25 #[.int .i64 C.r, .slice B C.n.length d]
  have hr3 := hr2.alloc (.cells #[.int .i64 C.r, .slice B C.n.length d] 25)
  have pz3 := pz2.alloc (.cells #[.int .i64 C.r, .slice B C.n.length d] 25)
  have hB3 := hB2.alloc hB2.size (.cells #[.int .i64 C.r, .slice B C.n.length d] 25)
  have hS3 := hS.alloc (.cells #[.int .i64 C.r, .slice B C.n.length d] 25)
  have hz3 : w2.heap.size < (w2.alloc (.cells #[.int .i64 C.r, .slice B C.n.length d] 25)).heap.size := px2.lt
  clear hr2 pz2 hB2 hS
  have hgm : g < w2.heap.size := by omega
  have hwm : w.heap.size < w2.heap.size := by omega
  by_cases hn0 : 0 < C.n.length
  · have hni : (C.n.length : Int) > 0 := by omega
    have hni2 : (0 : Int) < (C.n.length : Int) := by omega
    obtain ⟨p0, p1, pl, pf⟩ := px2.two
    go_wp2_with fail
    refine (pick_any g q 2 _ hr3 (by omega)).mono ?_
    rintro e w4 ⟨x, rfl, _, _, hg4, hr4⟩
    have px4 := px2.past hg4 (by omega)
    have pz4 := pz3.past hg4 (by omega)
    have hz3' := hB3.size
    have hB4 := hB3.trans (below_of_grown hg4 (B := w.heap.size) (by omega) (by omega))
    have hS4 := hS3.grown hg4 (fun x e => by injection e with e; omega)
    have hz4 : w2.heap.size < w4.heap.size := Nat.lt_of_lt_of_le hz3 hg4.size
    clear px2 pz3 hB3 hS3 hr3 hg4 p0 p1 pl pf hz3 hz3'
    obtain ⟨m, hm2⟩ : ∃ m, m = w2.heap.size := ⟨_, rfl⟩
    simp only [← hm2] at px4 hz4 hgm hwm ⊢
    clear hm2
    rcases hx : (x == 0) with _ | _
    · skip
      have pxd := px4.drew
      have pzd := pz4.drew
      have hBd := hB4.drew
      have hSd := hS4.drew
      have hrd := hr4.drew
      have hzd : m < w4.drew.heap.size := hz4
      have hzw := hB4.size
      have hmw : ¬ m = w.heap.size := by omega
      have hmw2 : ¬ w.heap.size = m := by omega
      obtain ⟨p0, p1, pl, pf⟩ := px4.two
      go_wp2_with fail
      go_region_held3 (fun w' => w'.cell? ⟨m, 0, none⟩ = some (.int .i64 C.r) ∧ w'.cell? ⟨m, 1, none⟩ = some (.slice B C.n.length d))
        (first | exact ⟨p0, p1⟩ | exact ⟨y0, y1⟩ | go_keep)
        (first
          | (go_at_call 37; refine (pick_any g (q + 1) 12 _ hrd (by omega)).mono ?_; rintro e w9 ⟨z, rfl, hz0, hz12, hg9, hr9⟩; have hz13 := hz12 (by omega); have hwz : IntKind.i64.wrap (z - 1) = z - 1 := (by rw [IntKind.wrap_i64]; omega); have px9 := pxd.past hg9 (by omega); have pz9 := pzd.past hg9 (by omega); have hB9 := hBd.trans (below_of_grown hg9 (B := w.heap.size) (by omega) (by omega)); have hS9 := hSd.grown hg9 (fun x e => by injection e with e; omega); have hzz9 := hg9.size; obtain ⟨y0, y1, yl, yf⟩ := px9.two; obtain ⟨v0, v1, vl, vf⟩ := pz9.two)
          | fail)
      all_goals
        obtain ⟨hp, hgz⟩ := two_put (.int .i64 C.r) (.slice B C.n.length d) pz9 rfl
        have hBf := below_put hB9 hgz (Nat.le_refl _) hB9.size
        have hSf := hS9.grown hgz (fun x e => by injection e with e; omega)
        go_wp2
        refine bodyPost_ret (v := .tuple #[.agg #[.int .i64 C.r, .slice B C.n.length d], .int .i64 (z - 1)]) (by simp [results, Try.results16, go_sem, hp.cell]) rfl ?_
        exact ⟨B, d, C, (z - 1), by simp, hSf.imp (fun x _ hx => by omega), hBf, hcl, hcd⟩
    · skip
      obtain ⟨bb, oo, hBe, hbl, hbF, _⟩ := hS4 (by intro e; have := ints_len C.n; rw [e] at this; simp at this; omega)
      subst hBe
      have hbw : ¬ bb = w.heap.size := by omega
      have hbw2 : ¬ w.heap.size = bb := by omega
      clear hbF
      have pxd := px4.drew
      have pzd := pz4.drew
      have hBd := hB4.drew
      have hSd := hS4.drew
      have hrd := hr4.drew
      have hzd : m < w4.drew.heap.size := hz4
      have hzw := hB4.size
      have hmw : ¬ m = w.heap.size := by omega
      have hmw2 : ¬ w.heap.size = m := by omega
      obtain ⟨p0, p1, pl, pf⟩ := px4.two
      have pc : ∀ i (hi : i < C.n.length), w4.cell? ⟨bb, oo + i, none⟩ = some (.int .i64 C.n[i]) := fun i hi => (by obtain ⟨b', o', e', _, e0⟩ := hS4.sees.int hi; injection e' with e'; injection e' with e1 e2; subst e1 e2; exact e0)
      go_wp2_with fail
      go_region_held3 (fun w' => w'.cell? ⟨m, 0, none⟩ = some (.int .i64 C.r) ∧ w'.cell? ⟨m, 1, none⟩ = some (.slice (some ⟨bb, oo, none⟩) C.n.length d) ∧ ∀ i (hi : i < C.n.length), w'.cell? ⟨bb, oo + i, none⟩ = some (.int .i64 C.n[i]))
        (first | exact ⟨p0, p1, pc⟩ | exact ⟨y0, y1, yc⟩ | (refine ⟨?_, ?_, fun i hi => ?_⟩ <;> go_keep) | go_keep)
        (first
          | (go_at_call 37; refine (pick_any g (q + 1) (C.n.length : Int) _ hrd (by omega)).mono ?_; rintro e w9 ⟨z, rfl, hz0, hz12, hg9, hr9⟩; have hz13 := hz12 (by omega); obtain ⟨j, rfl⟩ : ∃ j : Nat, z = j := ⟨z.toNat, (by omega)⟩; have hj : j < C.n.length := (by omega); have px9 := pxd.past hg9 (by omega); have pz9 := pzd.past hg9 (by omega); have hB9 := hBd.trans (below_of_grown hg9 (B := w.heap.size) (by omega) (by omega)); have hS9 := hSd.grown hg9 (fun x e => by injection e with e; omega); have hzz9 := hg9.size; obtain ⟨y0, y1, yl, yf⟩ := px9.two; obtain ⟨v0, v1, vl, vf⟩ := pz9.two; have yc : ∀ i (hi : i < C.n.length), w9.cell? ⟨bb, oo + i, none⟩ = some (.int .i64 C.n[i]) := fun i hi => (by obtain ⟨b', o', e', _, e0⟩ := hS9.sees.int hi; injection e' with e'; injection e' with e1 e2; subst e1 e2; exact e0); have yj := yc j hj)
          | fail)
      all_goals
        obtain ⟨hp, hgz⟩ := two_put (.int .i64 C.r) (.slice (some ⟨bb, oo, none⟩) C.n.length d) pz9 rfl
        have hBf := below_put hB9 hgz (Nat.le_refl _) hB9.size
        have hSf := hS9.grown hgz (fun x e => by injection e with e; omega)
        go_wp2
        refine bodyPost_ret (v := .tuple #[.agg #[.int .i64 C.r, .slice (some ⟨bb, oo, none⟩) C.n.length d], .int .i64 C.n[j]]) (by simp [results, Try.results16, go_sem, hp.cell]) rfl ?_
        exact ⟨some ⟨bb, oo, none⟩, d, C, C.n[j], by simp, hSf.imp (fun x _ hx => by omega), hBf, hcl, hcd⟩
  · have hni : ¬ (C.n.length : Int) > 0 := by omega
    have hni2 : ¬ (0 : Int) < (C.n.length : Int) := by omega
    obtain ⟨p0, p1, pl, pf⟩ := px2.two
    go_wp2_with fail
    obtain ⟨m, hm2⟩ : ∃ m, m = w2.heap.size := ⟨_, rfl⟩
    obtain ⟨w3, hw3⟩ : ∃ w3, w3 = w2.alloc (.cells #[.int .i64 C.r, .slice B C.n.length d] 25) := ⟨_, rfl⟩
    simp only [← hw3] at px2 hr3 pz3 hB3 hS3 hz3 ⊢
    simp only [← hm2] at px2 hz3 hgm hwm ⊢
    clear p0 p1 pl pf hm2 hw3
    have px3 := px2
    clear px2
    have pxd := px3.drew
    have pzd := pz3.drew
    have hBd := hB3.drew
    have hSd := hS3.drew
    have hrd := hr3.drew
    have hzd : m < w3.drew.heap.size := hz3
    have hzw := hB3.size
    have hmw : ¬ m = w.heap.size := by omega
    have hmw2 : ¬ w.heap.size = m := by omega
    obtain ⟨p0, p1, pl, pf⟩ := px3.two
    go_region_held3 (fun w' => w'.cell? ⟨m, 0, none⟩ = some (.int .i64 C.r) ∧ w'.cell? ⟨m, 1, none⟩ = some (.slice B C.n.length d))
      (first | exact ⟨p0, p1⟩ | exact ⟨y0, y1⟩ | go_keep)
      (first
        | (go_at_call 37; refine (pick_any g (q) 12 _ hrd (by omega)).mono ?_; rintro e w9 ⟨z, rfl, hz0, hz12, hg9, hr9⟩; have hz13 := hz12 (by omega); have hwz : IntKind.i64.wrap (z - 1) = z - 1 := (by rw [IntKind.wrap_i64]; omega); have px9 := pxd.past hg9 (by omega); have pz9 := pzd.past hg9 (by omega); have hB9 := hBd.trans (below_of_grown hg9 (B := w.heap.size) (by omega) (by omega)); have hS9 := hSd.grown hg9 (fun x e => by injection e with e; omega); have hzz9 := hg9.size; obtain ⟨y0, y1, yl, yf⟩ := px9.two; obtain ⟨v0, v1, vl, vf⟩ := pz9.two)
        | fail)
    all_goals
      obtain ⟨hp, hgz⟩ := two_put (.int .i64 C.r) (.slice B C.n.length d) pz9 rfl
      have hBf := below_put hB9 hgz (Nat.le_refl _) hB9.size
      have hSf := hS9.grown hgz (fun x e => by injection e with e; omega)
      go_wp2
      refine bodyPost_ret (v := .tuple #[.agg #[.int .i64 C.r, .slice B C.n.length d], .int .i64 (z - 1)]) (by simp [results, Try.results16, go_sem, hp.cell]) rfl ?_
      exact ⟨B, d, C, (z - 1), by simp, hSf.imp (fun x _ hx => by omega), hBf, hcl, hcd⟩

set_option maxHeartbeats 4000000 in
theorem drawDropStatement_any (A : Option Addr) (n c : Nat) (zs : List Int) (w : World) (h : Sees w w.heap.size A (byts zs)) (hz : ∀ z ∈ zs, 0 ≤ z ∧ z ≤ 255) (hn : zs.length = n) (hc : n ≤ c) (hm : n ≤ 1048576) (hcc : c ≤ maxLen) :
    Calls Try.prog 11 #[.slice A n c] w (CaD1 w) := by
  have HZ := hid hz
  have HE := hid hn
  have HC := hid hcc
  clear hz hn hcc
  have pz0 := At.new w 25 #[.int .i64 0, .slice none 0 0]
  have hb0 := (Below.refl w.heap.size w).alloc (Nat.le_refl _) (.cells #[.int .i64 0, .slice none 0 0] 25)
  have h0 := h.alloc (Nat.le_refl _) (.cells #[.int .i64 0, .slice none 0 0] 25)
  go_enter Try.func11, Try.ntmps11
  go_wp2_with fail
  refine (drawUseStatement_any A n c zs _ (h0.more (by simp)) HZ.out HE.out hc hm HC.out).mono ?_
  rintro e w1 ⟨B, d, C, i, rfl, hs1, hb1, hcl, hcd⟩
  have hB1 := hb0.trans (hb1.mono hb0.size)
  have pz1 := pz0.below hb1 pz0.lt
  obtain ⟨p0, p1, pl, pf⟩ := pz1.two
  obtain ⟨hp, hgz⟩ := two_put (.int .i64 C.r) (.slice B C.n.length d) pz1 rfl
  have hBf := below_put hB1 hgz (Nat.le_refl _) hB1.size
  have hSf := hs1.grown hgz (fun x e => by injection e with e; simp; omega)
  go_wp2
  refine bodyPost_ret (v := .tuple #[.agg #[.int .i64 C.r, .slice B C.n.length d], .int .i64 i]) (by simp [results, Try.results11, go_sem, hp.cell]) rfl ?_
  exact ⟨B, d, C, i, rfl, hSf.imp (fun x _ hx => by simp; omega), hBf, hcl, hcd⟩

set_option maxHeartbeats 4000000 in
theorem drawCountPrepares_any (A : Option Addr) (n c : Nat) (zs : List Int) (w : World) (h : Sees w w.heap.size A (byts zs)) (hz : ∀ z ∈ zs, 0 ≤ z ∧ z ≤ 255) (hn : zs.length = n) (hc : n ≤ c) (hm : n ≤ 1048576) (hcc : c ≤ maxLen) :
    Calls Try.prog 22 #[.slice A n c] w (CaD2 w) := by
  have HZ := hid hz
  have HE := hid hn
  have HC := hid hcc
  clear hz hn hcc
  have pz0 := At.new w 25 #[.int .i64 0, .slice none 0 0]
  have hb0 := (Below.refl w.heap.size w).alloc (Nat.le_refl _) (.cells #[.int .i64 0, .slice none 0 0] 25)
  have h0 := h.alloc (Nat.le_refl _) (.cells #[.int .i64 0, .slice none 0 0] 25)
  go_enter Try.func22, Try.ntmps22
  go_wp2_with fail
  refine (newReader_any A n c zs _ (h0.more (by simp)) HZ.out HE.out hc hm HC.out).mono ?_
  rintro e w1 ⟨rfl, hb1, hr1⟩
  have hB1 := hb0.trans (hb1.mono hb0.size)
  have pz1 := pz0.below hb1 pz0.lt
  obtain ⟨g, hg⟩ : ∃ g, g = w.heap.size + 1 := ⟨_, rfl⟩
  rw [show (w.alloc (.cells #[.int .i64 0, .slice none 0 0] 25)).heap.size = w.heap.size + 1 by simp, ← hg] at hr1
  have hg2 := hg
  have hgl := hr1.lt
  clear hb0 hb1 pz0 h0
  go_wp2_with fail
  simp only [← hg]
  refine (anyCache_any g 0 _ hr1 (by omega)).mono ?_
  rintro e w2 ⟨C, B, d, q, rfl, hcd, hcl, hS, hgr, hr2, hq⟩
  have pz2 := pz1.past hgr (by omega)
  have hB2 := hB1.trans (below_of_grown hgr (B := w.heap.size) (by omega) (by omega))
  have hz2 := hgr.size
  have hwg : w.heap.size < g := by omega
  clear hr1 pz1 hB1 hgr hg hg2
  have px2 := At.new w2 25 #[.int .i64 C.r, .slice B C.n.length d]
  have hr3 := hr2.alloc (.cells #[.int .i64 C.r, .slice B C.n.length d] 25)
  have pz3 := pz2.alloc (.cells #[.int .i64 C.r, .slice B C.n.length d] 25)
  have hB3 := hB2.alloc hB2.size (.cells #[.int .i64 C.r, .slice B C.n.length d] 25)
  have hS3 := hS.alloc (.cells #[.int .i64 C.r, .slice B C.n.length d] 25)
  have hz3 : w2.heap.size < (w2.alloc (.cells #[.int .i64 C.r, .slice B C.n.length d] 25)).heap.size := px2.lt
  clear hr2 pz2 hB2 hS
  have hgm : g < w2.heap.size := by omega
  have hwm : w.heap.size < w2.heap.size := by omega
  obtain ⟨p0, p1, pl, pf⟩ := px2.two
  go_wp2_with fail
  obtain ⟨m, hm2⟩ : ∃ m, m = w2.heap.size := ⟨_, rfl⟩
  obtain ⟨w3, hw3⟩ : ∃ w3, w3 = w2.alloc (.cells #[.int .i64 C.r, .slice B C.n.length d] 25) := ⟨_, rfl⟩
  simp only [← hw3] at px2 hr3 pz3 hB3 hS3 hz3 ⊢
  simp only [← hm2] at px2 hz3 hgm hwm ⊢
  clear p0 p1 pl pf hm2 hw3
  have px3 := px2
  clear px2
  have pxd := px3.drew
  have pzd := pz3.drew
  have hBd := hB3.drew
  have hSd := hS3.drew
  have hrd := hr3.drew
  have hzd : m < w3.drew.heap.size := hz3
  have hzw := hB3.size
  have hmw : ¬ m = w.heap.size := by omega
  have hmw2 : ¬ w.heap.size = m := by omega
  obtain ⟨p0, p1, pl, pf⟩ := px3.two
  go_region_held3 (fun w' => w'.cell? ⟨m, 0, none⟩ = some (.int .i64 C.r) ∧ w'.cell? ⟨m, 1, none⟩ = some (.slice B C.n.length d))
    (first | exact ⟨p0, p1⟩ | exact ⟨y0, y1⟩ | go_keep)
    (first
      | (go_at_call 42; refine (someNames_any g q _ hrd (by omega)).mono ?_; rintro e w9 ⟨A9, c9, ys, q9, rfl, hyc, hyl, hys, hg9, hr9, hq9⟩; have px9 := pxd.past hg9 (by omega); have pz9 := pzd.past hg9 (by omega); have hB9 := hBd.trans (below_of_grown hg9 (B := w.heap.size) (by omega) (by omega)); have hS9 := hSd.grown hg9 (fun x e => by injection e with e; omega); have hzz9 := hg9.size; obtain ⟨y0, y1, yl, yf⟩ := px9.two; obtain ⟨v0, v1, vl, vf⟩ := pz9.two)
      | fail)
  all_goals
    obtain ⟨hp, hgz⟩ := two_put (.int .i64 C.r) (.slice B C.n.length d) pz9 rfl
    have hBf := below_put hB9 hgz (Nat.le_refl _) hB9.size
    have hSf := hS9.grown hgz (fun x e => by injection e with e; omega)
    have hyf := hys.grown_to hgz (F' := fun x => x < w.heap.size + 1) (fun x e => by injection e with e; omega) (fun x _ hx => by omega)
    go_wp2
    refine bodyPost_ret (v := .tuple #[.agg #[.int .i64 C.r, .slice B C.n.length d], .slice A9 ys.length c9]) (by simp [results, Try.results22, go_sem, hp.cell]) rfl ?_
    exact ⟨B, d, C, A9, c9, ys, by simp, ⟨hSf.imp (fun x _ hx => by omega), hBf, hcl, hcd⟩, hyf.imp (fun x _ hx => by omega), hyl, hyc⟩

end Go.Proofs.Ytgliijkpjncfnab

/-
  What the functions answer that draw the arguments of the laws on leases. Condition: the code is at most 2^20 bytes.
-/
import Derived.Test.YtahnglpadmmidaaLsGen
namespace Go.Proofs.Ytahnglpadmmidaa
open Go.RowKit Lse

/-- What has been drawn: a list of leases of its own, at most 13; nothing that was there has changed. -/
def DL (w w' : World) (A : Option Addr) (c : Nat) (l : List L) : Prop := OwnL w' w.heap.size (.slice A l.length c) l ∧ Below w.heap.size w w' ∧ l.length ≤ 13 ∧ l.length ≤ c
section
variable {w w' w'' : World} {A : Option Addr} {c : Nat} {l : List L}
theorem DL.below (h : DL w w' A c l) (hb : Below w'.heap.size w' w'') : DL w w'' A c l := by
  obtain ⟨h1, h2, h3⟩ := h
  exact ⟨h1.below hb, h2.trans (hb.mono h2.size), h3⟩
theorem DL.alloc (h : DL w w' A c l) (o : Obj) : DL w (w'.alloc o) A c l := h.below ((Below.refl _ _).alloc (Nat.le_refl _) o)
theorem DL.drew (h : DL w w' A c l) : DL w w'.drew A c l := h.below ((Below.refl _ _).drew)
theorem DL.drewN (h : DL w w' A c l) (k : Nat) : DL w (w'.drewN k) A c l := h.below (below_drewN (Below.refl _ _) k)
theorem DL.sees (h : DL w w' A c l) : Sees w' w'.heap.size A (lvals l) := OwnS.sees h.1
theorem DL.cap (h : DL w w' A c l) : l.length ≤ c := h.2.2.2
theorem DL.n4 (h : DL w w' A c l) : l.length ≤ 4194304 := Nat.le_trans h.2.2.1 (by decide)
theorem DL.bel (h : DL w w' A c l) : Below w.heap.size w w' := h.2.1
theorem DL.of_gl {w1 : World} {q : Nat} (hb : Below w.heap.size w w1) (hg : GL w1 w' w.heap.size q (.slice A l.length c) l) (hl : l.length ≤ 13) : DL w w' A c l := by
  obtain ⟨h1, h2, h3, h4⟩ := hg
  obtain ⟨A', c', e, r1, _, _⟩ := OwnS.form h1
  injection e with e1 e2 e3
  refine ⟨h1.mono hb.size, hb.trans (below_of_grown h3 (Nat.le_refl _) (Nat.le_of_lt h4)), hl, by omega⟩
end
theorem DL.of_gl' {w w' : World} {A : Option Addr} {c : Nat} {l : List L} {w1 : World} {g q : Nat} (hb : Below w.heap.size w w1) (hg : GL w1 w' g q (.slice A l.length c) l) (hw : w.heap.size ≤ g) (hl : l.length ≤ 13) : DL w w' A c l := by
  obtain ⟨h1, h2, h3, h4⟩ := hg
  obtain ⟨A', c', e, r1, _, _⟩ := OwnS.form h1
  injection e with e1 e2 e3
  exact ⟨h1.mono hb.size, hb.trans (below_of_grown h3 hw (Nat.le_of_lt h4)), hl, by omega⟩
/-- A store into a block that lies beside the list. -/
theorem DL.far {w w' : World} {A : Option Addr} {c : Nat} {l : List L} (h : DL w w' A c l) {g : Nat} (hg : w.heap.size ≤ g) (hne : ∀ k, (Value.slice A l.length c).ownBlock = some k → k ≠ g) (i : Nat) (u : Value) : DL w (w'.setCell ⟨g, i, none⟩ u) A c l := by
  obtain ⟨h1, h2, h3⟩ := h
  refine ⟨h1.kept (grown_set w' g i u) (fun k hk e => hne k hk (by injection e with e; exact e.symm)), h2.setCell hg u, h3⟩
def Draw0 (w : World) (e : Ending) (w' : World) : Prop := ∃ A c l, e = .returned (.slice A (List.length l) c) ∧ DL w w' A c l
def Draw1 (w : World) (e : Ending) (w' : World) : Prop := ∃ A c l, ∃ i : Int, e = .returned (.tuple #[.slice A (List.length l) c, .int .i64 i]) ∧ DL w w' A c l
def Draw2 (w : World) (e : Ending) (w' : World) : Prop := ∃ A c l, ∃ i j : Int, e = .returned (.tuple #[.slice A (List.length l) c, .int .i64 i, .int .i64 j]) ∧ DL w w' A c l ∧ 0 ≤ i ∧ i < 5
def Draw3 (w : World) (e : Ending) (w' : World) : Prop := ∃ A c l, ∃ i j k : Int, e = .returned (.tuple #[.slice A (List.length l) c, .int .i64 i, .int .i64 j, .int .i64 k]) ∧ DL w w' A c l ∧ -100000 ≤ j ∧ j ≤ 100000
def DrawX (w : World) (e : Ending) (w' : World) : Prop := ∃ A c l, ∃ x : L, e = .returned (.tuple #[.slice A (List.length l) c, .agg #[.int .i64 x.c, .int .i64 x.o, .int .i64 x.f, .int .i64 x.u]]) ∧ DL w w' A c l ∧ -100000 ≤ x.f ∧ x.f ≤ 100000 ∧ -100000 ≤ x.u ∧ x.u ≤ 100000

set_option maxHeartbeats 2000000 in
theorem drawFreeFor_any (A : Option Addr) (n c : Nat) (zs : List Int) (w : World) (h : Sees w w.heap.size A (byts zs)) (hz : ∀ z ∈ zs, 0 ≤ z ∧ z ≤ 255) (hn : zs.length = n) (hc : n ≤ c) (hm : n ≤ 1048576) (hcc : c ≤ maxLen) :
    Calls Try.prog 23 #[.slice A n c] w (Draw3 w) := by
  have HZ := hid hz
  have HE := hid hn
  have HC := hid hcc
  clear hz hn hcc
  go_enter Try.func23, Try.ntmps23
  go_wp2_with fail
  refine (newReader_any A n c zs _ h HZ.out HE.out hc hm HC.out).mono ?_
  rintro e w1 ⟨rfl, hb1, hr1⟩
  go_wp2_with fail
  refine (anyLeases_any w.heap.size 0 _ hr1 (by omega)).mono ?_
  rintro e w2 ⟨A2, c2, l, q, rfl, ho, hl, hg2, hr2, hq⟩
  have gl : GL w1 w2 w.heap.size q (.slice A2 l.length c2) l := ⟨ho, hr2, hg2, hr1.lt⟩
  clear ho hg2 hr2
  obtain ⟨_, z2, z3⟩ := gl.lt
  go_wp2_with fail
  refine (one_any w.heap.size q _ 7 _ [3, 4, 1, 6, 2, 0, 7] _ (gl.alloc _).2.1 (by omega) (At.new w2 3 _) (by rfl) (by omega) (by rfl) (by omega) (by omega)).mono ?_
  rintro e w3 ⟨x, rfl, _, hg3, hr3⟩
  have gl3 := (gl.alloc _).pick hg3 hr3
  clear gl hg3 hr3
  go_wp2_with fail
  refine (pick_any w.heap.size (q + 1) 90 _ gl3.2.1 (by omega)).mono ?_
  rintro e w4 ⟨x4, rfl, a4, b4, hg4, hr4⟩
  have gl4 := gl3.pick hg4 hr4
  have b4 := b4 (by omega)
  clear gl3 hg4 hr4
  go_wp2_with fail
  refine (pick_any w.heap.size (q + 1 + 1) 90 _ gl4.2.1 (by omega)).mono ?_
  rintro e w5 ⟨x5, rfl, a5, b5, hg5, hr5⟩
  have gl5 := gl4.pick hg5 hr5
  have b5 := b5 (by omega)
  clear gl4 hg5 hr5
  obtain ⟨_, z2, z3⟩ := gl5.lt
  go_wp2_with fail
  refine (one_any w.heap.size (q + 1 + 1 + 1) _ 4 _ [x4, x5, -1, 1000] _ (gl5.alloc _).2.1 (by omega) (At.new w5 3 _) (by rfl) (by omega) (by rfl) (by omega) (by omega)).mono ?_
  rintro e w6 ⟨x6, rfl, m6, hg6, hr6⟩
  have gl6 := (gl5.alloc _).pick hg6 hr6
  have m6' : -1 ≤ x6 ∧ x6 ≤ 1000 := by simp at m6; omega
  obtain ⟨m7, m8⟩ := m6'
  clear m6 gl5 hg6 hr6
  obtain ⟨_, z2, z3⟩ := gl6.lt
  go_wp2_with fail
  refine (one_any w.heap.size (q + 1 + 1 + 1 + 1) _ 6 _ [1, 10, 30, 5, 0, 1000] _ (gl6.alloc _).2.1 (by omega) (At.new w6 3 _) (by rfl) (by omega) (by rfl) (by omega) (by omega)).mono ?_
  rintro e w7 ⟨x7, rfl, m9, hg7, hr7⟩
  have gl7 := (gl6.alloc _).pick hg7 hr7
  clear m9
  go_wp2
  refine bodyPost_ret (v := .tuple #[.slice A2 l.length c2, .int .i64 x, .int .i64 x6, .int .i64 (wrap64 (x6 + x7))]) (by simp [results, Try.results23, go_sem]) rfl ⟨A2, c2, l, x, x6, _, rfl, DL.of_gl hb1 gl7 hl, by omega, by omega⟩

set_option maxHeartbeats 4000000 in
theorem drawAddLease_any (A : Option Addr) (n c : Nat) (zs : List Int) (w : World) (h : Sees w w.heap.size A (byts zs)) (hz : ∀ z ∈ zs, 0 ≤ z ∧ z ≤ 255) (hn : zs.length = n) (hc : n ≤ c) (hm : n ≤ 1048576) (hcc : c ≤ maxLen) :
    Calls Try.prog 19 #[.slice A n c] w (DrawX w) := by
  have HZ := hid hz
  have HE := hid hn
  have HC := hid hcc
  clear hz hn hcc
  have hb0 := (Below.refl w.heap.size w).alloc (Nat.le_refl _) (.cells #[.int .i64 0, .int .i64 0, .int .i64 0, .int .i64 0] 30)
  have r0 := At.new w 30 #[.int .i64 0, .int .i64 0, .int .i64 0, .int .i64 0]
  go_enter Try.func19, Try.ntmps19
  go_wp2_with fail
  refine (newReader_any A n c zs _ ((h.alloc (Nat.le_refl _) _).more (by simp)) HZ.out HE.out hc hm HC.out).mono ?_
  rintro e w1 ⟨rfl, hb1, hr1⟩
  have hz1 := hb1.size
  have hb1' := hb0.trans (hb1.mono (by simp))
  have r1 := r0.below hb1 (by simp)
  simp only [World.size_alloc] at hr1 hz1
  clear hb0 hb1 r0
  go_wp2_with fail
  refine (anyLeases_any (w.heap.size + 1) 0 _ hr1 (by omega)).mono ?_
  rintro e w2 ⟨A2, c2, l, q, rfl, ho, hl, hg2, hr2, hq⟩
  have gl : GL w1 w2 (w.heap.size + 1) q (.slice A2 l.length c2) l := ⟨ho, hr2, hg2, hr1.lt⟩
  have r2 := r1.past hg2 (by omega)
  clear ho hg2 hr2 r1
  go_wp2_with fail
  refine (pick_any (w.heap.size + 1) q 90 _ gl.2.1 (by omega)).mono ?_
  rintro e w3 ⟨f, rfl, f0, f1, hg3, hr3⟩
  have gl3 := gl.pick hg3 hr3
  have r3 := r2.past hg3 (by omega)
  have f2 := f1 (by omega)
  clear gl hg3 hr3 r2 f1
  go_wp2_with fail
  refine (pick_any (w.heap.size + 1) (q + 1) 6 _ gl3.2.1 (by omega)).mono ?_
  rintro e w4 ⟨c1, rfl, _, _, hg4, hr4⟩
  have gl4 := gl3.pick hg4 hr4
  have r4 := r3.past hg4 (by omega)
  clear gl3 hg4 hr4 r3
  go_wp2_with fail
  refine (pick_any (w.heap.size + 1) (q + 1 + 1) 5 _ gl4.2.1 (by omega)).mono ?_
  rintro e w5 ⟨o1, rfl, _, _, hg5, hr5⟩
  have gl5 := gl4.pick hg5 hr5
  have r5 := r4.past hg5 (by omega)
  clear gl4 hg5 hr5 r4
  go_wp2_with fail
  refine (pick_any (w.heap.size + 1) (q + 1 + 1 + 1) 20 _ gl5.2.1 (by omega)).mono ?_
  rintro e w6 ⟨u1, rfl, u0, u2, hg6, hr6⟩
  have gl6 := gl5.pick hg6 hr6
  have r6 := r5.past hg6 (by omega)
  have u3 := u2 (by omega)
  clear gl5 hg6 hr6 r5 u2
  have hwr : IntKind.i64.wrap (f + 1 + u1) = f + 1 + u1 := by rw [IntKind.wrap_i64]; omega
  have x6 := At.new w6 30 #[.int .i64 c1, .int .i64 o1, .int .i64 f, .int .i64 (f + 1 + u1)]
  have gl7 := gl6.alloc (.cells #[.int .i64 c1, .int .i64 o1, .int .i64 f, .int .i64 (f + 1 + u1)] 30)
  have r7 := r6.alloc (.cells #[.int .i64 c1, .int .i64 o1, .int .i64 f, .int .i64 (f + 1 + u1)] 30)
  have hz6 := gl6.lt
  obtain ⟨_, hz61, hz62⟩ := hz6
  have HRX := hid (show ∀ k, (Value.slice A2 l.length c2).ownBlock = some k → k ≠ w6.heap.size from fun k hk e => by have := (gl6.1.lt k hk).2; omega)
  clear gl6 r6
  go_wp2_with fail
  refine (pick_any (w.heap.size + 1) (q + 1 + 1 + 1 + 1) 12 _ gl7.2.1 (by omega)).mono ?_
  rintro e w8 ⟨y, rfl, _, _, hg8, hr8⟩
  have gl8 := gl7.pick hg8 hr8
  have r8 := r7.past hg8 (by omega)
  have x8 := x6.past hg8 (by omega)
  have hz8 := hg8.size
  simp only [World.size_alloc] at hz8
  clear gl7 hg8 hr8 r7 x6 hwr
  rcases hy : (y == 0) with _ | _
  · have d8 := DL.of_gl' hb1' gl8 (by omega) hl
    have HNE := hid (show ∀ k, (Value.slice A2 l.length c2).ownBlock = some k → k ≠ w.heap.size from fun k hk e => by have := (gl8.1.lt k hk).1; omega)
    obtain ⟨y0, y1, y2, y3⟩ := (show _ ∧ _ ∧ _ ∧ _ from ⟨x8.cell 0, x8.cell 1, x8.cell 2, x8.cell 3⟩)
    have c8 := r8.cell
    have f8 := r8.frozen
    have hzr := r8.lt
    have hn6 : ¬ w6.heap.size = w.heap.size := by omega
    have hn6' : ¬ w.heap.size = w6.heap.size := by omega
    go_wp2_with fail
    go_region
    all_goals
      go_wp2
      refine bodyPost_ret (v := .tuple #[.slice A2 l.length c2, .agg #[.int .i64 c1, .int .i64 o1, .int .i64 f, .int .i64 (f + 1 + u1)]]) (by simp [results, Try.results19, go_sem, c8]) rfl ⟨A2, c2, l, ⟨c1, o1, f, f + 1 + u1⟩, rfl, ?_, (show -100000 ≤ f by omega), (show f ≤ 100000 by omega), (show -100000 ≤ f + 1 + u1 by omega), (show f + 1 + u1 ≤ 100000 by omega)⟩
      exact (((d8.drew.far (Nat.le_refl _) HNE.out 0 _).far (Nat.le_refl _) HNE.out 1 _).far (Nat.le_refl _) HNE.out 2 _).far (Nat.le_refl _) HNE.out 3 _
  · have hz83 := x8.lt
    go_wp2_with fail
    refine (one_any (w.heap.size + 1) (q + 1 + 1 + 1 + 1 + 1) _ 3 _ [f, 1001, 1000] _ (gl8.alloc _).2.1 (by omega) (At.new w8 3 _) (by rfl) (by omega) (by rfl) (by omega) (by omega)).mono ?_
    rintro e w9 ⟨u9, rfl, m9, hg9, hr9⟩
    have gl9 := (gl8.alloc _).pick hg9 hr9
    have r9 := (r8.alloc _).past hg9 (by omega)
    have x9 := (x8.alloc _).past hg9 (by omega)
    have m9' : 0 ≤ u9 ∧ u9 ≤ 1001 := by simp at m9; omega
    obtain ⟨m1, m2⟩ := m9'
    clear gl8 hg9 hr9 r8 x8 m9
    have d9 := DL.of_gl' hb1' gl9 (by omega) hl
    have HNE := hid (show ∀ k, (Value.slice A2 l.length c2).ownBlock = some k → k ≠ w.heap.size from fun k hk e => by have := (gl9.1.lt k hk).1; omega)
    have d10 := d9.far (g := w6.heap.size) (by omega) HRX.out 3 (.int .i64 u9)
    obtain ⟨y0, y1, y2, y3⟩ := (show _ ∧ _ ∧ _ ∧ _ from ⟨x9.cell 0, x9.cell 1, x9.cell 2, x9.cell 3⟩)
    have yf := x9.frozen
    have c8 := r9.cell
    have f8 := r9.frozen
    have hzr := r9.lt
    have hzx := x9.lt
    have hn6 : ¬ w6.heap.size = w.heap.size := by omega
    have hn6' : ¬ w.heap.size = w6.heap.size := by omega
    go_wp2_with fail
    go_region
    all_goals
      go_wp2
      refine bodyPost_ret (v := .tuple #[.slice A2 l.length c2, .agg #[.int .i64 c1, .int .i64 o1, .int .i64 f, .int .i64 u9]]) (by simp [results, Try.results19, go_sem, c8]) rfl ⟨A2, c2, l, ⟨c1, o1, f, u9⟩, rfl, ?_, (show -100000 ≤ f by omega), (show f ≤ 100000 by omega), (show -100000 ≤ u9 by omega), (show u9 ≤ 100000 by omega)⟩
      exact (((d10.drew.far (Nat.le_refl _) HNE.out 0 _).far (Nat.le_refl _) HNE.out 1 _).far (Nat.le_refl _) HNE.out 2 _).far (Nat.le_refl _) HNE.out 3 _

end Go.Proofs.Ytahnglpadmmidaa

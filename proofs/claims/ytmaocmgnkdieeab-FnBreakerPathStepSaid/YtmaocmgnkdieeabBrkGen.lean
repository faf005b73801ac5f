/-
  What the model's generator of breakers answers, and the functions that draw the arguments of the laws on breakers that take no list. Condition: the code is at most 2^20 bytes.
-/
import Derived.Test.YtmaocmgnkdieeabBrkC
import Derived.Test.YtmaocmgnkdieeabReadB
namespace Go.Proofs.Ytmaocmgnkdieeab
open Go.RowKit Brk

/-- The generator between two steps: its result's block (the first new one), the breaker in block B, the reader in block g; nothing else has changed. -/
def GB (w0 wr : World) (g q B : Nat) (b : Br) : Prop := At wr w0.heap.size 24 #[.int .i64 0, .int .i64 0, .int .i64 0, .int .i64 0, .int .i64 0] ∧ At wr B 24 #[.int .i64 b.li, .int .i64 b.re, .int .i64 b.st, .int .i64 b.fa, .int .i64 b.si] ∧ Rd wr g q ∧ w0.grownBy wr (some g) ∧ g < w0.heap.size ∧ w0.heap.size < B
section
variable {w0 wr w' : World} {g q q' B : Nat} {b : Br}
theorem GB.below (h : GB w0 wr g q B b) (hb : Below wr.heap.size wr w') : GB w0 w' g q B b := by
  obtain ⟨h1, h2, h3, h4, h5, h6⟩ := h
  exact ⟨h1.below hb h1.lt, h2.below hb h2.lt, h3.below hb h3.lt, grown_trans h4 (grown_of_below hb _), h5, h6⟩
theorem GB.alloc (h : GB w0 wr g q B b) (o : Obj) : GB w0 (wr.alloc o) g q B b := h.below ((Below.refl _ _).alloc (Nat.le_refl _) o)
theorem GB.pick (h : GB w0 wr g q B b) (hg : wr.grownBy w' (some g)) (hr : Rd w' g q') : GB w0 w' g q' B b := by
  obtain ⟨h1, h2, h3, h4, h5, h6⟩ := h
  exact ⟨h1.past hg (by omega), h2.past hg (by omega), hr, grown_trans h4 hg, h5, h6⟩
theorem GB.lt (h : GB w0 wr g q B b) : g < w0.heap.size ∧ w0.heap.size < B ∧ B < wr.heap.size ∧ g < wr.heap.size := ⟨h.2.2.2.2.1, h.2.2.2.2.2, h.2.1.lt, h.2.2.1.lt⟩
theorem GB.rd (h : GB w0 wr g q B b) : Rd wr g q := h.2.2.1
theorem GB.cells (h : GB w0 wr g q B b) : wr.cell? ⟨B, 0, none⟩ = some (.int .i64 b.li) ∧ wr.cell? ⟨B, 1, none⟩ = some (.int .i64 b.re) ∧ wr.cell? ⟨B, 2, none⟩ = some (.int .i64 b.st) ∧ wr.cell? ⟨B, 3, none⟩ = some (.int .i64 b.fa) ∧ wr.cell? ⟨B, 4, none⟩ = some (.int .i64 b.si) ∧ B < wr.heap.size := h.2.1.brk
theorem GB.thaw (h : GB w0 wr g q B b) : ∀ i, wr.frozen? ⟨B, i, none⟩ = false := h.2.1.frozen
theorem GB.put (h : GB w0 wr g q B b) {i : Nat} {u : Value} {b' : Br} (hc : (#[.int .i64 b.li, .int .i64 b.re, .int .i64 b.st, .int .i64 b.fa, .int .i64 b.si] : Array Value).setIfInBounds i u = #[.int .i64 b'.li, .int .i64 b'.re, .int .i64 b'.st, .int .i64 b'.fa, .int .i64 b'.si]) : GB w0 (wr.setCell ⟨B, i, none⟩ u) g q B b' := by
  obtain ⟨h1, h2, h3, h4, h5, h6⟩ := h
  refine ⟨h1.far (by simp; omega) u, ?_, h3.far (by simp; omega) u, ?_, h5, h6⟩
  · have := h2.set i u
    rwa [hc] at this
  · exact ⟨h4.os, h4.tape, h4.output, by simpa [World.setCell] using h4.size, fun k hk hn => (Below.heap_setCell wr ⟨B, i, none⟩ u k (by simp; omega)).trans (h4.block k hk hn)⟩
end
theorem far1 {w0 w : World} {g B i : Nat} {u : Value} (h : w0.grownBy w (some g)) (hB : w0.heap.size ≤ B) : w0.grownBy (w.setCell ⟨B, i, none⟩ u) (some g) :=
  ⟨h.os, h.tape, h.output, by simpa [World.setCell] using h.size, fun k hk hn => (Below.heap_setCell w ⟨B, i, none⟩ u k (by simp; omega)).trans (h.block k hk hn)⟩
theorem far5 {w0 w : World} {g B : Nat} {u0 u1 u2 u3 u4 : Value} (h : w0.grownBy w (some g)) (hB : w0.heap.size ≤ B) : w0.grownBy (((((w.setCell ⟨B, 0, none⟩ u0).setCell ⟨B, 1, none⟩ u1).setCell ⟨B, 2, none⟩ u2).setCell ⟨B, 3, none⟩ u3).setCell ⟨B, 4, none⟩ u4) (some g) :=
  far1 (far1 (far1 (far1 (far1 h hB) hB) hB) hB) hB
/-- What the generator answers: some breaker; only the reader's block has changed. -/
def BrkAns (w : World) (g p : Nat) (e : Ending) (w' : World) : Prop := ∃ (b : Br) (q : Nat), e = .returned (.agg #[.int .i64 b.li, .int .i64 b.re, .int .i64 b.st, .int .i64 b.fa, .int .i64 b.si]) ∧ w.grownBy w' (some g) ∧ Rd w' g q ∧ q ≤ p + 10 ∧ 0 ≤ b.si ∧ b.si ≤ 49
set_option maxHeartbeats 4000000 in
theorem anyBreaker_any (g p : Nat) (w : World) (h : Rd w g p) (hp : p < 1000) :
    Calls Try.prog 15 #[.pointer (some ⟨g, 0, none⟩)] w (BrkAns w g p) := by
  have hg := h.lt
  have pr0 := At.new w 24 #[.int .i64 0, .int .i64 0, .int .i64 0, .int .i64 0, .int .i64 0]
  have hr0 := h.alloc (.cells #[.int .i64 0, .int .i64 0, .int .i64 0, .int .i64 0, .int .i64 0] 24)
  have hgr0 : w.grownBy (w.alloc (.cells #[.int .i64 0, .int .i64 0, .int .i64 0, .int .i64 0, .int .i64 0] 24)) (some g) := grown_of_below ((Below.refl _ _).alloc (Nat.le_refl _) _) _
  go_enter Try.func15, Try.ntmps15
  go_wp2_with fail
  refine (one_any g (p) _ 4 _ [2, 3, 1, 8] _ (hr0.alloc _) (by omega) (At.newAt 3 _ (by simp)) (by rfl) (by simp; omega) (by rfl) (by omega) (by omega)).mono ?_
  rintro e w1 ⟨x1, rfl, hx1, hg1, hr1⟩
  have hgr1 := grown_trans (grown_trans hgr0 (grown_of_below ((Below.refl _ _).alloc (Nat.le_refl _) (.cells (ints [2, 3, 1, 8]).toArray 3)) _)) hg1
  have pr1 := (pr0.alloc (.cells (ints [2, 3, 1, 8]).toArray 3)).past hg1 (by omega)
  clear pr0 hr0 hgr0 hg1 hx1
  have hl1 := pr1.lt
  go_wp2_with fail
  refine (one_any g (p + 1) _ 4 _ [10, 20, 1, 1000] _ (hr1.alloc _) (by omega) (At.newAt 3 _ (by simp)) (by rfl) (by simp; omega) (by rfl) (by omega) (by omega)).mono ?_
  rintro e w2 ⟨x2, rfl, hx2, hg2, hr2⟩
  have hgr2 := grown_trans (grown_trans hgr1 (grown_of_below ((Below.refl _ _).alloc (Nat.le_refl _) (.cells (ints [10, 20, 1, 1000]).toArray 3)) _)) hg2
  have pr2 := (pr1.alloc (.cells (ints [10, 20, 1, 1000]).toArray 3)).past hg2 (by omega)
  clear pr1 hr1 hgr1 hg2 hx2 hl1
  go_wp2_with fail
  refine (pick_any g (p + 1 + 1) 50 _ hr2 (by omega)).mono ?_
  rintro e w3 ⟨x3, rfl, hx3, hx3b, hg3, hr3⟩
  have hx3c := hx3b (by omega)
  have hgr3 := grown_trans hgr2 hg3
  have pr3 := pr2.past hg3 (by omega)
  clear pr2 hr2 hgr2 hg3 hx3b
  have hl3 := pr3.lt
  have hgl := hr3.lt
  have gb3 : GB w (w3.alloc (.cells #[.int .i64 x1, .int .i64 x2, .int .i64 0, .int .i64 0, .int .i64 x3] 24)) g (p + 1 + 1 + 1) w3.heap.size ⟨x1, x2, 0, 0, x3⟩ := ⟨pr3.alloc _, At.new _ _ _, hr3.alloc _, grown_trans hgr3 (grown_of_below ((Below.refl _ _).alloc (Nat.le_refl _) _) _), hg, hl3⟩
  clear pr3 hr3 hgr3
  obtain ⟨c0, c1, c2, c3, c4, cl⟩ := gb3.cells
  go_wp2_with fail
  refine (pick_any g (p + 1 + 1 + 1) 3 _ gb3.rd (by omega)).mono ?_
  rintro e w4 ⟨x4, rfl, hx4, hx4b, hg4, hr4⟩
  have gb4 := gb3.pick hg4 hr4
  clear hg4 hr4 gb3 c0 c1 c2 c3 c4 cl
  obtain ⟨c0, c1, c2, c3, c4, cl⟩ := gb4.cells
  have ct := gb4.thaw
  have gb5 := gb4.put (i := 2) (u := .int .i64 x4) (b' := ⟨x1, x2, x4, 0, x3⟩) (by rfl)
  obtain ⟨d0, d1, d2, d3, d4, dl⟩ := gb5.cells
  clear gb4
  rcases k0 : (x4 == 0) with _ | _
  · skip
    go_wp2_with fail
    refine (pick_any g (p + 1 + 1 + 1 + 1) 20 _ gb5.rd (by omega)).mono ?_
    rintro e w7 ⟨x7, rfl, hx7, hx7b, hg7, hr7⟩
    have gb7 := gb5.pick hg7 hr7
    clear hg7 hr7 hx7b gb5
    rcases s0 : (x7 == 0) with _ | _
    · rcases s1 : (x7 == 1) with _ | _
      · rcases s2 : (x7 == 2) with _ | _
        · skip
          obtain ⟨e0, e1, e2, e3, e4, el⟩ := gb7.cells
          have r0 := gb7.1.cell
          have rf := gb7.1.frozen
          have rl := gb7.1.lt
          go_wp2
          have hat := (((((gb7.1.set 0 (.int .i64 x1)).set 1 (.int .i64 x2)).set 2 (.int .i64 x4)).set 3 (.int .i64 0)).set 4 (.int .i64 x3)).cell
          refine bodyPost_ret (v := .agg #[.int .i64 x1, .int .i64 x2, .int .i64 x4, .int .i64 0, .int .i64 x3]) (by simp [results, Try.results15, go_sem, hat]) rfl ⟨⟨x1, x2, x4, 0, x3⟩, _, rfl, ?_, (((((gb7.rd.far (by simpa using hg) _).far (by simpa using hg) _).far (by simpa using hg) _).far (by simpa using hg) _).far (by simpa using hg) _), by omega, by simpa using hx3, by simp; omega⟩
          exact far5 gb7.2.2.2.1 (by omega)
        · skip
          go_wp2_with fail
          refine (one_any g (p + 1 + 1 + 1 + 1 + 1) _ 2 _ [-1, 3] _ (gb7.alloc _).rd (by omega) (At.newAt 3 _ (by simp)) (by rfl) (by have := gb7.lt; omega) (by rfl) (by omega) (by omega)).mono ?_
          rintro e w8 ⟨x8, rfl, hx8, hg8, hr8⟩
          have gb8 := (gb7.alloc (.cells (ints [-1, 3]).toArray 3)).pick hg8 hr8
          clear hg8 hr8 hx8 gb7
          obtain ⟨m0, m1, m2, m3, m4, ml⟩ := gb8.cells
          have mt := gb8.thaw
          have gb9 := gb8.put (i := 2) (u := .int .i64 x8) (b' := ⟨x1, x2, x8, 0, x3⟩) (by rfl)
          clear gb8
          obtain ⟨e0, e1, e2, e3, e4, el⟩ := gb9.cells
          have r0 := gb9.1.cell
          have rf := gb9.1.frozen
          have rl := gb9.1.lt
          go_wp2
          have hat := (((((gb9.1.set 0 (.int .i64 x1)).set 1 (.int .i64 x2)).set 2 (.int .i64 x8)).set 3 (.int .i64 0)).set 4 (.int .i64 x3)).cell
          refine bodyPost_ret (v := .agg #[.int .i64 x1, .int .i64 x2, .int .i64 x8, .int .i64 0, .int .i64 x3]) (by simp [results, Try.results15, go_sem, hat]) rfl ⟨⟨x1, x2, x8, 0, x3⟩, _, rfl, ?_, (((((gb9.rd.far (by simpa using hg) _).far (by simpa using hg) _).far (by simpa using hg) _).far (by simpa using hg) _).far (by simpa using hg) _), by omega, by simpa using hx3, by simp; omega⟩
          exact far5 gb9.2.2.2.1 (by omega)
      · skip
        obtain ⟨e0, e1, e2, e3, e4, el⟩ := gb7.cells
        go_wp2_with fail
        refine (one_any g (p + 1 + 1 + 1 + 1 + 1) _ 3 _ [-1, x1, 1] _ (gb7.alloc _).rd (by omega) (At.newAt 3 _ (by simp)) (by rfl) (by have := gb7.lt; omega) (by rfl) (by omega) (by omega)).mono ?_
        rintro e w8 ⟨x8, rfl, hx8, hg8, hr8⟩
        have gb8 := (gb7.alloc (.cells (ints [-1, x1, 1]).toArray 3)).pick hg8 hr8
        clear hg8 hr8 hx8 gb7 e0 e1 e2 e3 e4 el
        obtain ⟨m0, m1, m2, m3, m4, ml⟩ := gb8.cells
        have mt := gb8.thaw
        have gb9 := gb8.put (i := 3) (u := .int .i64 x8) (b' := ⟨x1, x2, x4, x8, x3⟩) (by rfl)
        clear gb8
        obtain ⟨e0, e1, e2, e3, e4, el⟩ := gb9.cells
        have r0 := gb9.1.cell
        have rf := gb9.1.frozen
        have rl := gb9.1.lt
        go_wp2
        have hat := (((((gb9.1.set 0 (.int .i64 x1)).set 1 (.int .i64 x2)).set 2 (.int .i64 x4)).set 3 (.int .i64 x8)).set 4 (.int .i64 x3)).cell
        refine bodyPost_ret (v := .agg #[.int .i64 x1, .int .i64 x2, .int .i64 x4, .int .i64 x8, .int .i64 x3]) (by simp [results, Try.results15, go_sem, hat]) rfl ⟨⟨x1, x2, x4, x8, x3⟩, _, rfl, ?_, (((((gb9.rd.far (by simpa using hg) _).far (by simpa using hg) _).far (by simpa using hg) _).far (by simpa using hg) _).far (by simpa using hg) _), by omega, by simpa using hx3, by simp; omega⟩
        exact far5 gb9.2.2.2.1 (by omega)
    · skip
      go_wp2_with fail
      refine (one_any g (p + 1 + 1 + 1 + 1 + 1) _ 2 _ [0, 9] _ (gb7.alloc _).rd (by omega) (At.newAt 3 _ (by simp)) (by rfl) (by have := gb7.lt; omega) (by rfl) (by omega) (by omega)).mono ?_
      rintro e w8 ⟨x8, rfl, hx8, hg8, hr8⟩
      have gb8 := (gb7.alloc (.cells (ints [0, 9]).toArray 3)).pick hg8 hr8
      clear hg8 hr8 hx8 gb7
      obtain ⟨m0, m1, m2, m3, m4, ml⟩ := gb8.cells
      have mt := gb8.thaw
      have gb9 := gb8.put (i := 0) (u := .int .i64 x8) (b' := ⟨x8, x2, x4, 0, x3⟩) (by rfl)
      clear gb8
      obtain ⟨e0, e1, e2, e3, e4, el⟩ := gb9.cells
      have r0 := gb9.1.cell
      have rf := gb9.1.frozen
      have rl := gb9.1.lt
      go_wp2
      have hat := (((((gb9.1.set 0 (.int .i64 x8)).set 1 (.int .i64 x2)).set 2 (.int .i64 x4)).set 3 (.int .i64 0)).set 4 (.int .i64 x3)).cell
      refine bodyPost_ret (v := .agg #[.int .i64 x8, .int .i64 x2, .int .i64 x4, .int .i64 0, .int .i64 x3]) (by simp [results, Try.results15, go_sem, hat]) rfl ⟨⟨x8, x2, x4, 0, x3⟩, _, rfl, ?_, (((((gb9.rd.far (by simpa using hg) _).far (by simpa using hg) _).far (by simpa using hg) _).far (by simpa using hg) _).far (by simpa using hg) _), by omega, by simpa using hx3, by simp; omega⟩
      exact far5 gb9.2.2.2.1 (by omega)
  · skip
    go_wp2_with fail
    refine (pick_any g (p + 1 + 1 + 1 + 1) x1 _ gb5.rd (by omega)).mono ?_
    rintro e w6 ⟨x6, rfl, hx6, hx6b, hg6, hr6⟩
    have gb6 := gb5.pick hg6 hr6
    clear hg6 hr6 hx6b gb5 d0 d1 d2 d3 d4 dl c0 c1 c2 c3 c4 cl ct
    obtain ⟨c0, c1, c2, c3, c4, cl⟩ := gb6.cells
    have ct := gb6.thaw
    have gb6b := gb6.put (i := 3) (u := .int .i64 x6) (b' := ⟨x1, x2, x4, x6, x3⟩) (by rfl)
    clear gb6
    obtain ⟨d0, d1, d2, d3, d4, dl⟩ := gb6b.cells
    go_wp2_with fail
    refine (pick_any g (p + 1 + 1 + 1 + 1 + 1) 20 _ gb6b.rd (by omega)).mono ?_
    rintro e w7 ⟨x7, rfl, hx7, hx7b, hg7, hr7⟩
    have gb7 := gb6b.pick hg7 hr7
    clear hg7 hr7 hx7b gb6b
    rcases s0 : (x7 == 0) with _ | _
    · rcases s1 : (x7 == 1) with _ | _
      · rcases s2 : (x7 == 2) with _ | _
        · skip
          obtain ⟨e0, e1, e2, e3, e4, el⟩ := gb7.cells
          have r0 := gb7.1.cell
          have rf := gb7.1.frozen
          have rl := gb7.1.lt
          go_wp2
          have hat := (((((gb7.1.set 0 (.int .i64 x1)).set 1 (.int .i64 x2)).set 2 (.int .i64 x4)).set 3 (.int .i64 x6)).set 4 (.int .i64 x3)).cell
          refine bodyPost_ret (v := .agg #[.int .i64 x1, .int .i64 x2, .int .i64 x4, .int .i64 x6, .int .i64 x3]) (by simp [results, Try.results15, go_sem, hat]) rfl ⟨⟨x1, x2, x4, x6, x3⟩, _, rfl, ?_, (((((gb7.rd.far (by simpa using hg) _).far (by simpa using hg) _).far (by simpa using hg) _).far (by simpa using hg) _).far (by simpa using hg) _), by omega, by simpa using hx3, by simp; omega⟩
          exact far5 gb7.2.2.2.1 (by omega)
        · skip
          go_wp2_with fail
          refine (one_any g (p + 1 + 1 + 1 + 1 + 1 + 1) _ 2 _ [-1, 3] _ (gb7.alloc _).rd (by omega) (At.newAt 3 _ (by simp)) (by rfl) (by have := gb7.lt; omega) (by rfl) (by omega) (by omega)).mono ?_
          rintro e w8 ⟨x8, rfl, hx8, hg8, hr8⟩
          have gb8 := (gb7.alloc (.cells (ints [-1, 3]).toArray 3)).pick hg8 hr8
          clear hg8 hr8 hx8 gb7
          obtain ⟨m0, m1, m2, m3, m4, ml⟩ := gb8.cells
          have mt := gb8.thaw
          have gb9 := gb8.put (i := 2) (u := .int .i64 x8) (b' := ⟨x1, x2, x8, x6, x3⟩) (by rfl)
          clear gb8
          obtain ⟨e0, e1, e2, e3, e4, el⟩ := gb9.cells
          have r0 := gb9.1.cell
          have rf := gb9.1.frozen
          have rl := gb9.1.lt
          go_wp2
          have hat := (((((gb9.1.set 0 (.int .i64 x1)).set 1 (.int .i64 x2)).set 2 (.int .i64 x8)).set 3 (.int .i64 x6)).set 4 (.int .i64 x3)).cell
          refine bodyPost_ret (v := .agg #[.int .i64 x1, .int .i64 x2, .int .i64 x8, .int .i64 x6, .int .i64 x3]) (by simp [results, Try.results15, go_sem, hat]) rfl ⟨⟨x1, x2, x8, x6, x3⟩, _, rfl, ?_, (((((gb9.rd.far (by simpa using hg) _).far (by simpa using hg) _).far (by simpa using hg) _).far (by simpa using hg) _).far (by simpa using hg) _), by omega, by simpa using hx3, by simp; omega⟩
          exact far5 gb9.2.2.2.1 (by omega)
      · skip
        obtain ⟨e0, e1, e2, e3, e4, el⟩ := gb7.cells
        go_wp2_with fail
        refine (one_any g (p + 1 + 1 + 1 + 1 + 1 + 1) _ 3 _ [-1, x1, 1] _ (gb7.alloc _).rd (by omega) (At.newAt 3 _ (by simp)) (by rfl) (by have := gb7.lt; omega) (by rfl) (by omega) (by omega)).mono ?_
        rintro e w8 ⟨x8, rfl, hx8, hg8, hr8⟩
        have gb8 := (gb7.alloc (.cells (ints [-1, x1, 1]).toArray 3)).pick hg8 hr8
        clear hg8 hr8 hx8 gb7 e0 e1 e2 e3 e4 el
        obtain ⟨m0, m1, m2, m3, m4, ml⟩ := gb8.cells
        have mt := gb8.thaw
        have gb9 := gb8.put (i := 3) (u := .int .i64 x8) (b' := ⟨x1, x2, x4, x8, x3⟩) (by rfl)
        clear gb8
        obtain ⟨e0, e1, e2, e3, e4, el⟩ := gb9.cells
        have r0 := gb9.1.cell
        have rf := gb9.1.frozen
        have rl := gb9.1.lt
        go_wp2
        have hat := (((((gb9.1.set 0 (.int .i64 x1)).set 1 (.int .i64 x2)).set 2 (.int .i64 x4)).set 3 (.int .i64 x8)).set 4 (.int .i64 x3)).cell
        refine bodyPost_ret (v := .agg #[.int .i64 x1, .int .i64 x2, .int .i64 x4, .int .i64 x8, .int .i64 x3]) (by simp [results, Try.results15, go_sem, hat]) rfl ⟨⟨x1, x2, x4, x8, x3⟩, _, rfl, ?_, (((((gb9.rd.far (by simpa using hg) _).far (by simpa using hg) _).far (by simpa using hg) _).far (by simpa using hg) _).far (by simpa using hg) _), by omega, by simpa using hx3, by simp; omega⟩
        exact far5 gb9.2.2.2.1 (by omega)
    · skip
      go_wp2_with fail
      refine (one_any g (p + 1 + 1 + 1 + 1 + 1 + 1) _ 2 _ [0, 9] _ (gb7.alloc _).rd (by omega) (At.newAt 3 _ (by simp)) (by rfl) (by have := gb7.lt; omega) (by rfl) (by omega) (by omega)).mono ?_
      rintro e w8 ⟨x8, rfl, hx8, hg8, hr8⟩
      have gb8 := (gb7.alloc (.cells (ints [0, 9]).toArray 3)).pick hg8 hr8
      clear hg8 hr8 hx8 gb7
      obtain ⟨m0, m1, m2, m3, m4, ml⟩ := gb8.cells
      have mt := gb8.thaw
      have gb9 := gb8.put (i := 0) (u := .int .i64 x8) (b' := ⟨x8, x2, x4, x6, x3⟩) (by rfl)
      clear gb8
      obtain ⟨e0, e1, e2, e3, e4, el⟩ := gb9.cells
      have r0 := gb9.1.cell
      have rf := gb9.1.frozen
      have rl := gb9.1.lt
      go_wp2
      have hat := (((((gb9.1.set 0 (.int .i64 x8)).set 1 (.int .i64 x2)).set 2 (.int .i64 x4)).set 3 (.int .i64 x6)).set 4 (.int .i64 x3)).cell
      refine bodyPost_ret (v := .agg #[.int .i64 x8, .int .i64 x2, .int .i64 x4, .int .i64 x6, .int .i64 x3]) (by simp [results, Try.results15, go_sem, hat]) rfl ⟨⟨x8, x2, x4, x6, x3⟩, _, rfl, ?_, (((((gb9.rd.far (by simpa using hg) _).far (by simpa using hg) _).far (by simpa using hg) _).far (by simpa using hg) _).far (by simpa using hg) _), by omega, by simpa using hx3, by simp; omega⟩
      exact far5 gb9.2.2.2.1 (by omega)

end Go.Proofs.Ytmaocmgnkdieeab

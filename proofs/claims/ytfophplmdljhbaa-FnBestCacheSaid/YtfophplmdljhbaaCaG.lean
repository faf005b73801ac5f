/-
  What the model's anyCache answers. Condition: the reader stands at a place below 1000.
-/
import Derived.Test.YtfophplmdljhbaaCaF
import Derived.Test.YtfophplmdljhbaaReadB
import Derived.Test.YtfophplmdljhbaaSpoil
import Derived.Deep.RegionHeld3
namespace Go.Proofs.Ytfophplmdljhbaa
open Go.RowKit Cac

/-- The generator between two steps: its cache in block b, the block of the answer, the reader, and nothing else changed. -/
def GN (w0 wr : World) (g b q : Nat) (C : Cch) (B : Option Addr) (d : Nat) : Prop :=
  At wr b 37 #[.int .i64 C.r, .slice B C.n.length d] ∧ SeesF wr (fun x => x = b ∨ x ≤ w0.heap.size) B (ints C.n) ∧ (C.n.length ≤ d ∧ C.n.length ≤ 6) ∧ Rd wr g q ∧ w0.grownBy wr (some g) ∧ At wr w0.heap.size 37 #[.int .i64 0, .slice none 0 0] ∧ g < w0.heap.size ∧ w0.heap.size < b
section
variable {w0 wr w' : World} {g b q q' d : Nat} {C : Cch} {B : Option Addr}
theorem GN.below (h : GN w0 wr g b q C B d) (hb : Below wr.heap.size wr w') : GN w0 w' g b q C B d := by
  obtain ⟨h1, h2, h3, h4, h5, h6, h7⟩ := h
  exact ⟨h1.below hb h1.lt, h2.below hb, h3, h4.below hb h4.lt, grown_trans h5 (grown_of_below hb _), h6.below hb h6.lt, h7⟩
theorem GN.alloc (h : GN w0 wr g b q C B d) (o : Obj) : GN w0 (wr.alloc o) g b q C B d := h.below ((Below.refl _ _).alloc (Nat.le_refl _) o)
theorem GN.drew (h : GN w0 wr g b q C B d) : GN w0 wr.drew g b q C B d := h.below (Below.refl _ _).drew
theorem GN.pick (h : GN w0 wr g b q C B d) (hg : wr.grownBy w' (some g)) (hr : Rd w' g q') : GN w0 w' g b q' C B d := by
  obtain ⟨h1, h2, h3, h4, h5, h6, h7, h8⟩ := h
  exact ⟨h1.past hg (by omega), h2.grown hg (fun x e => .inr (by injection e with e; omega)), h3, hr, grown_trans h5 hg, h6.past hg (by omega), h7, h8⟩
theorem GN.rd (h : GN w0 wr g b q C B d) : Rd wr g q := h.2.2.2.1
theorem GN.lt (h : GN w0 wr g b q C B d) : g < w0.heap.size ∧ w0.heap.size < b ∧ b < wr.heap.size ∧ g < wr.heap.size ∧ w0.heap.size < wr.heap.size := ⟨h.2.2.2.2.2.2.1, h.2.2.2.2.2.2.2, h.1.lt, h.2.2.2.1.lt, h.2.2.2.2.2.1.lt⟩
theorem GN.cells (h : GN w0 wr g b q C B d) : wr.cell? ⟨b, 0, none⟩ = some (.int .i64 C.r) ∧ wr.cell? ⟨b, 1, none⟩ = some (.slice B C.n.length d) ∧ ∀ i, wr.frozen? ⟨b, i, none⟩ = false := ⟨h.1.cell 0, h.1.cell 1, h.1.frozen⟩
theorem GN.sees (h : GN w0 wr g b q C B d) : SeesN wr wr.heap.size B C := h.2.1.sees
theorem GN.len (h : GN w0 wr g b q C B d) : C.n.length ≤ 6 := h.2.2.1.2
theorem GN.cap (h : GN w0 wr g b q C B d) : C.n.length ≤ d := h.2.2.1.1
end
/-- The generator, its cache's names aside. -/
def GN0 (w0 wr : World) (g b q : Nat) : Prop := (∃ u v : Value, At wr b 37 #[u, v]) ∧ Rd wr g q ∧ w0.grownBy wr (some g) ∧ At wr w0.heap.size 37 #[.int .i64 0, .slice none 0 0] ∧ g < w0.heap.size ∧ w0.heap.size < b
section
variable {w0 wr w' : World} {g b q q' d : Nat} {C : Cch} {B : Option Addr}
theorem GN.base (h : GN w0 wr g b q C B d) : GN0 w0 wr g b q := ⟨⟨_, _, h.1⟩, h.2.2.2⟩
theorem GN0.alloc (h : GN0 w0 wr g b q) (o : Obj) : GN0 w0 (wr.alloc o) g b q := by
  obtain ⟨⟨u, v, h1⟩, h4, h5, h6, h7⟩ := h
  exact ⟨⟨u, v, h1.alloc o⟩, h4.alloc o, grown_trans h5 (grown_of_below ((Below.refl _ _).alloc (Nat.le_refl _) o) _), h6.alloc o, h7⟩
theorem grown_new {w0 wr w' : World} {g t : Nat} (h : w0.grownBy wr (some g)) (hg : wr.grownBy w' (some t)) (ht : w0.heap.size ≤ t) : w0.grownBy w' (some g) :=
  ⟨hg.os.trans h.os, hg.tape.trans h.tape, hg.output.trans h.output, Nat.le_trans h.size hg.size, fun i hi hne => (hg.block i (Nat.lt_of_lt_of_le hi h.size) (fun e => by injection e with e; omega)).trans (h.block i hi hne)⟩
theorem grown_low {w0 wr w' : World} {g B : Nat} (h : w0.grownBy wr (some g)) (hb : Below B wr w') (hB : w0.heap.size ≤ B) : w0.grownBy w' (some g) :=
  ⟨hb.os.trans h.os, hb.tape.trans h.tape, hb.output.trans h.output, Nat.le_trans h.size hb.size, fun i hi hne => (hb.block i (by omega)).trans (h.block i hi hne)⟩
/-- Another block is written. -/
theorem GN0.side {t : Nat} {u0 u1 : Value} (h : GN0 w0 wr g b q) (hb : b < t) : GN0 w0 ((wr.setCell ⟨t, 0, none⟩ u0).setCell ⟨t, 1, none⟩ u1) g b q := by
  obtain ⟨⟨u, v, h1⟩, h4, h5, h6, h7, h8⟩ := h
  have hgr := grown_trans (grown_set wr t 0 u0) (grown_set (wr.setCell ⟨t, 0, none⟩ u0) t 1 u1)
  exact ⟨⟨u, v, h1.past hgr (by omega)⟩, (h4.far (by simp; omega) u0).far (by simp; omega) u1, grown_new h5 hgr (by omega), h6.past hgr (by omega), h7, h8⟩
/-- The cache is written. -/
theorem GN0.put {D : Cch} {B' : Option Addr} {d' : Nat} (h : GN0 w0 wr g b q) (hs : SeesF wr (fun x => x = b ∨ x ≤ w0.heap.size) B' (ints D.n)) (hd : D.n.length ≤ d') (hl : D.n.length ≤ 6) :
    GN w0 ((wr.setCell ⟨b, 0, none⟩ (.int .i64 D.r)).setCell ⟨b, 1, none⟩ (.slice B' D.n.length d')) g b q D B' d' := by
  obtain ⟨⟨u, v, h1⟩, h4, h5, h6, h7, h8⟩ := h
  obtain ⟨p, hgr⟩ := two_put (.int .i64 D.r) (.slice B' D.n.length d') h1 rfl
  exact ⟨p, hs.grown hgr (fun x e => .inl (by injection e with e; exact e.symm)), ⟨hd, hl⟩, (h4.far (by simp; omega) _).far (by simp; omega) _, grown_new h5 hgr (by omega), h6.past hgr (by omega), h7, h8⟩
end
/-- A cache that was drawn: its names lie in no block that was there but for new ones; only the reader's block has changed. -/
def CacheAns (w : World) (g p : Nat) (e : Ending) (w' : World) : Prop := ∃ (C : Cch) (B : Option Addr) (d q : Nat),
  e = .returned (.agg #[.int .i64 C.r, .slice B C.n.length d]) ∧ C.n.length ≤ d ∧ C.n.length ≤ 8 ∧ SeesF w' (fun b => b < w.heap.size) B (ints C.n) ∧ w.grownBy w' (some g) ∧ Rd w' g q ∧ q ≤ p + 30

theorem spoil_len {g p n : Nat} {A : Option Addr} {c : Nat} {xs : List Int} {m : Int} {w : World} (hl : xs.length = n) (h : Sees w w.heap.size A (ints xs)) (hr : Rd w g p) (hp : p < 1000) (hn : xs.length ≤ 1000) :
    Calls Try.prog 31 #[.pointer (some ⟨g, 0, none⟩), .slice A n c, .int .i64 m] w (SpoilAns n w g p) := by
  subst hl; exact spoil_any g p A c xs m w h hr hp hn
set_option maxHeartbeats 8000000 in
theorem anyCache_any (g p : Nat) (w : World) (h : Rd w g p) (hp : p < 900) :
    Calls Try.prog 29 #[.pointer (some ⟨g, 0, none⟩)] w (CacheAns w g p) := by
  have hg := h.lt
  obtain ⟨i0, hi0, hz0, hz1, hz2⟩ := info_parts intInfo
  have pz0 := At.new w 37 #[.int .i64 0, .slice none 0 0]
  go_enter Try.func29, Try.ntmps29
  go_wp2_with fail
  refine (one_any g p _ 6 _ [3, 4, 2, 1, 0, 6] _ ((h.alloc _).alloc _) (by omega) (by simpa using At.new (w.alloc _) 3 _) (by rfl) (by omega) (by rfl) (by omega) (by omega)).mono ?_
  rintro e w1 ⟨s0, rfl, hs0, hg1, hr1⟩
  have hz1' := hg1.size
  simp only [World.size_alloc] at hz1'
  clear hs0
  have hgz : g < w1.heap.size := hr1.lt
  have pz1 := (pz0.alloc (.cells #[.int .i64 3, .int .i64 4, .int .i64 2, .int .i64 1, .int .i64 0, .int .i64 6] 3)).past hg1 (by omega)
  have gs1 : GN w ((w1.alloc (.cells #[] 3)).alloc (.cells #[.int .i64 s0, .slice (some ⟨w1.heap.size, 0, none⟩) 0 0] 37)) g (w1.heap.size + 1) (p + 1) ⟨s0, []⟩ (some ⟨w1.heap.size, 0, none⟩) 0 := by
    refine ⟨by simpa using At.new (w1.alloc (.cells #[] 3)) 37 #[.int .i64 s0, .slice (some ⟨w1.heap.size, 0, none⟩) 0 0], fun hx => absurd rfl hx, ⟨Nat.le_refl _, Nat.zero_le _⟩, (hr1.alloc _).alloc _, ?_, (pz1.alloc _).alloc _, hg, by omega⟩
    exact grown_trans (grown_trans (grown_of_below (((Below.refl _ _).alloc (Nat.le_refl _) _).alloc (by simp) _) _) hg1) (grown_of_below (((Below.refl _ _).alloc (Nat.le_refl _) _).alloc (by simp) _) _)
  go_wp2_with fail
  refine (one_any g (p + 1) _ 5 _ [4, 6, 2, 0, 10] _ (((hr1.alloc _).alloc _).alloc _) (by omega) (by simpa using At.new ((w1.alloc _).alloc _) 3 _) (by rfl) (by omega) (by rfl) (by omega) (by omega)).mono ?_
  rintro e w2 ⟨n0, rfl, hn0, hg2, hr2⟩
  have hn0' : ∃ k : Nat, n0 = k ∧ k ≤ 10 := ⟨n0.toNat, by simp at hn0; omega, by simp at hn0; omega⟩
  obtain ⟨k0, rfl, hk0⟩ := hn0'
  clear hn0
  have gs2 := (gs1.alloc _).pick hg2 hr2
  obtain ⟨b, hb⟩ : ∃ b, b = w1.heap.size + 1 := ⟨_, rfl⟩
  rw [← hb] at gs2
  clear gs1 hg1 hr1 hg2 hr2 pz0 pz1
  go_wp2_with fail
  simp only [← hb]
  clear hb hgz hz1'
  go_loopw [4] (fun i wr => ∃ (k q : Nat) (C : Cch) (B : Option Addr) (d : Nat), i = .int .i64 k ∧ k ≤ 10 ∧ q + k ≤ p + 12 ∧ GN w wr g b q C B d) (fun i _ => (intOf i).toNat)
  case atStart => exact ⟨k0, p + 1 + 1, _, _, _, rfl, hk0, by omega, gs2⟩
  case round =>
    clear gs2
    obtain ⟨k, q, C, B, d, rfl, hk, hq, gs⟩ := hrel
    obtain ⟨z1, z2, z3, z4, z5⟩ := gs.lt
    obtain ⟨c0, c1, cf⟩ := gs.cells
    by_cases hk0 : 0 < k
    · have hki : (0 : Int) < (k : Int) := by omega
      have gd := gs.drew
      have hn5 : ¬ wr.heap.size = b := by omega
      have hn5' : ¬ b = wr.heap.size := by omega
      go_wp2_with fail
      go_region_held3 (fun w' => w'.cell? ⟨b, 0, none⟩ = some (.int .i64 C.r) ∧ w'.cell? ⟨b, 1, none⟩ = some (.slice B C.n.length d))
        (first | exact ⟨c0, c1⟩ | exact ⟨y0, y1⟩ | exact ⟨v0, v1⟩ | go_keep)
        (first
          | (go_at_call 30; refine (pick_any g q 10 _ (by first | exact gd.rd | exact (gd.alloc _).rd) (by omega)).mono ?_; rintro e w6 ⟨x2, rfl, _, _, hg6, hr6⟩; have gs7 := GN.pick (by first | exact gd | exact gd.alloc _) hg6 hr6; obtain ⟨y0, y1, yf⟩ := gs7.cells; obtain ⟨_, _, z7, z8, z9⟩ := gs7.lt; have hn6 : ¬ w6.heap.size = b := (by omega); have hn6' : ¬ b = w6.heap.size := (by omega); try (have t0 := At.past (show At (wr.drew.alloc _) wr.heap.size 37 #[.int .i64 0, .slice none 0 0] from At.new wr.drew _ _) hg6 (by omega); have t0c := t0.cell; have t0f := t0.frozen; have t0l := t0.lt))
          | (go_at_call 37; refine (sUseStatement_any C x2 B d _ (by first | exact gs7.sees | exact (gs7.alloc _).sees) (Nat.le_trans gs7.len (by decide))).mono ?_; rintro e w7 ⟨B7, d7, he, ho7, hb7⟩; obtain ⟨D, hD⟩ : ∃ D, D = useS C x2 := ⟨_, rfl⟩; have hDl : D.n.length ≤ 6 := (by rw [hD]; exact useS_len C x2); obtain ⟨H, hH⟩ : ∃ H, H = hitB C x2 := ⟨_, rfl⟩; rw [← hD] at ho7; rw [← hD, ← hH] at he; clear hD hH; subst he; have gs8 := GN.below (by first | exact gs7 | exact gs7.alloc _) hb7; obtain ⟨v0, v1, vf⟩ := gs8.cells; have hs7 := hb7.size; obtain ⟨_, _, z10, z11, z12⟩ := gs8.lt; have hn7 : ¬ w7.heap.size = b := (by omega); have hn7' : ¬ b = w7.heap.size := (by omega); obtain ⟨hc7, hf7⟩ := below_cell hb7))
      · have hsD : SeesF w7 (fun x => x = b ∨ x ≤ w.heap.size) B7 (ints D.n) := SeesF.of_row ho7.own.out (fun x h1 _ h2 => by omega)
        have gf := (gs8.base.put hsD ho7.cap hDl).alloc (.cells #[.int .i64 D.r, .slice B7 D.n.length d7] 37)
        clear gs8 gs7 gs gd c0 c1 y0 y1 hsD ho7
        go_wp2
        go_roundw
        case rel => exact ⟨k - 1, q + 1, D, B7, d7, by go_num, by omega, by omega, gf⟩
        case measure => simp [intOf]; omega
      · have hsD : SeesF w7 (fun x => x = b ∨ x ≤ w.heap.size ∨ x = w6.heap.size) B7 (ints D.n) := SeesF.of_row ho7.own.out (fun x h1 _ h2 => by simp only [World.size_alloc] at h1; omega)
        have tt := (At.new w6 37 #[.int .i64 0, .slice none 0 0]).below hb7 (by simp)
        obtain ⟨pt, hgr⟩ := two_put (.int .i64 D.r) (.slice B7 D.n.length d7) tt rfl
        have gb := gs8.base.side (t := w6.heap.size) (u0 := .int .i64 D.r) (u1 := .slice B7 D.n.length d7) (by omega)
        have gf := gb.put ((hsD.grown hgr (fun x e => .inr (.inr (by injection e with e; exact e.symm)))).imp (fun x _ hx => hx.elim .inl (fun e => .inr (.inl e)))) ho7.cap hDl
        have hbt := gs8.1.past hgr (by omega)
        obtain ⟨y0', y1', yl', yf'⟩ := hbt.two
        obtain ⟨q0, q1, ql, qf⟩ := pt.two
        clear gb gs8 gs7 gs gd c0 c1 y0 y1 v0 v1 hsD ho7 tt hgr
        go_wp2
        go_roundw
        case rel => exact ⟨k - 1, q + 1, D, B7, d7, by go_num, by omega, by omega, gf⟩
        case measure => simp [intOf]; omega
      · have hsD : SeesF w7 (fun x => x = b ∨ x ≤ w.heap.size ∨ x = wr.heap.size) B7 (ints D.n) := SeesF.of_row ho7.own.out (fun x h1 _ h2 => by have := t0l; omega)
        have tt := t0.below hb7 t0.lt
        obtain ⟨pt, hgr⟩ := two_put (.int .i64 D.r) (.slice B7 D.n.length d7) tt rfl
        have gb := gs8.base.side (t := wr.heap.size) (u0 := .int .i64 D.r) (u1 := .slice B7 D.n.length d7) (by omega)
        have gf := gb.put ((hsD.grown hgr (fun x e => .inr (.inr (by injection e with e; exact e.symm)))).imp (fun x _ hx => hx.elim .inl (fun e => .inr (.inl e)))) ho7.cap hDl
        have hbt := gs8.1.past hgr (by omega)
        obtain ⟨y0', y1', yl', yf'⟩ := hbt.two
        obtain ⟨q0, q1, ql, qf⟩ := pt.two
        clear gb gs8 gs7 gs gd c0 c1 y0 y1 v0 v1 hsD ho7 tt hgr
        go_wp2
        go_roundw
        case rel => exact ⟨k - 1, q + 1, D, B7, d7, by go_num, by omega, by omega, gf⟩
        case measure => simp [intOf]; omega
    · have hki : ¬ (0 : Int) < (k : Int) := by omega
      go_wp2_with fail
      refine (pick_any g q 20 _ gs.rd (by omega)).mono ?_
      rintro e w3 ⟨x, rfl, hx0, hx1, hg3, hr3⟩
      have gs3 := gs.pick hg3 hr3
      clear hg3 hr3 hx0 hx1 gs c0 c1 cf
      obtain ⟨_, _, z7, z8, z9⟩ := gs3.lt
      obtain ⟨c0, c1, cf⟩ := gs3.cells
      have hnb : ¬ w.heap.size = b := by omega
      have hnb' : ¬ b = w.heap.size := by omega
      have fin : ∀ (w' : World) (D : Cch) (B' : Option Addr) (d' q' : Nat), At w' w.heap.size 37 #[.int .i64 0, .slice none 0 0] → SeesF w' (fun x => x = b ∨ x ≤ w.heap.size) B' (ints D.n) → Rd w' g q' → w.grownBy w' (some g) →
          SeesF ((w'.setCell ⟨w.heap.size, 0, none⟩ (.int .i64 D.r)).setCell ⟨w.heap.size, 1, none⟩ (.slice B' D.n.length d')) (fun x => x < w.heap.size) B' (ints D.n) ∧ w.grownBy ((w'.setCell ⟨w.heap.size, 0, none⟩ (.int .i64 D.r)).setCell ⟨w.heap.size, 1, none⟩ (.slice B' D.n.length d')) (some g) ∧ Rd ((w'.setCell ⟨w.heap.size, 0, none⟩ (.int .i64 D.r)).setCell ⟨w.heap.size, 1, none⟩ (.slice B' D.n.length d')) g q' ∧ At ((w'.setCell ⟨w.heap.size, 0, none⟩ (.int .i64 D.r)).setCell ⟨w.heap.size, 1, none⟩ (.slice B' D.n.length d')) w.heap.size 37 #[.int .i64 D.r, .slice B' D.n.length d'] := by
        intro w' D B' d' q' h1 h2 h3 h4
        obtain ⟨hp, hgr⟩ := two_put (.int .i64 D.r) (.slice B' D.n.length d') h1 rfl
        exact ⟨(h2.grown hgr (fun x e => .inr (by injection e with e; omega))).imp (fun x _ hx => .inr (Nat.le_of_lt hx)), grown_new h4 hgr (Nat.le_refl _), (h3.far (by simp; omega) _).far (by simp; omega) _, hp⟩
      have FIN := hid fin
      clear fin
      rcases hx : (x == 0) with _ | _
      · rcases hy : (x == 1) with _ | _
        · obtain ⟨f1, f2, f3, f4⟩ := FIN.out w3 C B d (q + 1) gs3.2.2.2.2.2.1 gs3.2.1 gs3.rd gs3.2.2.2.2.1
          have hcl := gs3.len
          have hcd := gs3.cap
          obtain ⟨r0, r1, rl, rf⟩ := gs3.2.2.2.2.2.1.two
          go_wp2
          refine bodyPost_ret (v := .agg #[.int .i64 C.r, .slice B C.n.length d]) (by simp [results, Try.results29, go_sem, f4.cell]) rfl ?_
          exact ⟨C, B, d, q + 1, rfl, hcd, by omega, f1, f2, f3, by omega⟩
        · have HC4 := hid (Nat.le_trans gs3.len (show 6 ≤ 4194304 by decide))
          have hcl := gs3.len
          go_wp2_with fail
          with_reducible refine (copyInts_any B d C.n _ gs3.sees.names HC4.out).mono ?_
          rintro e w4 ⟨v4, rfl, ho4, hb4⟩
          have gs4 := gs3.below hb4
          have hz4 := hb4.size
          have ho4' : Own w4 (b + 1) v4 C.n := ho4.mono (by omega)
          have gs5 := gs4.alloc (.cells #[.int .i64 3] 3)
          have hlow := ho4'.out.lt
          clear hb4 ho4 gs3 c0 c1 cf gs4
          go_wp2_with (at_builtin; refine wpList_append_own _ rfl _ _ 23 rfl (b + 1) 3 i0 (.int .i64 0) 1 8 Try.underlying23 hi0 hz0 hz1 hz2 rfl (by decide) _ _ _ rfl (own_alloc ho4'.out _) ⟨w4.heap.size, 0, none⟩ 1 1 [.int .i64 3] rfl rfl (cell_one_new _ _ _) ?c2 ?c3 ?c4 ?c5 ?_)
          case c2 => simp [Value.oneCell']
          case c3 => unfold maxLen; omega
          case c4 => omega
          case c5 => simp; omega
          case _ =>
            intro v5 w5 h5 hg5 _
            have hb5 : Below (b + 1) (w4.alloc (.cells #[.int .i64 3] 3)) w5 := (Below.refl _ _).grown hg5 (by simp; omega) (fun q hq => (hlow q hq).1)
            have a5 : At w5 b 37 #[.int .i64 C.r, .slice B C.n.length d] := gs5.1.below hb5 (Nat.lt_succ_self _)
            have r5 : Rd w5 g (q + 1) := gs5.rd.below hb5 (by omega)
            have p5 : At w5 w.heap.size 37 #[.int .i64 0, .slice none 0 0] := gs5.2.2.2.2.2.1.below hb5 (by omega)
            have g5 : w.grownBy w5 (some g) := grown_low gs5.2.2.2.2.1 hb5 (by omega)
            have ho5 : Own w5 (b + 1) v5 (C.n ++ [3]) := by unfold Own; rw [ints_app, List.length_append]; exact h5
            obtain ⟨A5, c5, rfl, _⟩ := ho5.form
            have hn5 : (C.n ++ [3]).length ≤ 1000 := by simp; omega
            have hn6 : (C.n ++ [(3 : Int)]).length = C.n.length + 1 := by simp
            have hs5 := Sees.of_own ho5.out
            obtain ⟨N, hN⟩ : ∃ N : List Int, N = C.n ++ [3] := ⟨_, rfl⟩
            rw [← hN] at hn5 hn6 hs5
            have hz5 := hb5.size
            simp only [World.size_alloc] at hz5
            clear h5 hg5 hb5 gs5 ho4' hlow ho5
            simp only [← hN]
            clear hN
            go_wp2_with fail
            refine (spoil_len (g := g) (p := q + 1) (A := A5) (c := c5) (xs := N) (m := 10) hn6 hs5 r5 (by omega) hn5).mono ?_
            rintro e w6 ⟨A6, c6, ys, q6, rfl, hc6, hy6, hs6, hg6, hr6, hq6⟩
            have a6 := a5.past hg6 (by omega)
            have p6 := p5.past hg6 (by omega)
            have g6 := grown_trans g5 hg6
            have hgs := grown_set w6 b 1 (.slice A6 ys.length c6)
            have a7 : At (w6.setCell ⟨b, 1, none⟩ (.slice A6 ys.length c6)) b 37 #[.int .i64 C.r, .slice A6 ys.length c6] := by simpa using a6.set 1 (.slice A6 ys.length c6)
            have hs7 := (hs6.grown hgs (fun x e => by injection e with e; omega)).imp (F' := fun x => x = b ∨ x ≤ w.heap.size) (fun x _ hx => by rcases hx with e | e <;> omega)
            obtain ⟨f1, f2, f3, f4⟩ := FIN.out (w6.setCell ⟨b, 1, none⟩ (.slice A6 ys.length c6)) ⟨C.r, ys⟩ A6 c6 q6 (p6.past hgs (by omega)) hs7 (hr6.far (by simp; omega) _) (grown_new g6 hgs (by omega))
            obtain ⟨y0, y1, yl, yf⟩ := a6.two
            obtain ⟨u0, u1, ul, uf⟩ := a7.two
            obtain ⟨r0, r1, rl, rf⟩ := (p6.past hgs (by omega) : At (w6.setCell ⟨b, 1, none⟩ (.slice A6 ys.length c6)) w.heap.size 37 _).two
            have hyl : ys.length ≤ 8 := by omega
            clear a5 a6 a7 p5 p6 g5 g6 hs6 hg6 hs7 hgs r5 hs5
            go_wp2
            refine bodyPost_ret (v := .agg #[.int .i64 C.r, .slice A6 ys.length c6]) (by simp [results, Try.results29, go_sem, f4.cell]) rfl ?_
            exact ⟨⟨C.r, ys⟩, A6, c6, q6, rfl, hc6, hyl, f1, f2, f3, by omega⟩
      · go_wp2_with fail
        refine (one_any g (q + 1) _ 3 _ [-1, 7, 0] _ (gs3.alloc _).rd (by omega) (At.newAt 3 _ rfl) (by rfl) (by omega) (by rfl) (by omega) (by omega)).mono ?_
        rintro e w4 ⟨y, rfl, _, hg4, hr4⟩
        have gs4 := (gs3.alloc _).pick hg4 hr4
        have hcl := gs4.len
        have hcd := gs4.cap
        have hgs := grown_set w4 b 0 (.int .i64 y)
        have a7 : At (w4.setCell ⟨b, 0, none⟩ (.int .i64 y)) b 37 #[.int .i64 y, .slice B C.n.length d] := by simpa using gs4.1.set 0 (.int .i64 y)
        have hs7 := gs4.2.1.grown hgs (fun x e => .inl (by injection e with e; exact e.symm))
        have p7 := gs4.2.2.2.2.2.1.past hgs (by omega)
        obtain ⟨f1, f2, f3, f4⟩ := FIN.out (w4.setCell ⟨b, 0, none⟩ (.int .i64 y)) ⟨y, C.n⟩ B d (q + 1 + 1) p7 hs7 (gs4.rd.far (by simp; omega) _) (grown_new gs4.2.2.2.2.1 hgs (by omega))
        obtain ⟨y0, y1, yf⟩ := gs4.cells
        obtain ⟨_, _, z10, z11, z12⟩ := gs4.lt
        obtain ⟨u0, u1, ul, uf⟩ := a7.two
        obtain ⟨r0, r1, rl, rf⟩ := p7.two
        clear hg4 hr4 gs3 c0 c1 cf gs4 a7 p7 hs7 hgs
        go_wp2
        refine bodyPost_ret (v := .agg #[.int .i64 y, .slice B C.n.length d]) (by simp [results, Try.results29, go_sem, f4.cell]) rfl ?_
        exact ⟨⟨y, C.n⟩, B, d, q + 1 + 1, rfl, hcd, by show C.n.length ≤ 8; omega, f1, f2, f3, by omega⟩

end Go.Proofs.Ytfophplmdljhbaa

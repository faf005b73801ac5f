/-
  Words for the model's anyShare, and what its someAsks answers. Condition: the reader stands at a place below 1000.
-/
import Derived.Test.YtmpiigjkmodekaaSpoil
import Derived.Test.YtmpiigjkmodekaaShH
import Derived.Test.YtmpiigjkmodekaaSeesF
import Derived.Test.YtmpiigjkmodekaaReadB
namespace Go.Proofs.Ytmpiigjkmodekaa
open Go.RowKit Sha

theorem grown_new {w0 wr w' : World} {g t : Nat} (h : w0.grownBy wr (some g)) (hg : wr.grownBy w' (some t)) (ht : w0.heap.size ≤ t) : w0.grownBy w' (some g) :=
  ⟨hg.os.trans h.os, hg.tape.trans h.tape, hg.output.trans h.output, Nat.le_trans h.size hg.size, fun i hi hne => (hg.block i (Nat.lt_of_lt_of_le hi h.size) (fun e => by injection e with e; omega)).trans (h.block i hi hne)⟩
theorem grown_low {w0 wr w' : World} {g B : Nat} (h : w0.grownBy wr (some g)) (hb : Below B wr w') (hB : w0.heap.size ≤ B) : w0.grownBy w' (some g) :=
  ⟨hb.os.trans h.os, hb.tape.trans h.tape, hb.output.trans h.output, Nat.le_trans h.size hb.size, fun i hi hne => (hb.block i (by omega)).trans (h.block i hi hne)⟩
theorem grown_alloc {w0 wr : World} {g : Nat} (h : w0.grownBy wr (some g)) (o : Obj) : w0.grownBy (wr.alloc o) (some g) := grown_trans h (grown_of_below ((Below.refl _ _).alloc (Nat.le_refl _) o) _)
/-- The generator between two steps: its shares in block b (their lists lie in no block t), the block of the answer, the reader, and nothing else changed. -/
def GS (w0 wr : World) (g b t q : Nat) (s : Shr) (A1 A2 : Option Addr) (c1 c2 : Nat) : Prop :=
  At wr b 25 #[.int .i64 s.t, .slice A1 s.m.length c1, .slice A2 s.h.length c2] ∧ (SeesF wr (fun x => x = b ∨ x ≤ w0.heap.size ∨ x = t) A1 (ints s.m) ∧ SeesF wr (fun x => x = b ∨ x ≤ w0.heap.size ∨ x = t) A2 (ints s.h)) ∧ (s.m.length ≤ 5 ∧ s.h.length ≤ 5) ∧ Rd wr g q ∧ w0.grownBy wr (some g) ∧ At wr w0.heap.size 25 #[.int .i64 0, .slice none 0 0, .slice none 0 0] ∧ g < w0.heap.size ∧ w0.heap.size < b
section
variable {w0 wr w' : World} {g b t t' q q' c1 c2 : Nat} {s : Shr} {A1 A2 : Option Addr}
theorem GS.below (h : GS w0 wr g b t q s A1 A2 c1 c2) (hb : Below wr.heap.size wr w') : GS w0 w' g b t q s A1 A2 c1 c2 := by
  obtain ⟨h1, h2, h3, h4, h5, h6, h7⟩ := h
  exact ⟨h1.below hb h1.lt, ⟨h2.1.below hb, h2.2.below hb⟩, h3, h4.below hb h4.lt, grown_trans h5 (grown_of_below hb _), h6.below hb h6.lt, h7⟩
theorem GS.alloc (h : GS w0 wr g b t q s A1 A2 c1 c2) (o : Obj) : GS w0 (wr.alloc o) g b t q s A1 A2 c1 c2 := h.below ((Below.refl _ _).alloc (Nat.le_refl _) o)
theorem GS.drew (h : GS w0 wr g b t q s A1 A2 c1 c2) : GS w0 wr.drew g b t q s A1 A2 c1 c2 := h.below (Below.refl _ _).drew
theorem GS.pick (h : GS w0 wr g b t q s A1 A2 c1 c2) (hg : wr.grownBy w' (some g)) (hr : Rd w' g q') : GS w0 w' g b t q' s A1 A2 c1 c2 := by
  obtain ⟨h1, h2, h3, h4, h5, h6, h7, h8⟩ := h
  exact ⟨h1.past hg (by omega), ⟨h2.1.grown hg (fun x e => .inr (.inl (by injection e with e; omega))), h2.2.grown hg (fun x e => .inr (.inl (by injection e with e; omega)))⟩, h3, hr, grown_trans h5 hg, h6.past hg (by omega), h7, h8⟩
theorem GS.rd (h : GS w0 wr g b t q s A1 A2 c1 c2) : Rd wr g q := h.2.2.2.1
theorem GS.lt (h : GS w0 wr g b t q s A1 A2 c1 c2) : g < w0.heap.size ∧ w0.heap.size < b ∧ b < wr.heap.size ∧ g < wr.heap.size ∧ w0.heap.size < wr.heap.size := ⟨h.2.2.2.2.2.2.1, h.2.2.2.2.2.2.2, h.1.lt, h.2.2.2.1.lt, h.2.2.2.2.2.1.lt⟩
theorem GS.cells (h : GS w0 wr g b t q s A1 A2 c1 c2) : wr.cell? ⟨b, 0, none⟩ = some (.int .i64 s.t) ∧ wr.cell? ⟨b, 1, none⟩ = some (.slice A1 s.m.length c1) ∧ wr.cell? ⟨b, 2, none⟩ = some (.slice A2 s.h.length c2) ∧ ∀ i, wr.frozen? ⟨b, i, none⟩ = false := ⟨h.1.cell 0, h.1.cell 1, h.1.cell 2, h.1.frozen⟩
theorem GS.sees (h : GS w0 wr g b t q s A1 A2 c1 c2) : SeesR wr wr.heap.size A1 A2 s := ⟨h.2.1.1.sees, h.2.1.2.sees⟩
theorem GS.seesm (h : GS w0 wr g b t q s A1 A2 c1 c2) : Sees wr wr.heap.size A1 (ints s.m) := h.2.1.1.sees
theorem GS.seesh (h : GS w0 wr g b t q s A1 A2 c1 c2) : Sees wr wr.heap.size A2 (ints s.h) := h.2.1.2.sees
theorem GS.len (h : GS w0 wr g b t q s A1 A2 c1 c2) : s.m.length ≤ 5 ∧ s.h.length ≤ 5 := h.2.2.1
/-- Another block, where nothing lay. -/
theorem GS.apart (h : GS w0 wr g b t q s A1 A2 c1 c2) (ht : wr.heap.size ≤ t') : GS w0 wr g b t' q s A1 A2 c1 c2 :=
  ⟨h.1, ⟨h.2.1.1.imp (fun x hx e => by rcases e with e | e | e; exact .inl e; exact .inr (.inl e); omega), h.2.1.2.imp (fun x hx e => by rcases e with e | e | e; exact .inl e; exact .inr (.inl e); omega)⟩, h.2.2⟩
theorem GS.zero (h : GS w0 wr g b t q s A1 A2 c1 c2) : GS w0 wr g b 0 q s A1 A2 c1 c2 :=
  ⟨h.1, ⟨h.2.1.1.imp (fun x hx e => by rcases e with e | e | e; exact .inl e; exact .inr (.inl e); exact .inr (.inl (by omega))), h.2.1.2.imp (fun x hx e => by rcases e with e | e | e; exact .inl e; exact .inr (.inl e); exact .inr (.inl (by omega)))⟩, h.2.2⟩
theorem GS.side {u0 u1 u2 : Value} (h : GS w0 wr g b t q s A1 A2 c1 c2) (hb : b < t) : GS w0 (((wr.setCell ⟨t, 0, none⟩ u0).setCell ⟨t, 1, none⟩ u1).setCell ⟨t, 2, none⟩ u2) g b t q s A1 A2 c1 c2 := by
  obtain ⟨h1, h2, h3, h4, h5, h6, h7, h8⟩ := h
  have hgr := grown_trans (grown_trans (grown_set wr t 0 u0) (grown_set (wr.setCell ⟨t, 0, none⟩ u0) t 1 u1)) (grown_set ((wr.setCell ⟨t, 0, none⟩ u0).setCell ⟨t, 1, none⟩ u1) t 2 u2)
  exact ⟨h1.past hgr (by omega), ⟨h2.1.grown hgr (fun x e => .inr (.inr (by injection e with e; exact e.symm))), h2.2.grown hgr (fun x e => .inr (.inr (by injection e with e; exact e.symm)))⟩, h3, ((h4.far (by simp; omega) u0).far (by simp; omega) u1).far (by simp; omega) u2, grown_new h5 hgr (by omega), h6.past hgr (by omega), h7, h8⟩
/-- The shares are written. -/
theorem GS.put {s' : Shr} {B1 B2 : Option Addr} {d1 d2 : Nat} (h : GS w0 wr g b t q s' B1 B2 d1 d2) (hs1 : SeesF wr (fun x => x = b ∨ x ≤ w0.heap.size ∨ x = t) A1 (ints s.m)) (hs2 : SeesF wr (fun x => x = b ∨ x ≤ w0.heap.size ∨ x = t) A2 (ints s.h)) (hl : s.m.length ≤ 5 ∧ s.h.length ≤ 5) :
    GS w0 (((wr.setCell ⟨b, 0, none⟩ (.int .i64 s.t)).setCell ⟨b, 1, none⟩ (.slice A1 s.m.length c1)).setCell ⟨b, 2, none⟩ (.slice A2 s.h.length c2)) g b t q s A1 A2 c1 c2 := by
  obtain ⟨h1, _, _, h4, h5, h6, h7, h8⟩ := h
  obtain ⟨p, hgr⟩ := three_put (.int .i64 s.t) (.slice A1 s.m.length c1) (.slice A2 s.h.length c2) h1 rfl
  exact ⟨p, ⟨hs1.grown hgr (fun x e => .inl (by injection e with e; exact e.symm)), hs2.grown hgr (fun x e => .inl (by injection e with e; exact e.symm))⟩, hl, ((h4.far (by simp; omega) _).far (by simp; omega) _).far (by simp; omega) _, grown_new h5 hgr (by omega), h6.past hgr (by omega), h7, h8⟩
/-- One cell of the shares is written. -/
theorem GS.one {s' : Shr} {B1 B2 : Option Addr} {d1 d2 i : Nat} {u : Value} (h : GS w0 wr g b t q s' B1 B2 d1 d2) (hp : At (wr.setCell ⟨b, i, none⟩ u) b 25 #[.int .i64 s.t, .slice A1 s.m.length c1, .slice A2 s.h.length c2]) (hs1 : SeesF wr (fun x => x = b ∨ x ≤ w0.heap.size ∨ x = t) A1 (ints s.m)) (hs2 : SeesF wr (fun x => x = b ∨ x ≤ w0.heap.size ∨ x = t) A2 (ints s.h)) (hl : s.m.length ≤ 5 ∧ s.h.length ≤ 5) :
    GS w0 (wr.setCell ⟨b, i, none⟩ u) g b t q s A1 A2 c1 c2 := by
  obtain ⟨h1, _, _, h4, h5, h6, h7, h8⟩ := h
  have hgr := grown_set wr b i u
  exact ⟨hp, ⟨hs1.grown hgr (fun x e => .inl (by injection e with e; exact e.symm)), hs2.grown hgr (fun x e => .inl (by injection e with e; exact e.symm))⟩, hl, h4.far (by simp; omega) _, grown_new h5 hgr (by omega), h6.past hgr (by omega), h7, h8⟩
end
theorem giveS_five (s : Shr) (o d : Int) : (giveS s o d).m.length ≤ s.m.length ∧ (giveS s o d).h.length ≤ s.h.length := by
  unfold giveS
  split
  · exact ⟨Nat.le_refl _, by show (addO s.h o d).length ≤ _; rw [addO_len]; exact Nat.le_refl _⟩
  · exact ⟨Nat.zero_le _, Nat.zero_le _⟩
/-- Shares that were drawn: their lists lie in new blocks; only the reader's block has changed. -/
def ShareAns (w : World) (g p : Nat) (e : Ending) (w' : World) : Prop := ∃ (s : Shr) (A1 A2 : Option Addr) (c1 c2 q : Nat),
  e = .returned (.agg #[.int .i64 s.t, .slice A1 s.m.length c1, .slice A2 s.h.length c2]) ∧ (s.m.length ≤ 6 ∧ s.h.length ≤ 6) ∧ SeesF w' (fun b => b < w.heap.size) A1 (ints s.m) ∧ SeesF w' (fun b => b < w.heap.size) A2 (ints s.h) ∧ w.grownBy w' (some g) ∧ Rd w' g q ∧ q ≤ p + 30
/-- Owners who ask, that were drawn: they lie in new blocks; only the reader's block has changed. -/
def AsksAns (w : World) (g p : Nat) (e : Ending) (w' : World) : Prop := ∃ (A : Option Addr) (c : Nat) (ys : List Int) (q : Nat),
  e = .returned (.slice A ys.length c) ∧ ys.length ≤ c ∧ ys.length ≤ 14 ∧ SeesF w' (fun b => b < w.heap.size) A (ints ys) ∧ w.grownBy w' (some g) ∧ Rd w' g q ∧ q ≤ p + 25
theorem SeesF.of_at {w : World} {F : Nat → Prop} {b : Nat} {t : TypeId} (h : At w b t #[.int .i64 0, .int .i64 0, .int .i64 0, .int .i64 0, .int .i64 0]) (hF : ¬ F b) : SeesF w F (some ⟨b, 0, none⟩) (ints [0, 0, 0, 0, 0]) := fun _ => by
  refine ⟨b, 0, rfl, h.lt, hF, fun j u hu => ?_⟩
  match j, hu with
  | 0, hu => simpa [ints] using (h.cell 0).trans (by simpa [ints] using hu)
  | 1, hu => simpa [ints] using (h.cell 1).trans (by simpa [ints] using hu)
  | 2, hu => simpa [ints] using (h.cell 2).trans (by simpa [ints] using hu)
  | 3, hu => simpa [ints] using (h.cell 3).trans (by simpa [ints] using hu)
  | 4, hu => simpa [ints] using (h.cell 4).trans (by simpa [ints] using hu)
  | j + 5, hu => simp [ints] at hu

/-- The first region of anyShare, some of its operations done (the truth values). -/
structure RF (w wx : World) (g p : Nat) (l0 l1 l2 l3 l4 l5 l6 l7 : Bool) (v3 v8 v9 v10 v11 v12 v13 : Value) : Prop where
  gr : w.grownBy wx (some g)
  rs : At wx w.heap.size 25 #[.int .i64 0, .slice none 0 0, .slice none 0 0]
  hg : g < w.heap.size
  f0 : l0 = true → v8 = .pointer (some ⟨g, 0, none⟩)
  f1 : l1 = true → ∃ b, v9 = .slice (some ⟨b, 0, none⟩) 5 5 ∧ At wx b 3 #[.int .i64 6, .int .i64 10, .int .i64 20, .int .i64 3, .int .i64 0] ∧ w.heap.size < b
  f2 : Rd wx g (if l2 = true then p + 1 else p)
  f2x : l2 = true → ∃ x, v10 = .int .i64 x
  f3 : l3 = true → ∃ b, v11 = .slice (some ⟨b, 0, none⟩) 0 0
  f4 : l4 = true → ∃ b, v12 = .slice (some ⟨b, 0, none⟩) 5 5 ∧ At wx b 3 #[.int .i64 0, .int .i64 0, .int .i64 0, .int .i64 0, .int .i64 0] ∧ w.heap.size < b
  f5 : l5 = true → ∃ x b1 b2, v13 = .agg #[.int .i64 x, .slice (some ⟨b1, 0, none⟩) 0 0, .slice (some ⟨b2, 0, none⟩) 5 5] ∧ At wx b2 3 #[.int .i64 0, .int .i64 0, .int .i64 0, .int .i64 0, .int .i64 0] ∧ w.heap.size < b2
  f6 : l6 = true → ∃ L, v3 = .pointer (some ⟨L, 0, none⟩) ∧ w.heap.size < L ∧ (l7 = false → At wx L 25 #[.int .i64 0, .slice none 0 0, .slice none 0 0])
  d7 : l7 = true → l6 = true
  f7 : l7 = true → ∃ L x b1 b2, v3 = .pointer (some ⟨L, 0, none⟩) ∧ At wx L 25 #[.int .i64 x, .slice (some ⟨b1, 0, none⟩) 0 0, .slice (some ⟨b2, 0, none⟩) 5 5] ∧ At wx b2 3 #[.int .i64 0, .int .i64 0, .int .i64 0, .int .i64 0, .int .i64 0] ∧ w.heap.size < L ∧ w.heap.size < b2
section
variable {w wx w' : World} {g p : Nat} {l0 l1 l2 l3 l4 l5 l6 l7 : Bool} {v3 v8 v9 v10 v11 v12 v13 : Value}
theorem RF.below (h : RF w wx g p l0 l1 l2 l3 l4 l5 l6 l7 v3 v8 v9 v10 v11 v12 v13) (hb : Below wx.heap.size wx w') : RF w w' g p l0 l1 l2 l3 l4 l5 l6 l7 v3 v8 v9 v10 v11 v12 v13 where
  gr := grown_trans h.gr (grown_of_below hb _)
  rs := h.rs.below hb h.rs.lt
  hg := h.hg
  f0 := h.f0
  f1 := fun e => by obtain ⟨b, e1, e2, e3⟩ := h.f1 e; exact ⟨b, e1, e2.below hb e2.lt, e3⟩
  f2 := h.f2.below hb h.f2.lt
  f2x := h.f2x
  f3 := h.f3
  f4 := fun e => by obtain ⟨b, e1, e2, e3⟩ := h.f4 e; exact ⟨b, e1, e2.below hb e2.lt, e3⟩
  f5 := fun e => by obtain ⟨x, b1, b2, e1, e2, e3⟩ := h.f5 e; exact ⟨x, b1, b2, e1, e2.below hb e2.lt, e3⟩
  f6 := fun e => by obtain ⟨L, e1, e2, e3⟩ := h.f6 e; exact ⟨L, e1, e2, fun q => (e3 q).below hb (e3 q).lt⟩
  d7 := h.d7
  f7 := fun e => by obtain ⟨L, x, b1, b2, e1, e2, e3, e4⟩ := h.f7 e; exact ⟨L, x, b1, b2, e1, e2.below hb e2.lt, e3.below hb e3.lt, e4⟩
theorem RF.alloc (h : RF w wx g p l0 l1 l2 l3 l4 l5 l6 l7 v3 v8 v9 v10 v11 v12 v13) (o : Obj) : RF w (wx.alloc o) g p l0 l1 l2 l3 l4 l5 l6 l7 v3 v8 v9 v10 v11 v12 v13 := h.below ((Below.refl _ _).alloc (Nat.le_refl _) o)
theorem RF.pick (h : RF w wx g p l0 l1 false l3 l4 l5 l6 l7 v3 v8 v9 v10 v11 v12 v13) (hg : wx.grownBy w' (some g)) (hr : Rd w' g (p + 1)) (x : Int) : RF w w' g p l0 l1 true l3 l4 l5 l6 l7 v3 v8 v9 (.int .i64 x) v11 v12 v13 where
  gr := grown_trans h.gr hg
  rs := h.rs.past hg (by have := h.hg; omega)
  hg := h.hg
  f0 := h.f0
  f1 := fun e => by obtain ⟨b, e1, e2, e3⟩ := h.f1 e; exact ⟨b, e1, e2.past hg (by have := h.hg; omega), e3⟩
  f2 := hr
  f2x := fun _ => ⟨x, rfl⟩
  f3 := h.f3
  f4 := fun e => by obtain ⟨b, e1, e2, e3⟩ := h.f4 e; exact ⟨b, e1, e2.past hg (by have := h.hg; omega), e3⟩
  f5 := fun e => by obtain ⟨x, b1, b2, e1, e2, e3⟩ := h.f5 e; exact ⟨x, b1, b2, e1, e2.past hg (by have := h.hg; omega), e3⟩
  f6 := fun e => by obtain ⟨L, e1, e2, e3⟩ := h.f6 e; exact ⟨L, e1, e2, fun q => (e3 q).past hg (by have := h.hg; omega)⟩
  d7 := h.d7
  f7 := fun e => by obtain ⟨L, x, b1, b2, e1, e2, e3, e4⟩ := h.f7 e; exact ⟨L, x, b1, b2, e1, e2.past hg (by have := h.hg; omega), e3.past hg (by have := h.hg; omega), e4⟩
theorem RF.lt (h : RF w wx g p l0 l1 l2 l3 l4 l5 l6 l7 v3 v8 v9 v10 v11 v12 v13) : w.heap.size < wx.heap.size := h.rs.lt
end
theorem At.apart {w : World} {b b' : Nat} {t t' : TypeId} {cs cs' : Array Value} (h : At w b t cs) (h' : At w b' t' cs') (ht : t ≠ t') : b ≠ b' := by
  intro e
  subst e
  have h1 : w.heap[b]? = some (.cells cs t (0, 0)) := h
  have h2 : w.heap[b]? = some (.cells cs' t' (0, 0)) := h'
  rw [h1] at h2
  injection h2 with h2
  injection h2 with _ h2
  exact ht h2
theorem spoil_len {g p n : Nat} {A : Option Addr} {c : Nat} {xs : List Int} {m : Int} {w : World} (hl : xs.length = n) (h : Sees w w.heap.size A (ints xs)) (hr : Rd w g p) (hp : p < 1000) (hn : xs.length ≤ 1000) :
    Calls Try.prog 20 #[.pointer (some ⟨g, 0, none⟩), .slice A n c, .int .i64 m] w (SpoilAns n w g p) := by
  subst hl; exact spoil_any g p A c xs m w h hr hp hn
end Go.Proofs.Ytmpiigjkmodekaa

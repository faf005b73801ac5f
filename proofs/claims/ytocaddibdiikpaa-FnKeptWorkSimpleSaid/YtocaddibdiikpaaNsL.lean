/-
  What draws the arguments of the laws on states of transactions. Condition: the lists lie in memory.
-/
import Derived.Test.YtocaddibdiikpaaNsK
namespace Go.Proofs.Ytocaddibdiikpaa
open Go.RowKit Nes

/-- A state that was drawn; nothing that was there has changed. -/
def DN (w w' : World) (B : Option Addr) (d : Nat) (C : Nst) : Prop := SeesF w' (fun b => b < w.heap.size) B (ints C.m) ∧ Below w.heap.size w w' ∧ C.m.length ≤ 8 ∧ C.m.length ≤ d
section
variable {w w' w'' : World} {B : Option Addr} {d : Nat} {C : Nst}
theorem DN.below (h : DN w w' B d C) (hb : Below w'.heap.size w' w'') : DN w w'' B d C := ⟨h.1.below hb, h.2.1.trans (hb.mono h.2.1.size), h.2.2⟩
theorem DN.drewN (h : DN w w' B d C) (k : Nat) : DN w (w'.drewN k) B d C := h.below (below_drewN (Below.refl _ _) k)
theorem DN.drew (h : DN w w' B d C) : DN w w'.drew B d C := h.below ((Below.refl _ _).drew)
theorem DN.alloc (h : DN w w' B d C) (o : Obj) : DN w (w'.alloc o) B d C := h.below ((Below.refl _ _).alloc (Nat.le_refl _) o)
theorem DN.sees (h : DN w w' B d C) : SeesM w' w'.heap.size B C := h.1.sees
theorem DN.bel (h : DN w w' B d C) : Below w.heap.size w w' := h.2.1
theorem DN.n4 (h : DN w w' B d C) : C.m.length ≤ 4194304 := Nat.le_trans h.2.2.1 (by decide)
theorem DN.cap (h : DN w w' B d C) : C.m.length ≤ d := h.2.2.2
end
/-- Numbers that were drawn; nothing that was there has changed. -/
def DKs (w w' : World) (A : Option Addr) (c : Nat) (ys : List Int) : Prop := SeesF w' (fun b => b < w.heap.size) A (ints ys) ∧ Below w.heap.size w w' ∧ ys.length ≤ 18 ∧ ys.length ≤ c
section
variable {w w' w'' : World} {A : Option Addr} {c : Nat} {ys : List Int}
theorem DKs.below (h : DKs w w' A c ys) (hb : Below w'.heap.size w' w'') : DKs w w'' A c ys := ⟨h.1.below hb, h.2.1.trans (hb.mono h.2.1.size), h.2.2⟩
theorem DKs.drewN (h : DKs w w' A c ys) (k : Nat) : DKs w (w'.drewN k) A c ys := h.below (below_drewN (Below.refl _ _) k)
theorem DKs.drew (h : DKs w w' A c ys) : DKs w w'.drew A c ys := h.below ((Below.refl _ _).drew)
theorem DKs.alloc (h : DKs w w' A c ys) (o : Obj) : DKs w (w'.alloc o) A c ys := h.below ((Below.refl _ _).alloc (Nat.le_refl _) o)
theorem DKs.sees (h : DKs w w' A c ys) : Sees w' w'.heap.size A (ints ys) := h.1.sees
theorem DKs.bel (h : DKs w w' A c ys) : Below w.heap.size w w' := h.2.1
theorem DKs.n18 (h : DKs w w' A c ys) : ys.length ≤ 18 := h.2.2.1
theorem DKs.n4 (h : DKs w w' A c ys) : ys.length ≤ 4194304 := Nat.le_trans h.2.2.1 (by decide)
theorem DKs.cap (h : DKs w w' A c ys) : ys.length ≤ c := h.2.2.2
end
def NsD0 (w : World) (e : Ending) (w' : World) : Prop := ∃ B d C, e = .returned (.agg #[.int .i64 (Nst.d C), .int .i64 (Nst.w C), .slice B (Nst.m C).length d, .bool (Nst.b C)]) ∧ DN w w' B d C
def NsD1 (w : World) (e : Ending) (w' : World) : Prop := ∃ B d C, ∃ i : Int, e = .returned (.tuple #[.agg #[.int .i64 (Nst.d C), .int .i64 (Nst.w C), .slice B (Nst.m C).length d, .bool (Nst.b C)], .int .i64 i]) ∧ DN w w' B d C
def NsDk (w : World) (e : Ending) (w' : World) : Prop := ∃ A c ys, e = .returned (.slice A (List.length ys) c) ∧ DKs w w' A c ys
set_option maxHeartbeats 4000000 in
theorem drawRunNest_any (A : Option Addr) (n c : Nat) (zs : List Int) (w : World) (h : Sees w w.heap.size A (byts zs)) (hz : ∀ z ∈ zs, 0 ≤ z ∧ z ≤ 255) (hn : zs.length = n) (hc : n ≤ c) (hm : n ≤ 1048576) (hcc : c ≤ maxLen) :
    Calls Try.prog 17 #[.slice A n c] w (NsDk w) := by
  have HZ := hid hz
  have HE := hid hn
  have HC := hid hcc
  clear hz hn hcc
  go_enter Try.func17, Try.ntmps17
  go_wp2_with fail
  refine (newReader_any A n c zs _ h HZ.out HE.out hc hm HC.out).mono ?_
  rintro e w1 ⟨rfl, hb1, hr1⟩
  have hgl := hr1.lt
  go_wp2_with fail
  refine (someKinds_any w.heap.size 0 _ hr1 (by omega)).mono ?_
  rintro e w2 ⟨A2, c2, ys, q, rfl, hyc, hyl, hS, hgr, hr2, hq⟩
  have hB2 := hb1.trans (below_of_grown hgr (Nat.le_refl _) (Nat.le_of_lt hgl))
  have hz2 := hb1.size
  go_wp2
  go_ret
  exact ⟨A2, c2, ys, rfl, hS.imp (fun x _ hx => by omega), hB2, hyl, hyc⟩

set_option maxHeartbeats 4000000 in
theorem drawKeptWork_any (A : Option Addr) (n c : Nat) (zs : List Int) (w : World) (h : Sees w w.heap.size A (byts zs)) (hz : ∀ z ∈ zs, 0 ≤ z ∧ z ≤ 255) (hn : zs.length = n) (hc : n ≤ c) (hm : n ≤ 1048576) (hcc : c ≤ maxLen) :
    Calls Try.prog 20 #[.slice A n c] w (NsDk w) := by
  have HZ := hid hz
  have HE := hid hn
  have HC := hid hcc
  clear hz hn hcc
  go_enter Try.func20, Try.ntmps20
  go_wp2_with fail
  refine (newReader_any A n c zs _ h HZ.out HE.out hc hm HC.out).mono ?_
  rintro e w1 ⟨rfl, hb1, hr1⟩
  have hgl := hr1.lt
  go_wp2_with fail
  refine (someKinds_any w.heap.size 0 _ hr1 (by omega)).mono ?_
  rintro e w2 ⟨A2, c2, ys, q, rfl, hyc, hyl, hS, hgr, hr2, hq⟩
  have hB2 := hb1.trans (below_of_grown hgr (Nat.le_refl _) (Nat.le_of_lt hgl))
  have hz2 := hb1.size
  go_wp2
  go_ret
  exact ⟨A2, c2, ys, rfl, hS.imp (fun x _ hx => by omega), hB2, hyl, hyc⟩

set_option maxHeartbeats 4000000 in
theorem drawCleanUp_any (A : Option Addr) (n c : Nat) (zs : List Int) (w : World) (h : Sees w w.heap.size A (byts zs)) (hz : ∀ z ∈ zs, 0 ≤ z ∧ z ≤ 255) (hn : zs.length = n) (hc : n ≤ c) (hm : n ≤ 1048576) (hcc : c ≤ maxLen) :
    Calls Try.prog 24 #[.slice A n c] w (NsD0 w) := by
  have HZ := hid hz
  have HE := hid hn
  have HC := hid hcc
  clear hz hn hcc
  have pz0 := At.new w 25 #[.int .i64 0, .int .i64 0, .slice none 0 0, .bool false]
  have hb0 := (Below.refl w.heap.size w).alloc (Nat.le_refl _) (.cells #[.int .i64 0, .int .i64 0, .slice none 0 0, .bool false] 25)
  have h0 := h.alloc (Nat.le_refl _) (.cells #[.int .i64 0, .int .i64 0, .slice none 0 0, .bool false] 25)
  go_enter Try.func24, Try.ntmps24
  go_wp2_with fail
  refine (newReader_any A n c zs _ (h0.more (by simp)) HZ.out HE.out hc hm HC.out).mono ?_
  rintro e w1 ⟨rfl, hb1, hr1⟩
  have hB1 := hb0.trans (hb1.mono hb0.size)
  have pz1 := pz0.below hb1 pz0.lt
  obtain ⟨g, hg⟩ : ∃ g, g = w.heap.size + 1 := ⟨_, rfl⟩
  rw [show (w.alloc (.cells #[.int .i64 0, .int .i64 0, .slice none 0 0, .bool false] 25)).heap.size = w.heap.size + 1 by simp, ← hg] at hr1
  have hg2 := hg
  have hgl := hr1.lt
  clear hb0 hb1 pz0 h0
  go_wp2_with fail
  simp only [← hg]
  refine (anyNest_any g 0 _ hr1 (by omega)).mono ?_
  rintro e w2 ⟨C, B, d, q, rfl, hcd, hcl, hS, hgr, hr2, hq⟩
  have pz2 := pz1.past hgr (by omega)
  have hB2 := hB1.trans (below_of_grown hgr (B := w.heap.size) (by omega) (by omega))
  have hz2 := hgr.size
  have hwg : w.heap.size < g := by omega
  clear hr1 pz1 hB1 hgr hg hg2
  obtain ⟨hp, hgz⟩ := four_put (.int .i64 C.d) (.int .i64 C.w) (.slice B C.m.length d) (.bool C.b) pz2 rfl
  have hBf := below_put hB2 hgz (Nat.le_refl _) hB2.size
  have hSf := hS.grown hgz (fun x e => by injection e with e; omega)
  obtain ⟨p0, p1, p2, p3, pl, pf⟩ := pz2.four
  go_wp2
  refine bodyPost_ret (v := .agg #[.int .i64 C.d, .int .i64 C.w, .slice B C.m.length d, .bool C.b]) (by simp [results, Try.results24, go_sem, hp.cell]) rfl ?_
  exact ⟨B, d, C, rfl, hSf.imp (fun x _ hx => by omega), hBf, hcl, hcd⟩

set_option maxHeartbeats 4000000 in
theorem drawStepNest_any (A : Option Addr) (n c : Nat) (zs : List Int) (w : World) (h : Sees w w.heap.size A (byts zs)) (hz : ∀ z ∈ zs, 0 ≤ z ∧ z ≤ 255) (hn : zs.length = n) (hc : n ≤ c) (hm : n ≤ 1048576) (hcc : c ≤ maxLen) :
    Calls Try.prog 12 #[.slice A n c] w (NsD1 w) := by
  have HZ := hid hz
  have HE := hid hn
  have HC := hid hcc
  clear hz hn hcc
  have pz0 := At.new w 25 #[.int .i64 0, .int .i64 0, .slice none 0 0, .bool false]
  have hb0 := (Below.refl w.heap.size w).alloc (Nat.le_refl _) (.cells #[.int .i64 0, .int .i64 0, .slice none 0 0, .bool false] 25)
  have h0 := h.alloc (Nat.le_refl _) (.cells #[.int .i64 0, .int .i64 0, .slice none 0 0, .bool false] 25)
  go_enter Try.func12, Try.ntmps12
  go_wp2_with fail
  refine (newReader_any A n c zs _ (h0.more (by simp)) HZ.out HE.out hc hm HC.out).mono ?_
  rintro e w1 ⟨rfl, hb1, hr1⟩
  have hB1 := hb0.trans (hb1.mono hb0.size)
  have pz1 := pz0.below hb1 pz0.lt
  obtain ⟨g, hg⟩ : ∃ g, g = w.heap.size + 1 := ⟨_, rfl⟩
  rw [show (w.alloc (.cells #[.int .i64 0, .int .i64 0, .slice none 0 0, .bool false] 25)).heap.size = w.heap.size + 1 by simp, ← hg] at hr1
  have hg2 := hg
  have hgl := hr1.lt
  clear hb0 hb1 pz0 h0
  go_wp2_with fail
  simp only [← hg]
  refine (anyNest_any g 0 _ hr1 (by omega)).mono ?_
  rintro e w2 ⟨C, B, d, q, rfl, hcd, hcl, hS, hgr, hr2, hq⟩
  have pz2 := pz1.past hgr (by omega)
  have hB2 := hB1.trans (below_of_grown hgr (B := w.heap.size) (by omega) (by omega))
  have hz2 := hgr.size
  have hwg : w.heap.size < g := by omega
  clear hr1 pz1 hB1 hgr hg hg2
  have px2 := At.new w2 25 #[.int .i64 C.d, .int .i64 C.w, .slice B C.m.length d, .bool C.b]
  have hr3 := hr2.alloc (.cells #[.int .i64 C.d, .int .i64 C.w, .slice B C.m.length d, .bool C.b] 25)
  have pz3 := pz2.alloc (.cells #[.int .i64 C.d, .int .i64 C.w, .slice B C.m.length d, .bool C.b] 25)
  have hB3 := hB2.alloc hB2.size (.cells #[.int .i64 C.d, .int .i64 C.w, .slice B C.m.length d, .bool C.b] 25)
  have hS3 := hS.alloc (.cells #[.int .i64 C.d, .int .i64 C.w, .slice B C.m.length d, .bool C.b] 25)
  have hz3 : w2.heap.size < (w2.alloc (.cells #[.int .i64 C.d, .int .i64 C.w, .slice B C.m.length d, .bool C.b] 25)).heap.size := px2.lt
  clear hr2 pz2 hB2 hS
  have hgm : g < w2.heap.size := by omega
  have hwm : w.heap.size < w2.heap.size := by omega
  go_wp2_with fail
  obtain ⟨m, hm2⟩ : ∃ m, m = w2.heap.size := ⟨_, rfl⟩
  obtain ⟨w3, hw3⟩ : ∃ w3, w3 = w2.alloc (.cells #[.int .i64 C.d, .int .i64 C.w, .slice B C.m.length d, .bool C.b] 25) := ⟨_, rfl⟩
  simp only [← hw3] at px2 hr3 pz3 hB3 hS3 hz3 ⊢
  simp only [← hm2] at px2 hz3 hgm hwm ⊢
  clear hm2 hw3
  have pxd := px2.drew
  have pzd := pz3.drew
  have hBd := hB3.drew
  have hSd := hS3.drew
  have hrd := hr3.drew
  have hmw : ¬ m = w.heap.size := by omega
  have hmw2 : ¬ w.heap.size = m := by omega
  have hms : ¬ m = w3.heap.size := by omega
  have hms2 : ¬ w3.heap.size = m := by omega
  obtain ⟨p0, p1, p2, p3, pl, pf⟩ := px2.four
  go_region_held3 (fun w' => w'.cell? ⟨m, 0, none⟩ = some (.int .i64 C.d) ∧ w'.cell? ⟨m, 1, none⟩ = some (.int .i64 C.w) ∧ w'.cell? ⟨m, 2, none⟩ = some (.slice B C.m.length d) ∧ w'.cell? ⟨m, 3, none⟩ = some (.bool C.b))
    (first | with_reducible exact ⟨p0, p1, p2, p3⟩ | with_reducible exact ⟨y0, y1, y2, y3⟩ | go_keep)
    (first
      | (go_at_call 30; refine (one_any g q _ 7 _ [0, 1, 2, 3, 4, 5, -1] _ (hrd.alloc _) (by omega) (At.newAt 3 _ (by first | rfl | (simp; done))) (by rfl) (by first | omega | (simp; omega)) (by rfl) (by omega) (by omega)).mono ?_; rintro e w9 ⟨y, rfl, my, hg9, hr9⟩; clear my; have px9 := (pxd.alloc (.cells #[.int .i64 0, .int .i64 1, .int .i64 2, .int .i64 3, .int .i64 4, .int .i64 5, .int .i64 (-1)] 3)).past hg9 (by omega); have pz9 := (pzd.alloc (.cells #[.int .i64 0, .int .i64 1, .int .i64 2, .int .i64 3, .int .i64 4, .int .i64 5, .int .i64 (-1)] 3)).past hg9 (by omega); have hB9 := (hBd.alloc hBd.size (.cells #[.int .i64 0, .int .i64 1, .int .i64 2, .int .i64 3, .int .i64 4, .int .i64 5, .int .i64 (-1)] 3)).trans (below_of_grown hg9 (B := w.heap.size) (by omega) (by first | omega | (simp; omega))); have hS9 := (hSd.alloc (.cells #[.int .i64 0, .int .i64 1, .int .i64 2, .int .i64 3, .int .i64 4, .int .i64 5, .int .i64 (-1)] 3)).grown hg9 (fun x e => by injection e with e; omega); obtain ⟨y0, y1, y2, y3, yl, yf⟩ := px9.four; obtain ⟨v0, v1, v2, v3, vl, vf⟩ := pz9.four)
      | fail)
  all_goals
    obtain ⟨hp, hgz⟩ := four_put (.int .i64 C.d) (.int .i64 C.w) (.slice B C.m.length d) (.bool C.b) pz9 rfl
    have hBf := below_put hB9 hgz (Nat.le_refl _) hB9.size
    have hSf := hS9.grown hgz (fun x e => by injection e with e; omega)
    go_wp2
    refine bodyPost_ret (v := .tuple #[.agg #[.int .i64 C.d, .int .i64 C.w, .slice B C.m.length d, .bool C.b], .int .i64 y]) (by simp [results, Try.results12, go_sem, hp.cell]) rfl ?_
    exact ⟨B, d, C, y, rfl, hSf.imp (fun x _ hx => by omega), hBf, hcl, hcd⟩

end Go.Proofs.Ytocaddibdiikpaa

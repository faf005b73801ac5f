/-
  What the functions answer that draw the arguments of the laws on shares. Condition: the code is at most 2^20 bytes.
-/
import Derived.Test.YtmpiigjkmodekaaShGenB
namespace Go.Proofs.Ytmpiigjkmodekaa
open Go.RowKit Sha

/-- Shares that were drawn; nothing that was there has changed. -/
def DSh (w w' : World) (A1 A2 : Option Addr) (s : Shr) : Prop := SeesF w' (fun b => b < w.heap.size) A1 (ints s.m) ∧ SeesF w' (fun b => b < w.heap.size) A2 (ints s.h) ∧ Below w.heap.size w w' ∧ s.m.length ≤ 6 ∧ s.h.length ≤ 6
section
variable {w w' w'' : World} {A1 A2 : Option Addr} {s : Shr}
theorem DSh.below (h : DSh w w' A1 A2 s) (hb : Below w'.heap.size w' w'') : DSh w w'' A1 A2 s := ⟨h.1.below hb, h.2.1.below hb, h.2.2.1.trans (hb.mono h.2.2.1.size), h.2.2.2⟩
theorem DSh.drewN (h : DSh w w' A1 A2 s) (k : Nat) : DSh w (w'.drewN k) A1 A2 s := h.below (below_drewN (Below.refl _ _) k)
theorem DSh.drew (h : DSh w w' A1 A2 s) : DSh w w'.drew A1 A2 s := h.below ((Below.refl _ _).drew)
theorem DSh.alloc (h : DSh w w' A1 A2 s) (o : Obj) : DSh w (w'.alloc o) A1 A2 s := h.below ((Below.refl _ _).alloc (Nat.le_refl _) o)
theorem DSh.sees (h : DSh w w' A1 A2 s) : SeesR w' w'.heap.size A1 A2 s := ⟨h.1.sees, h.2.1.sees⟩
theorem DSh.seesm (h : DSh w w' A1 A2 s) : Sees w' w'.heap.size A1 (ints s.m) := h.1.sees
theorem DSh.seesh (h : DSh w w' A1 A2 s) : Sees w' w'.heap.size A2 (ints s.h) := h.2.1.sees
theorem DSh.bel (h : DSh w w' A1 A2 s) : Below w.heap.size w w' := h.2.2.1
theorem DSh.m4 (h : DSh w w' A1 A2 s) : s.m.length ≤ 4194304 := Nat.le_trans h.2.2.2.1 (by decide)
theorem DSh.h4 (h : DSh w w' A1 A2 s) : s.h.length ≤ 4194304 := Nat.le_trans h.2.2.2.2 (by decide)
end
def ShD0 (w : World) (e : Ending) (w' : World) : Prop := ∃ A1 A2 c1 c2, ∃ s : Shr, e = .returned (.agg #[.int .i64 s.t, .slice A1 s.m.length c1, .slice A2 s.h.length c2]) ∧ DSh w w' A1 A2 s
def ShD1 (w : World) (e : Ending) (w' : World) : Prop := ∃ A1 A2 c1 c2, ∃ (s : Shr) (i : Int), e = .returned (.tuple #[.agg #[.int .i64 s.t, .slice A1 s.m.length c1, .slice A2 s.h.length c2], .int .i64 i]) ∧ DSh w w' A1 A2 s ∧ -1 ≤ i ∧ i ≤ 5
def ShD2 (w : World) (e : Ending) (w' : World) : Prop := ∃ A1 A2 c1 c2, ∃ (s : Shr) (A : Option Addr) (c : Nat) (gs : List Int), e = .returned (.tuple #[.agg #[.int .i64 s.t, .slice A1 s.m.length c1, .slice A2 s.h.length c2], .slice A gs.length c]) ∧ DSh w w' A1 A2 s ∧ SeesF w' (fun b => b < w.heap.size) A (ints gs) ∧ gs.length ≤ 14 ∧ gs.length ≤ c
set_option maxHeartbeats 4000000 in
theorem drawGiveShare_any (A : Option Addr) (n c : Nat) (zs : List Int) (w : World) (h : Sees w w.heap.size A (byts zs)) (hz : ∀ z ∈ zs, 0 ≤ z ∧ z ≤ 255) (hn : zs.length = n) (hc : n ≤ c) (hm : n ≤ 1048576) (hcc : c ≤ maxLen) :
    Calls Try.prog 4 #[.slice A n c] w (ShD1 w) := by
  have HZ := hid hz
  have HE := hid hn
  have HC := hid hcc
  clear hz hn hcc
  have pz0 := At.new w 25 #[.int .i64 0, .slice none 0 0, .slice none 0 0]
  have hb0 := (Below.refl w.heap.size w).alloc (Nat.le_refl _) (.cells #[.int .i64 0, .slice none 0 0, .slice none 0 0] 25)
  have h0 := h.alloc (Nat.le_refl _) (.cells #[.int .i64 0, .slice none 0 0, .slice none 0 0] 25)
  go_enter Try.func4, Try.ntmps4
  go_wp2_with fail
  refine (newReader_any A n c zs _ (h0.more (by simp)) HZ.out HE.out hc hm HC.out).mono ?_
  rintro e w1 ⟨rfl, hb1, hr1⟩
  have hB1 := hb0.trans (hb1.mono hb0.size)
  have pz1 := pz0.below hb1 pz0.lt
  obtain ⟨g, hg⟩ : ∃ g, g = w.heap.size + 1 := ⟨_, rfl⟩
  rw [show (w.alloc (.cells #[.int .i64 0, .slice none 0 0, .slice none 0 0] 25)).heap.size = w.heap.size + 1 by simp, ← hg] at hr1
  have hg2 := hg
  have hgl := hr1.lt
  clear hb0 hb1 pz0 h0
  go_wp2_with fail
  simp only [← hg]
  refine (anyShare_any g 0 _ hr1 (by omega)).mono ?_
  rintro e w2 ⟨s, A1, A2, c1, c2, q, rfl, ⟨hl1, hl2⟩, hS, hT, hgr, hr2, hq⟩
  have pz2 := pz1.past hgr (by omega)
  have hB2 := hB1.trans (below_of_grown hgr (B := w.heap.size) (by omega) (by omega))
  have hz2 := hgr.size
  have hwg : w.heap.size < g := by omega
  clear hr1 pz1 hB1 hgr hg hg2
  have px2 := At.new w2 25 #[.int .i64 s.t, .slice A1 s.m.length c1, .slice A2 s.h.length c2]
  have hr3 := hr2.alloc (.cells #[.int .i64 s.t, .slice A1 s.m.length c1, .slice A2 s.h.length c2] 25)
  have pz3 := pz2.alloc (.cells #[.int .i64 s.t, .slice A1 s.m.length c1, .slice A2 s.h.length c2] 25)
  have hB3 := hB2.alloc hB2.size (.cells #[.int .i64 s.t, .slice A1 s.m.length c1, .slice A2 s.h.length c2] 25)
  have hS3 := hS.alloc (.cells #[.int .i64 s.t, .slice A1 s.m.length c1, .slice A2 s.h.length c2] 25)
  have hT3 := hT.alloc (.cells #[.int .i64 s.t, .slice A1 s.m.length c1, .slice A2 s.h.length c2] 25)
  have hz3 : w2.heap.size < (w2.alloc (.cells #[.int .i64 s.t, .slice A1 s.m.length c1, .slice A2 s.h.length c2] 25)).heap.size := px2.lt
  clear hr2 pz2 hB2 hS hT
  have hgm : g < w2.heap.size := by omega
  have hwm : w.heap.size < w2.heap.size := by omega
  obtain ⟨p0, p1, p2, pl, pf⟩ := px2.three
  go_wp2_with fail
  obtain ⟨m, hm2⟩ : ∃ m, m = w2.heap.size := ⟨_, rfl⟩
  obtain ⟨w3, hw3⟩ : ∃ w3, w3 = w2.alloc (.cells #[.int .i64 s.t, .slice A1 s.m.length c1, .slice A2 s.h.length c2] 25) := ⟨_, rfl⟩
  simp only [← hw3] at px2 hr3 pz3 hB3 hS3 hT3 hz3 ⊢
  simp only [← hm2] at px2 hz3 hgm hwm ⊢
  clear p0 p1 p2 pl pf hm2 hw3
  have px3 := px2
  clear px2
  have pxd := px3.drew
  have pzd := pz3.drew
  have hBd := hB3.drew
  have hSd := hS3.drew
  have hTd := hT3.drew
  have hrd := hr3.drew
  have hzd : m < w3.drew.heap.size := hz3
  have hzw := hB3.size
  have hmw : ¬ m = w.heap.size := by omega
  have hmw2 : ¬ w.heap.size = m := by omega
  obtain ⟨p0, p1, p2, pl, pf⟩ := px3.three
  go_region_held3 (fun w' => w'.cell? ⟨m, 0, none⟩ = some (.int .i64 s.t) ∧ w'.cell? ⟨m, 1, none⟩ = some (.slice A1 s.m.length c1) ∧ w'.cell? ⟨m, 2, none⟩ = some (.slice A2 s.h.length c2))
    (first | exact ⟨p0, p1, p2⟩ | exact ⟨y0, y1, y2⟩ | go_keep)
    (first
      | (go_at_call 11; refine (one_any g q _ 7 _ [0, 1, 2, 3, 4, 5, -1] _ (hrd.alloc _) (by omega) (At.newAt 3 _ rfl) (by rfl) (by first | omega | (simp; omega)) (by rfl) (by omega) (by omega)).mono ?_; rintro e w9 ⟨x9, rfl, hx9, hg9, hr9⟩; have hxx : -1 ≤ x9 ∧ x9 ≤ 5 := (by simp at hx9; omega); have px9 := (pxd.alloc _).past hg9 (by omega); have pz9 := (pzd.alloc _).past hg9 (by omega); have hB9 := (hBd.alloc hBd.size _).trans (below_of_grown hg9 (B := w.heap.size) (by omega) (by first | omega | (simp; omega))); have hS9 := (hSd.alloc _).grown hg9 (fun x e => by injection e with e; omega); have hT9 := (hTd.alloc _).grown hg9 (fun x e => by injection e with e; omega); have hzz9 := hg9.size; obtain ⟨y0, y1, y2, yl, yf⟩ := px9.three; obtain ⟨v0, v1, v2, vl, vf⟩ := pz9.three)
      | fail)
  all_goals
    obtain ⟨hp, hgz⟩ := three_put (.int .i64 s.t) (.slice A1 s.m.length c1) (.slice A2 s.h.length c2) pz9 rfl
    have hBf := below_put hB9 hgz (Nat.le_refl _) hB9.size
    have hSf := hS9.grown hgz (fun x e => by injection e with e; omega)
    have hTf := hT9.grown hgz (fun x e => by injection e with e; omega)
    go_wp2
    refine bodyPost_ret (v := .tuple #[.agg #[.int .i64 s.t, .slice A1 s.m.length c1, .slice A2 s.h.length c2], .int .i64 x9]) (by simp [results, Try.results4, go_sem, hp.cell]) rfl ?_
    exact ⟨A1, A2, c1, c2, s, x9, by simp, ⟨hSf.imp (fun x _ hx => by omega), hTf.imp (fun x _ hx => by omega), hBf, hl1, hl2⟩, hxx⟩

end Go.Proofs.Ytmpiigjkmodekaa

/-
  What the functions answer that draw the arguments of the laws on pools. Condition: the code is at most 2^20 bytes.
-/
import Derived.Test.YtnfpnpdiglaebaaPlGenC
import Derived.Test.YtnfpnpdiglaebaaPlW
import Derived.Deep.RegionHeld3
namespace Go.Proofs.Ytnfpnpdiglaebaa
open Go.RowKit Pol
theorem At.fourP {w : World} {g : Nat} {t : TypeId} {a b c d : Value} (h : At w g t #[a, b, c, d]) : w.cell? ⟨g, 0, none⟩ = some a ∧ w.cell? ⟨g, 1, none⟩ = some b ∧ w.cell? ⟨g, 2, none⟩ = some c ∧ w.cell? ⟨g, 3, none⟩ = some d ∧ g < w.heap.size ∧ ∀ i, w.frozen? ⟨g, i, none⟩ = false :=
  ⟨h.cell 0, h.cell 1, h.cell 2, h.cell 3, h.lt, h.frozen⟩
/-- A pool and a number that were drawn. -/
def DrawPB (w : World) (e : Ending) (w' : World) : Prop := ∃ (A1 A2 A3 : Option Addr) (c1 c2 c3 : Nat) (p : Pl) (o : Int), e = .returned (.tuple #[.agg #[.int .i64 p.mx, .slice A1 p.idle.length c1, .slice A2 p.held.length c2, .slice A3 p.wait.length c3], .int .i64 o]) ∧ DQ w w' A1 A2 A3 c1 c2 c3 p ∧ -1 ≤ o ∧ o ≤ 1000
set_option maxHeartbeats 4000000 in
theorem drawValidPool_any (A : Option Addr) (n c : Nat) (zs : List Int) (w : World) (h : Sees w w.heap.size A (byts zs)) (hz : ∀ z ∈ zs, 0 ≤ z ∧ z ≤ 255) (hn : zs.length = n) (hc : n ≤ c) (hm : n ≤ 1048576) (hcc : c ≤ maxLen) :
    Calls Try.prog 10 #[.slice A n c] w (DrawP0 w) := by
  have HZ := hid hz
  have HE := hid hn
  have HC := hid hcc
  clear hz hn hcc
  have pz0 := At.new w 26 #[.int .i64 0, .slice none 0 0, .slice none 0 0, .slice none 0 0]
  have hb0 := (Below.refl w.heap.size w).alloc (Nat.le_refl _) (.cells #[.int .i64 0, .slice none 0 0, .slice none 0 0, .slice none 0 0] 26)
  have h0 := h.alloc (Nat.le_refl _) (.cells #[.int .i64 0, .slice none 0 0, .slice none 0 0, .slice none 0 0] 26)
  go_enter Try.func10, Try.ntmps10
  go_wp2_with fail
  refine (newReader_any A n c zs _ (h0.more (by simp)) HZ.out HE.out hc hm HC.out).mono ?_
  rintro e w1 ⟨rfl, hb1, hr1⟩
  have hB1 := hb0.trans (hb1.mono hb0.size)
  have pz1 := pz0.below hb1 pz0.lt
  obtain ⟨g, hg⟩ : ∃ g, g = w.heap.size + 1 := ⟨_, rfl⟩
  rw [show (w.alloc (.cells #[.int .i64 0, .slice none 0 0, .slice none 0 0, .slice none 0 0] 26)).heap.size = w.heap.size + 1 by simp, ← hg] at hr1
  have hg2 := hg
  have hgl := hr1.lt
  clear hb0 hb1 pz0 h0
  go_wp2_with fail
  simp only [← hg]
  refine (anyPool_any g 0 _ hr1 (by omega)).mono ?_
  rintro e w2 ⟨A1, A2, A3, c1, c2, c3, p, q, rfl, hO, hgr, hr2, hq, hl1, hl2, hl3⟩
  have pz2 := pz1.past hgr (by omega)
  have hB2 := hB1.trans (below_of_grown hgr (B := w.heap.size) (by omega) (by omega))
  have hz2 := hgr.size
  have hwg : w.heap.size < g := by omega
  clear hr1 pz1 hB1 hgr hg hg2
  obtain ⟨hp, hgz⟩ := pool_put (.int .i64 p.mx) (.slice A1 p.idle.length c1) (.slice A2 p.held.length c2) (.slice A3 p.wait.length c3) pz2 rfl
  have hBf := below_put hB2 hgz (Nat.le_refl _) hB2.size
  have hOf := ((hO).past pz2 hgz).mono (show w.heap.size ≤ w1.heap.size by omega)
  obtain ⟨p0, p1, p2, p3, pl, pf⟩ := pz2.fourP
  go_wp2
  refine bodyPost_ret (v := .agg #[.int .i64 p.mx, .slice A1 p.idle.length c1, .slice A2 p.held.length c2, .slice A3 p.wait.length c3]) (by simp [results, Try.results10, go_sem, hp.cell]) rfl ?_
  exact ⟨A1, A2, A3, c1, c2, c3, p, rfl, hOf, hBf, hl1, hl2, hl3⟩

set_option maxHeartbeats 4000000 in
theorem drawAcquireConn_any (A : Option Addr) (n c : Nat) (zs : List Int) (w : World) (h : Sees w w.heap.size A (byts zs)) (hz : ∀ z ∈ zs, 0 ≤ z ∧ z ≤ 255) (hn : zs.length = n) (hc : n ≤ c) (hm : n ≤ 1048576) (hcc : c ≤ maxLen) :
    Calls Try.prog 13 #[.slice A n c] w (DrawPB w) := by
  have HZ := hid hz
  have HE := hid hn
  have HC := hid hcc
  clear hz hn hcc
  have pz0 := At.new w 26 #[.int .i64 0, .slice none 0 0, .slice none 0 0, .slice none 0 0]
  have hb0 := (Below.refl w.heap.size w).alloc (Nat.le_refl _) (.cells #[.int .i64 0, .slice none 0 0, .slice none 0 0, .slice none 0 0] 26)
  have h0 := h.alloc (Nat.le_refl _) (.cells #[.int .i64 0, .slice none 0 0, .slice none 0 0, .slice none 0 0] 26)
  go_enter Try.func13, Try.ntmps13
  go_wp2_with fail
  refine (newReader_any A n c zs _ (h0.more (by simp)) HZ.out HE.out hc hm HC.out).mono ?_
  rintro e w1 ⟨rfl, hb1, hr1⟩
  have hB1 := hb0.trans (hb1.mono hb0.size)
  have pz1 := pz0.below hb1 pz0.lt
  obtain ⟨g, hg⟩ : ∃ g, g = w.heap.size + 1 := ⟨_, rfl⟩
  rw [show (w.alloc (.cells #[.int .i64 0, .slice none 0 0, .slice none 0 0, .slice none 0 0] 26)).heap.size = w.heap.size + 1 by simp, ← hg] at hr1
  have hg2 := hg
  have hgl := hr1.lt
  clear hb0 hb1 pz0 h0
  go_wp2_with fail
  simp only [← hg]
  refine (anyPool_any g 0 _ hr1 (by omega)).mono ?_
  rintro e w2 ⟨A1, A2, A3, c1, c2, c3, p, q, rfl, hO, hgr, hr2, hq, hl1, hl2, hl3⟩
  have pz2 := pz1.past hgr (by omega)
  have hB2 := hB1.trans (below_of_grown hgr (B := w.heap.size) (by omega) (by omega))
  have hz2 := hgr.size
  have hwg : w.heap.size < g := by omega
  clear hr1 pz1 hB1 hgr hg hg2
  have px2 := At.new w2 26 #[.int .i64 p.mx, .slice A1 p.idle.length c1, .slice A2 p.held.length c2, .slice A3 p.wait.length c3]
  have hr3 := hr2.alloc (.cells #[.int .i64 p.mx, .slice A1 p.idle.length c1, .slice A2 p.held.length c2, .slice A3 p.wait.length c3] 26)
  have pz3 := pz2.alloc (.cells #[.int .i64 p.mx, .slice A1 p.idle.length c1, .slice A2 p.held.length c2, .slice A3 p.wait.length c3] 26)
  have hB3 := hB2.alloc hB2.size (.cells #[.int .i64 p.mx, .slice A1 p.idle.length c1, .slice A2 p.held.length c2, .slice A3 p.wait.length c3] 26)
  have hO3 := hO.alloc (.cells #[.int .i64 p.mx, .slice A1 p.idle.length c1, .slice A2 p.held.length c2, .slice A3 p.wait.length c3] 26)
  have hz3 : w2.heap.size < (w2.alloc (.cells #[.int .i64 p.mx, .slice A1 p.idle.length c1, .slice A2 p.held.length c2, .slice A3 p.wait.length c3] 26)).heap.size := px2.lt
  clear hr2 pz2 hB2 hO
  have hgm : g < w2.heap.size := by omega
  have hwm : w.heap.size < w2.heap.size := by omega
  obtain ⟨p0, p1, p2, p3, pl, pf⟩ := px2.fourP
  go_wp2_with fail
  obtain ⟨m, hm2⟩ : ∃ m, m = w2.heap.size := ⟨_, rfl⟩
  obtain ⟨w3, hw3⟩ : ∃ w3, w3 = w2.alloc (.cells #[.int .i64 p.mx, .slice A1 p.idle.length c1, .slice A2 p.held.length c2, .slice A3 p.wait.length c3] 26) := ⟨_, rfl⟩
  simp only [← hw3] at px2 hr3 pz3 hB3 hO3 hz3 ⊢
  simp only [← hm2] at px2 hz3 hgm hwm ⊢
  clear p0 p1 p2 p3 pl pf hm2 hw3
  have px3 := px2
  clear px2
  have pxd := px3.drew
  have pzd := pz3.drew
  have hBd := hB3.drew
  have hOd := hO3.drew
  have hrd := hr3.drew
  have hzd : m < w3.drew.heap.size := hz3
  have hzw := hB3.size
  have hmw : ¬ m = w.heap.size := by omega
  have hmw2 : ¬ w.heap.size = m := by omega
  obtain ⟨p0, p1, p2, p3, pl, pf⟩ := px3.fourP
  go_region_held3 (fun w' => w'.cell? ⟨m, 0, none⟩ = some (.int .i64 p.mx) ∧ w'.cell? ⟨m, 1, none⟩ = some (.slice A1 p.idle.length c1) ∧ w'.cell? ⟨m, 2, none⟩ = some (.slice A2 p.held.length c2) ∧ w'.cell? ⟨m, 3, none⟩ = some (.slice A3 p.wait.length c3))
    (first | exact ⟨p0, p1, p2, p3⟩ | exact ⟨y0, y1, y2, y3⟩ | go_keep)
    (first
      | (go_at_call 36; refine (one_any g q _ 8 _ [0, 1, 2, 3, 4, 0, 5, -1] _ (hrd.alloc _) (by omega) (At.newAt 3 _ rfl) (by rfl) (by first | omega | (simp; omega)) (by rfl) (by omega) (by omega)).mono ?_; rintro e w9 ⟨x9, rfl, hx9, hg9, hr9⟩; have hxx : -1 ≤ x9 ∧ x9 ≤ 1000 := (by simp at hx9; omega); have px9 := (pxd.alloc _).past hg9 (by omega); have pz9 := (pzd.alloc _).past hg9 (by omega); have hB9 := (hBd.alloc hBd.size _).trans (below_of_grown hg9 (B := w.heap.size) (by omega) (by first | omega | (simp; omega))); have hO9 := (hOd.alloc _).past' hg9 (by omega); have hzz9 := hg9.size; obtain ⟨y0, y1, y2, y3, yl, yf⟩ := px9.fourP; obtain ⟨v0, v1, v2, v3, vl, vf⟩ := pz9.fourP)
      | fail)
  all_goals
    obtain ⟨hp, hgz⟩ := pool_put (.int .i64 p.mx) (.slice A1 p.idle.length c1) (.slice A2 p.held.length c2) (.slice A3 p.wait.length c3) pz9 rfl
    have hBf := below_put hB9 hgz (Nat.le_refl _) hB9.size
    have hOf := ((hO9).past pz9 hgz).mono (show w.heap.size ≤ w1.heap.size by omega)
    go_wp2
    refine bodyPost_ret (v := .tuple #[.agg #[.int .i64 p.mx, .slice A1 p.idle.length c1, .slice A2 p.held.length c2, .slice A3 p.wait.length c3], .int .i64 x9]) (by simp [results, Try.results13, go_sem, hp.cell]) rfl ?_
    exact ⟨A1, A2, A3, c1, c2, c3, p, x9, by simp, ⟨hOf, hBf, hl1, hl2, hl3⟩, hxx⟩

set_option maxHeartbeats 4000000 in
theorem drawCloseIdle_any (A : Option Addr) (n c : Nat) (zs : List Int) (w : World) (h : Sees w w.heap.size A (byts zs)) (hz : ∀ z ∈ zs, 0 ≤ z ∧ z ≤ 255) (hn : zs.length = n) (hc : n ≤ c) (hm : n ≤ 1048576) (hcc : c ≤ maxLen) :
    Calls Try.prog 26 #[.slice A n c] w (DrawPB w) := by
  have HZ := hid hz
  have HE := hid hn
  have HC := hid hcc
  clear hz hn hcc
  have pz0 := At.new w 26 #[.int .i64 0, .slice none 0 0, .slice none 0 0, .slice none 0 0]
  have hb0 := (Below.refl w.heap.size w).alloc (Nat.le_refl _) (.cells #[.int .i64 0, .slice none 0 0, .slice none 0 0, .slice none 0 0] 26)
  have h0 := h.alloc (Nat.le_refl _) (.cells #[.int .i64 0, .slice none 0 0, .slice none 0 0, .slice none 0 0] 26)
  go_enter Try.func26, Try.ntmps26
  go_wp2_with fail
  refine (newReader_any A n c zs _ (h0.more (by simp)) HZ.out HE.out hc hm HC.out).mono ?_
  rintro e w1 ⟨rfl, hb1, hr1⟩
  have hB1 := hb0.trans (hb1.mono hb0.size)
  have pz1 := pz0.below hb1 pz0.lt
  obtain ⟨g, hg⟩ : ∃ g, g = w.heap.size + 1 := ⟨_, rfl⟩
  rw [show (w.alloc (.cells #[.int .i64 0, .slice none 0 0, .slice none 0 0, .slice none 0 0] 26)).heap.size = w.heap.size + 1 by simp, ← hg] at hr1
  have hg2 := hg
  have hgl := hr1.lt
  clear hb0 hb1 pz0 h0
  go_wp2_with fail
  simp only [← hg]
  refine (anyPool_any g 0 _ hr1 (by omega)).mono ?_
  rintro e w2 ⟨A1, A2, A3, c1, c2, c3, p, q, rfl, hO, hgr, hr2, hq, hl1, hl2, hl3⟩
  have pz2 := pz1.past hgr (by omega)
  have hB2 := hB1.trans (below_of_grown hgr (B := w.heap.size) (by omega) (by omega))
  have hz2 := hgr.size
  have hwg : w.heap.size < g := by omega
  clear hr1 pz1 hB1 hgr hg hg2
  have px2 := At.new w2 26 #[.int .i64 p.mx, .slice A1 p.idle.length c1, .slice A2 p.held.length c2, .slice A3 p.wait.length c3]
  have hr3 := hr2.alloc (.cells #[.int .i64 p.mx, .slice A1 p.idle.length c1, .slice A2 p.held.length c2, .slice A3 p.wait.length c3] 26)
  have pz3 := pz2.alloc (.cells #[.int .i64 p.mx, .slice A1 p.idle.length c1, .slice A2 p.held.length c2, .slice A3 p.wait.length c3] 26)
  have hB3 := hB2.alloc hB2.size (.cells #[.int .i64 p.mx, .slice A1 p.idle.length c1, .slice A2 p.held.length c2, .slice A3 p.wait.length c3] 26)
  have hO3 := hO.alloc (.cells #[.int .i64 p.mx, .slice A1 p.idle.length c1, .slice A2 p.held.length c2, .slice A3 p.wait.length c3] 26)
  have hz3 : w2.heap.size < (w2.alloc (.cells #[.int .i64 p.mx, .slice A1 p.idle.length c1, .slice A2 p.held.length c2, .slice A3 p.wait.length c3] 26)).heap.size := px2.lt
  clear hr2 pz2 hB2 hO
  have hgm : g < w2.heap.size := by omega
  have hwm : w.heap.size < w2.heap.size := by omega
  obtain ⟨p0, p1, p2, p3, pl, pf⟩ := px2.fourP
  go_wp2_with fail
  obtain ⟨m, hm2⟩ : ∃ m, m = w2.heap.size := ⟨_, rfl⟩
  obtain ⟨w3, hw3⟩ : ∃ w3, w3 = w2.alloc (.cells #[.int .i64 p.mx, .slice A1 p.idle.length c1, .slice A2 p.held.length c2, .slice A3 p.wait.length c3] 26) := ⟨_, rfl⟩
  simp only [← hw3] at px2 hr3 pz3 hB3 hO3 hz3 ⊢
  simp only [← hm2] at px2 hz3 hgm hwm ⊢
  clear p0 p1 p2 p3 pl pf hm2 hw3
  have px3 := px2
  clear px2
  have pxd := px3.drew
  have pzd := pz3.drew
  have hBd := hB3.drew
  have hOd := hO3.drew
  have hrd := hr3.drew
  have hzd : m < w3.drew.heap.size := hz3
  have hzw := hB3.size
  have hmw : ¬ m = w.heap.size := by omega
  have hmw2 : ¬ w.heap.size = m := by omega
  obtain ⟨p0, p1, p2, p3, pl, pf⟩ := px3.fourP
  go_region_held3 (fun w' => w'.cell? ⟨m, 0, none⟩ = some (.int .i64 p.mx) ∧ w'.cell? ⟨m, 1, none⟩ = some (.slice A1 p.idle.length c1) ∧ w'.cell? ⟨m, 2, none⟩ = some (.slice A2 p.held.length c2) ∧ w'.cell? ⟨m, 3, none⟩ = some (.slice A3 p.wait.length c3))
    (first | exact ⟨p0, p1, p2, p3⟩ | exact ⟨y0, y1, y2, y3⟩ | go_keep)
    (first
      | (go_at_call 36; refine (one_any g q _ 6 _ [0, 1, 2, 5, 100, -1] _ (hrd.alloc _) (by omega) (At.newAt 3 _ rfl) (by rfl) (by first | omega | (simp; omega)) (by rfl) (by omega) (by omega)).mono ?_; rintro e w9 ⟨x9, rfl, hx9, hg9, hr9⟩; have hxx : -1 ≤ x9 ∧ x9 ≤ 1000 := (by simp at hx9; omega); have px9 := (pxd.alloc _).past hg9 (by omega); have pz9 := (pzd.alloc _).past hg9 (by omega); have hB9 := (hBd.alloc hBd.size _).trans (below_of_grown hg9 (B := w.heap.size) (by omega) (by first | omega | (simp; omega))); have hO9 := (hOd.alloc _).past' hg9 (by omega); have hzz9 := hg9.size; obtain ⟨y0, y1, y2, y3, yl, yf⟩ := px9.fourP; obtain ⟨v0, v1, v2, v3, vl, vf⟩ := pz9.fourP)
      | fail)
  all_goals
    obtain ⟨hp, hgz⟩ := pool_put (.int .i64 p.mx) (.slice A1 p.idle.length c1) (.slice A2 p.held.length c2) (.slice A3 p.wait.length c3) pz9 rfl
    have hBf := below_put hB9 hgz (Nat.le_refl _) hB9.size
    have hOf := ((hO9).past pz9 hgz).mono (show w.heap.size ≤ w1.heap.size by omega)
    go_wp2
    refine bodyPost_ret (v := .tuple #[.agg #[.int .i64 p.mx, .slice A1 p.idle.length c1, .slice A2 p.held.length c2, .slice A3 p.wait.length c3], .int .i64 x9]) (by simp [results, Try.results26, go_sem, hp.cell]) rfl ?_
    exact ⟨A1, A2, A3, c1, c2, c3, p, x9, by simp, ⟨hOf, hBf, hl1, hl2, hl3⟩, hxx⟩

set_option maxHeartbeats 4000000 in
theorem drawHeldBy_any (A : Option Addr) (n c : Nat) (zs : List Int) (w : World) (h : Sees w w.heap.size A (byts zs)) (hz : ∀ z ∈ zs, 0 ≤ z ∧ z ≤ 255) (hn : zs.length = n) (hc : n ≤ c) (hm : n ≤ 1048576) (hcc : c ≤ maxLen) :
    Calls Try.prog 24 #[.slice A n c] w (DrawPB w) := by
  have HZ := hid hz
  have HE := hid hn
  have HC := hid hcc
  clear hz hn hcc
  have pz0 := At.new w 26 #[.int .i64 0, .slice none 0 0, .slice none 0 0, .slice none 0 0]
  have hb0 := (Below.refl w.heap.size w).alloc (Nat.le_refl _) (.cells #[.int .i64 0, .slice none 0 0, .slice none 0 0, .slice none 0 0] 26)
  have h0 := h.alloc (Nat.le_refl _) (.cells #[.int .i64 0, .slice none 0 0, .slice none 0 0, .slice none 0 0] 26)
  go_enter Try.func24, Try.ntmps24
  go_wp2_with fail
  refine (newReader_any A n c zs _ (h0.more (by simp)) HZ.out HE.out hc hm HC.out).mono ?_
  rintro e w1 ⟨rfl, hb1, hr1⟩
  have hB1 := hb0.trans (hb1.mono hb0.size)
  have pz1 := pz0.below hb1 pz0.lt
  obtain ⟨g, hg⟩ : ∃ g, g = w.heap.size + 1 := ⟨_, rfl⟩
  rw [show (w.alloc (.cells #[.int .i64 0, .slice none 0 0, .slice none 0 0, .slice none 0 0] 26)).heap.size = w.heap.size + 1 by simp, ← hg] at hr1
  have hg2 := hg
  have hgl := hr1.lt
  clear hb0 hb1 pz0 h0
  go_wp2_with fail
  simp only [← hg]
  refine (anyPool_any g 0 _ hr1 (by omega)).mono ?_
  rintro e w2 ⟨A1, A2, A3, c1, c2, c3, p, q, rfl, hO, hgr, hr2, hq, hl1, hl2, hl3⟩
  have pz2 := pz1.past hgr (by omega)
  have hB2 := hB1.trans (below_of_grown hgr (B := w.heap.size) (by omega) (by omega))
  have hz2 := hgr.size
  have hwg : w.heap.size < g := by omega
  clear hr1 pz1 hB1 hgr hg hg2
  have px2 := At.new w2 26 #[.int .i64 p.mx, .slice A1 p.idle.length c1, .slice A2 p.held.length c2, .slice A3 p.wait.length c3]
  have hr3 := hr2.alloc (.cells #[.int .i64 p.mx, .slice A1 p.idle.length c1, .slice A2 p.held.length c2, .slice A3 p.wait.length c3] 26)
  have pz3 := pz2.alloc (.cells #[.int .i64 p.mx, .slice A1 p.idle.length c1, .slice A2 p.held.length c2, .slice A3 p.wait.length c3] 26)
  have hB3 := hB2.alloc hB2.size (.cells #[.int .i64 p.mx, .slice A1 p.idle.length c1, .slice A2 p.held.length c2, .slice A3 p.wait.length c3] 26)
  have hO3 := hO.alloc (.cells #[.int .i64 p.mx, .slice A1 p.idle.length c1, .slice A2 p.held.length c2, .slice A3 p.wait.length c3] 26)
  have hz3 : w2.heap.size < (w2.alloc (.cells #[.int .i64 p.mx, .slice A1 p.idle.length c1, .slice A2 p.held.length c2, .slice A3 p.wait.length c3] 26)).heap.size := px2.lt
  clear hr2 pz2 hB2 hO
  have hgm : g < w2.heap.size := by omega
  have hwm : w.heap.size < w2.heap.size := by omega
  obtain ⟨p0, p1, p2, p3, pl, pf⟩ := px2.fourP
  go_wp2_with fail
  obtain ⟨m, hm2⟩ : ∃ m, m = w2.heap.size := ⟨_, rfl⟩
  obtain ⟨w3, hw3⟩ : ∃ w3, w3 = w2.alloc (.cells #[.int .i64 p.mx, .slice A1 p.idle.length c1, .slice A2 p.held.length c2, .slice A3 p.wait.length c3] 26) := ⟨_, rfl⟩
  simp only [← hw3] at px2 hr3 pz3 hB3 hO3 hz3 ⊢
  simp only [← hm2] at px2 hz3 hgm hwm ⊢
  clear p0 p1 p2 p3 pl pf hm2 hw3
  have px3 := px2
  clear px2
  have pxd := px3.drew
  have pzd := pz3.drew
  have hBd := hB3.drew
  have hOd := hO3.drew
  have hrd := hr3.drew
  have hzd : m < w3.drew.heap.size := hz3
  have hzw := hB3.size
  have hmw : ¬ m = w.heap.size := by omega
  have hmw2 : ¬ w.heap.size = m := by omega
  obtain ⟨p0, p1, p2, p3, pl, pf⟩ := px3.fourP
  go_region_held3 (fun w' => w'.cell? ⟨m, 0, none⟩ = some (.int .i64 p.mx) ∧ w'.cell? ⟨m, 1, none⟩ = some (.slice A1 p.idle.length c1) ∧ w'.cell? ⟨m, 2, none⟩ = some (.slice A2 p.held.length c2) ∧ w'.cell? ⟨m, 3, none⟩ = some (.slice A3 p.wait.length c3))
    (first | exact ⟨p0, p1, p2, p3⟩ | exact ⟨y0, y1, y2, y3⟩ | go_keep)
    (first
      | (go_at_call 46; refine (pick_any g q 6 _ hrd (by omega)).mono ?_; rintro e w9 ⟨x9, rfl, hx9, hy9, hg9, hr9⟩; have hyy := hy9 (by omega); have hxx : -1 ≤ x9 ∧ x9 ≤ 1000 := (by omega); have px9 := pxd.past hg9 (by omega); have pz9 := pzd.past hg9 (by omega); have hB9 := hBd.trans (below_of_grown hg9 (B := w.heap.size) (by omega) (by first | omega | (simp; omega))); have hO9 := hOd.past' hg9 (by omega); have hzz9 := hg9.size; obtain ⟨y0, y1, y2, y3, yl, yf⟩ := px9.fourP; obtain ⟨v0, v1, v2, v3, vl, vf⟩ := pz9.fourP)
      | fail)
  all_goals
    obtain ⟨hp, hgz⟩ := pool_put (.int .i64 p.mx) (.slice A1 p.idle.length c1) (.slice A2 p.held.length c2) (.slice A3 p.wait.length c3) pz9 rfl
    have hBf := below_put hB9 hgz (Nat.le_refl _) hB9.size
    have hOf := ((hO9).past pz9 hgz).mono (show w.heap.size ≤ w1.heap.size by omega)
    go_wp2
    refine bodyPost_ret (v := .tuple #[.agg #[.int .i64 p.mx, .slice A1 p.idle.length c1, .slice A2 p.held.length c2, .slice A3 p.wait.length c3], .int .i64 x9]) (by simp [results, Try.results24, go_sem, hp.cell]) rfl ?_
    exact ⟨A1, A2, A3, c1, c2, c3, p, x9, by simp, ⟨hOf, hBf, hl1, hl2, hl3⟩, hxx⟩

end Go.Proofs.Ytnfpnpdiglaebaa

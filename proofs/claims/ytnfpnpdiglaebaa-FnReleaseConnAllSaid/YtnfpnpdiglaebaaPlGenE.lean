/-
  What the function answers that draws the arguments of ReleaseConn. Condition: the code is at most 2^20 bytes.
-/
import Derived.Test.YtnfpnpdiglaebaaPlGenD
import Derived.Test.YtnfpnpdiglaebaaPlGenB
namespace Go.Proofs.Ytnfpnpdiglaebaa
open Go.RowKit Pol

theorem OwnP.limbH {w : World} {base gh : Nat} {A1 A3 : Option Addr} {c1 c2 c3 : Nat} {p : Pl} {F : Nat → Int} (h : OwnP w base A1 (some ⟨gh, 0, none⟩) A3 c1 c2 c3 p) (hF : Hid (F = fun k => (p.held.map Ho.c).getD k 0)) : ∀ k : Nat, k < p.held.length → w.cell? ⟨gh, k * 2, none⟩ = some (.int .i64 (F k)) := fun k hk => by
  rw [hF.out]
  obtain ⟨b, o, e, _, hc⟩ := Sees.elem hcells_len (by decide) h.sees.held hk
  injection e with e
  injection e with e1 e2
  subst e1 e2
  have := hc 0 (.int .i64 p.held[k].c) rfl
  simpa [hk] using this
theorem limbs5 {w : World} {base gh m : Nat} {A1 A3 : Option Addr} {c1 c2 c3 : Nat} {p : Pl} {F : Nat → Int} (hx : At w m 26 #[.int .i64 p.mx, .slice A1 p.idle.length c1, .slice (some ⟨gh, 0, none⟩) p.held.length c2, .slice A3 p.wait.length c3]) (h : OwnP w base A1 (some ⟨gh, 0, none⟩) A3 c1 c2 c3 p) (hF : Hid (F = fun k => (p.held.map Ho.c).getD k 0)) :
    w.cell? ⟨m, 0, none⟩ = some (.int .i64 p.mx) ∧ w.cell? ⟨m, 1, none⟩ = some (.slice A1 p.idle.length c1) ∧ w.cell? ⟨m, 2, none⟩ = some (.slice (some ⟨gh, 0, none⟩) p.held.length c2) ∧ w.cell? ⟨m, 3, none⟩ = some (.slice A3 p.wait.length c3) ∧ ∀ k : Nat, k < p.held.length → w.cell? ⟨gh, k * 2, none⟩ = some (.int .i64 (F k)) :=
  ⟨hx.cell 0, hx.cell 1, hx.cell 2, hx.cell 3, h.limbH hF⟩
set_option maxHeartbeats 4000000 in
theorem drawReleaseConn_any (A : Option Addr) (n c : Nat) (zs : List Int) (w : World) (h : Sees w w.heap.size A (byts zs)) (hz : ∀ z ∈ zs, 0 ≤ z ∧ z ≤ 255) (hn : zs.length = n) (hc : n ≤ c) (hm : n ≤ 1048576) (hcc : c ≤ maxLen) :
    Calls Try.prog 22 #[.slice A n c] w (DrawP1 w) := by
  have HZ := hid hz
  have HE := hid hn
  have HC := hid hcc
  clear hz hn hcc
  have pz0 := At.new w 26 #[.int .i64 0, .slice none 0 0, .slice none 0 0, .slice none 0 0]
  have hb0 := (Below.refl w.heap.size w).alloc (Nat.le_refl _) (.cells #[.int .i64 0, .slice none 0 0, .slice none 0 0, .slice none 0 0] 26)
  have h0 := h.alloc (Nat.le_refl _) (.cells #[.int .i64 0, .slice none 0 0, .slice none 0 0, .slice none 0 0] 26)
  go_enter Try.func22, Try.ntmps22
  go_wp2_with fail
  refine (newReader_any A n c zs _ (h0.more (by simp)) HZ.out HE.out hc hm HC.out).mono ?_
  rintro e w1 ⟨rfl, hb1, hr1⟩
  have hB1 := hb0.trans (hb1.mono hb0.size)
  have pz1 := pz0.below hb1 pz0.lt
  obtain ⟨g, hg⟩ : ∃ g, g = w.heap.size + 1 := ⟨_, rfl⟩
  rw [show (w.alloc (.cells #[.int .i64 0, .slice none 0 0, .slice none 0 0, .slice none 0 0] 26)).heap.size = w.heap.size + 1 by simp, ← hg] at hr1
  have hg2 := hg
  have hgl := hr1.lt
  clear hb0 hb1 pz0 h0
  go_wp2_with fail
  simp only [← hg]
  refine (anyPool_any g 0 _ hr1 (by omega)).mono ?_
  rintro e w2 ⟨A1, A2, A3, c1, c2, c3, p, q, rfl, hO, hgr, hr2, hq, hl1, hl2, hl3⟩
  have pz2 := pz1.past hgr (by omega)
  have hB2 := hB1.trans (below_of_grown hgr (B := w.heap.size) (by omega) (by omega))
  have hz2 := hgr.size
  have hwg : w.heap.size < g := by omega
  clear hr1 pz1 hB1 hgr hg hg2
  by_cases hl0 : p.held.length = 0
  · skip
    have hlb : ¬ (p.held.length : Int) > 0 := by omega
    have hl0h := hid hl0
    clear hl0
    have px2 := At.new w2 26 #[.int .i64 p.mx, .slice A1 p.idle.length c1, .slice A2 p.held.length c2, .slice A3 p.wait.length c3]
    have hr3 := hr2.alloc (.cells #[.int .i64 p.mx, .slice A1 p.idle.length c1, .slice A2 p.held.length c2, .slice A3 p.wait.length c3] 26)
    have pz3 := pz2.alloc (.cells #[.int .i64 p.mx, .slice A1 p.idle.length c1, .slice A2 p.held.length c2, .slice A3 p.wait.length c3] 26)
    have hB3 := hB2.alloc hB2.size (.cells #[.int .i64 p.mx, .slice A1 p.idle.length c1, .slice A2 p.held.length c2, .slice A3 p.wait.length c3] 26)
    have hO3 := hO.alloc (.cells #[.int .i64 p.mx, .slice A1 p.idle.length c1, .slice A2 p.held.length c2, .slice A3 p.wait.length c3] 26)
    have hz3 : w2.heap.size < (w2.alloc (.cells #[.int .i64 p.mx, .slice A1 p.idle.length c1, .slice A2 p.held.length c2, .slice A3 p.wait.length c3] 26)).heap.size := px2.lt
    clear hr2 pz2 hB2 hO
    have hgm : g < w2.heap.size := by omega
    have hwm : w.heap.size < w2.heap.size := by omega
    obtain ⟨p0, p1, p2, p3, pl, pf⟩ := px2.fourP
    go_wp2_with fail
    obtain ⟨m, hm2⟩ : ∃ m, m = w2.heap.size := ⟨_, rfl⟩
    obtain ⟨w3, hw3⟩ : ∃ w3, w3 = w2.alloc (.cells #[.int .i64 p.mx, .slice A1 p.idle.length c1, .slice A2 p.held.length c2, .slice A3 p.wait.length c3] 26) := ⟨_, rfl⟩
    simp only [← hw3] at px2 hr3 pz3 hB3 hO3 hz3 ⊢
    simp only [← hm2] at px2 hz3 hgm hwm ⊢
    clear p0 p1 p2 p3 pl pf hm2 hw3
    have px3 := px2
    clear px2
    have pxd := px3.drew
    have pzd := pz3.drew
    have hBd := hB3.drew
    have hOd := hO3.drew
    have hrd := hr3.drew
    have hzd : m < w3.drew.heap.size := px3.lt
    have hzw := hB3.size
    have hmw : ¬ m = w.heap.size := by omega
    have hmw2 : ¬ w.heap.size = m := by omega
    obtain ⟨p0, p1, p2, p3, pl, pf⟩ := px3.fourP
    go_region_held3 (fun w' => w'.cell? ⟨m, 0, none⟩ = some (.int .i64 p.mx) ∧ w'.cell? ⟨m, 1, none⟩ = some (.slice A1 p.idle.length c1) ∧ w'.cell? ⟨m, 2, none⟩ = some (.slice A2 p.held.length c2) ∧ w'.cell? ⟨m, 3, none⟩ = some (.slice A3 p.wait.length c3))
      (first | exact ⟨p0, p1, p2, p3⟩ | exact ⟨y0, y1, y2, y3⟩ | go_keep)
      (first
        | (go_at_call 46; refine (pick_any g q 8 _ hrd (by omega)).mono ?_; rintro e w9 ⟨x9, rfl, hx9, hy9, hg9, hr9⟩; have hyy := hy9 (by omega); have hw9 : IntKind.i64.wrap (x9 - 1) = x9 - 1 := (by rw [IntKind.wrap_i64]; omega); have px9 := pxd.past hg9 (by omega); have pz9 := pzd.past hg9 (by omega); have hB9 := hBd.trans (below_of_grown hg9 (B := w.heap.size) (by omega) (by first | omega | (simp; omega))); have hO9 := hOd.past' hg9 (by omega); have hzz9 := hg9.size; obtain ⟨y0, y1, y2, y3, yl, yf⟩ := px9.fourP; obtain ⟨v0, v1, v2, v3, vl, vf⟩ := pz9.fourP)
        | fail)
    all_goals
      obtain ⟨hp, hgz⟩ := pool_put (.int .i64 p.mx) (.slice A1 p.idle.length c1) (.slice A2 p.held.length c2) (.slice A3 p.wait.length c3) pz9 rfl
      have hBf := below_put hB9 hgz (Nat.le_refl _) hB9.size
      have hOf := ((hO9).past pz9 hgz).mono (show w.heap.size ≤ w1.heap.size by omega)
      go_wp2
      refine bodyPost_ret (v := .tuple #[.agg #[.int .i64 p.mx, .slice A1 p.idle.length c1, .slice A2 p.held.length c2, .slice A3 p.wait.length c3], .int .i64 (x9 - 1)]) (by simp [results, Try.results22, go_sem, hp.cell]) rfl ?_
      exact ⟨A1, A2, A3, c1, c2, c3, p, x9 - 1, rfl, ⟨hOf, hBf, hl1, hl2, hl3⟩⟩
  · skip
    have hlb : (p.held.length : Int) > 0 := by omega
    have px2 := At.new w2 26 #[.int .i64 p.mx, .slice A1 p.idle.length c1, .slice A2 p.held.length c2, .slice A3 p.wait.length c3]
    have hr3 := hr2.alloc (.cells #[.int .i64 p.mx, .slice A1 p.idle.length c1, .slice A2 p.held.length c2, .slice A3 p.wait.length c3] 26)
    have pz3 := pz2.alloc (.cells #[.int .i64 p.mx, .slice A1 p.idle.length c1, .slice A2 p.held.length c2, .slice A3 p.wait.length c3] 26)
    have hB3 := hB2.alloc hB2.size (.cells #[.int .i64 p.mx, .slice A1 p.idle.length c1, .slice A2 p.held.length c2, .slice A3 p.wait.length c3] 26)
    have hO3 := hO.alloc (.cells #[.int .i64 p.mx, .slice A1 p.idle.length c1, .slice A2 p.held.length c2, .slice A3 p.wait.length c3] 26)
    have hz3 : w2.heap.size < (w2.alloc (.cells #[.int .i64 p.mx, .slice A1 p.idle.length c1, .slice A2 p.held.length c2, .slice A3 p.wait.length c3] 26)).heap.size := px2.lt
    clear hr2 pz2 hB2 hO
    have hgm : g < w2.heap.size := by omega
    have hwm : w.heap.size < w2.heap.size := by omega
    obtain ⟨p0, p1, p2, p3, pl, pf⟩ := px2.fourP
    go_wp2_with fail
    obtain ⟨m, hm2⟩ : ∃ m, m = w2.heap.size := ⟨_, rfl⟩
    obtain ⟨w3, hw3⟩ : ∃ w3, w3 = w2.alloc (.cells #[.int .i64 p.mx, .slice A1 p.idle.length c1, .slice A2 p.held.length c2, .slice A3 p.wait.length c3] 26) := ⟨_, rfl⟩
    simp only [← hw3] at px2 hr3 pz3 hB3 hO3 hz3 ⊢
    simp only [← hm2] at px2 hz3 hgm hwm ⊢
    clear p0 p1 p2 p3 pl pf hm2 hw3
    have px3 := px2
    clear px2
    have hzw3 := hB3.size
    have hmw : ¬ m = w.heap.size := by omega
    have hmw2 : ¬ w.heap.size = m := by omega
    refine (pick_any g q 4 _ hr3 (by omega)).mono ?_
    rintro e w5 ⟨x5, rfl, _, _, hg5, hr5⟩
    have px5 := px3.past hg5 (by omega)
    have pz5 := pz3.past hg5 (by omega)
    have hB5 := hB3.trans (below_of_grown hg5 (B := w.heap.size) (by omega) (by omega))
    have hO5 := hO3.past' hg5 (by omega)
    have hz5 := hg5.size
    clear px3 pz3 hB3 hO3 hr3 hg5
    by_cases hx5 : x5 > 0
    · skip
      have hlp : 0 < p.held.length := by omega
      have hq2 : q + 1 < 100000 := by omega
      obtain ⟨gh, rfl⟩ := held_at hO5 hlp
      have hz4 : (#[.int .i64 0, .slice none 0 0, .slice none 0 0, .slice none 0 0] : Array Value).size = 4 := rfl
      obtain ⟨F, hF0⟩ : ∃ F : Nat → Int, F = fun k => (p.held.map Ho.c).getD k 0 := ⟨_, rfl⟩
      have hF := hid hF0
      clear hF0
      obtain ⟨p0, p1, p2, p3, pl, pf⟩ := px5.fourP
      go_wp2_with fail
      clear p0 p1 p2 p3 pl pf hmw hmw2
      have pxd := px5.drew
      have pzd := pz5.drew
      have hBd := hB5.drew
      have hOd := hO5.drew
      have hrd := hr5.drew
      have hzd : m < w5.drew.heap.size := px5.lt
      have hzw := hB5.size
      have hmw : ¬ m = w.heap.size := by omega
      have hmw2 : ¬ w.heap.size = m := by omega
      obtain ⟨p0, p1, p2, p3, pl, pf⟩ := px5.fourP
      have pF := hO5.limbH hF
      go_region_held3 (fun w' => w'.cell? ⟨m, 0, none⟩ = some (.int .i64 p.mx) ∧ w'.cell? ⟨m, 1, none⟩ = some (.slice A1 p.idle.length c1) ∧ w'.cell? ⟨m, 2, none⟩ = some (.slice (some ⟨gh, 0, none⟩) p.held.length c2) ∧ w'.cell? ⟨m, 3, none⟩ = some (.slice A3 p.wait.length c3) ∧ ∀ k : Nat, k < p.held.length → w'.cell? ⟨gh, k * 2, none⟩ = some (.int .i64 (F k)))
        (first | with_reducible exact limbs5 px5 hO5 hF | with_reducible exact limbs5 pxd hOd hF | with_reducible exact limbs5 px9 hO9 hF | with_reducible exact limbs5 (px9.past (pool_put _ _ _ _ pz9 hz4).2 hmw) (hO9.past pz9 (pool_put _ _ _ _ pz9 hz4).2) hF | go_keep)
        (first
          | (go_at_call 46; (with_reducible refine (pick_idx g (q + 1) p.held.length _ hrd hq2 hlp).mono ?_); rintro e w9 ⟨j, rfl, hjn, hjx, hg9, hr9⟩; have hj0 : (0 : Int) ≤ (j : Int) := (by omega); have pF9 := hOd.limbH hF; have px9 := pxd.past hg9 (by omega); have pz9 := pzd.past hg9 (by omega); have hB9 := hBd.trans (below_of_grown hg9 (B := w.heap.size) (by omega) (by first | omega | (simp; omega))); have hO9 := hOd.past' hg9 (by omega); have hzz9 := hg9.size; obtain ⟨y0, y1, y2, y3, yl, yf⟩ := px9.fourP; obtain ⟨v0, v1, v2, v3, vl, vf⟩ := pz9.fourP; have yF := hO9.limbH hF)
          | fail)
      all_goals
        obtain ⟨hp, hgz⟩ := pool_put (.int .i64 p.mx) (.slice A1 p.idle.length c1) (.slice (some ⟨gh, 0, none⟩) p.held.length c2) (.slice A3 p.wait.length c3) pz9 rfl
        have hBf := below_put hB9 hgz (Nat.le_refl _) hB9.size
        have hOf := ((hO9).past pz9 hgz).mono (show w.heap.size ≤ w1.heap.size by omega)
        go_wp2
        refine bodyPost_ret (v := .tuple #[.agg #[.int .i64 p.mx, .slice A1 p.idle.length c1, .slice (some ⟨gh, 0, none⟩) p.held.length c2, .slice A3 p.wait.length c3], .int .i64 (F j)]) (by simp [results, Try.results22, go_sem, hp.cell]) rfl ?_
        exact ⟨A1, (some ⟨gh, 0, none⟩), A3, c1, c2, c3, p, F j, rfl, ⟨hOf, hBf, hl1, hl2, hl3⟩⟩
    · skip
      obtain ⟨p0, p1, p2, p3, pl, pf⟩ := px5.fourP
      go_wp2_with fail
      clear p0 p1 p2 p3 pl pf hmw hmw2
      have pxd := px5.drew
      have pzd := pz5.drew
      have hBd := hB5.drew
      have hOd := hO5.drew
      have hrd := hr5.drew
      have hzd : m < w5.drew.heap.size := px5.lt
      have hzw := hB5.size
      have hmw : ¬ m = w.heap.size := by omega
      have hmw2 : ¬ w.heap.size = m := by omega
      obtain ⟨p0, p1, p2, p3, pl, pf⟩ := px5.fourP
      go_region_held3 (fun w' => w'.cell? ⟨m, 0, none⟩ = some (.int .i64 p.mx) ∧ w'.cell? ⟨m, 1, none⟩ = some (.slice A1 p.idle.length c1) ∧ w'.cell? ⟨m, 2, none⟩ = some (.slice A2 p.held.length c2) ∧ w'.cell? ⟨m, 3, none⟩ = some (.slice A3 p.wait.length c3))
        (first | exact ⟨p0, p1, p2, p3⟩ | exact ⟨y0, y1, y2, y3⟩ | go_keep)
        (first
          | (go_at_call 46; refine (pick_any g (q + 1) 8 _ hrd (by omega)).mono ?_; rintro e w9 ⟨x9, rfl, hx9, hy9, hg9, hr9⟩; have hyy := hy9 (by omega); have hw9 : IntKind.i64.wrap (x9 - 1) = x9 - 1 := (by rw [IntKind.wrap_i64]; omega); have px9 := pxd.past hg9 (by omega); have pz9 := pzd.past hg9 (by omega); have hB9 := hBd.trans (below_of_grown hg9 (B := w.heap.size) (by omega) (by first | omega | (simp; omega))); have hO9 := hOd.past' hg9 (by omega); have hzz9 := hg9.size; obtain ⟨y0, y1, y2, y3, yl, yf⟩ := px9.fourP; obtain ⟨v0, v1, v2, v3, vl, vf⟩ := pz9.fourP)
          | fail)
      all_goals
        obtain ⟨hp, hgz⟩ := pool_put (.int .i64 p.mx) (.slice A1 p.idle.length c1) (.slice A2 p.held.length c2) (.slice A3 p.wait.length c3) pz9 rfl
        have hBf := below_put hB9 hgz (Nat.le_refl _) hB9.size
        have hOf := ((hO9).past pz9 hgz).mono (show w.heap.size ≤ w1.heap.size by omega)
        go_wp2
        refine bodyPost_ret (v := .tuple #[.agg #[.int .i64 p.mx, .slice A1 p.idle.length c1, .slice A2 p.held.length c2, .slice A3 p.wait.length c3], .int .i64 (x9 - 1)]) (by simp [results, Try.results22, go_sem, hp.cell]) rfl ?_
        exact ⟨A1, A2, A3, c1, c2, c3, p, x9 - 1, rfl, ⟨hOf, hBf, hl1, hl2, hl3⟩⟩

end Go.Proofs.Ytnfpnpdiglaebaa

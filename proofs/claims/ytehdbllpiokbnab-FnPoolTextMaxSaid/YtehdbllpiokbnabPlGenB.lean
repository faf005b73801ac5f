/-
  What the model's generator of valid pools answers. No condition but a reader.
-/
import Derived.Test.YtehdbllpiokbnabPlGenA
import Derived.Test.YtehdbllpiokbnabPlR
import Derived.Test.YtehdbllpiokbnabPlT
import Derived.Deep.RegionHeld3

namespace Go.Proofs.Ytehdbllpiokbnab
open Go.RowKit Pol

def Tiny (p : Pl) : Prop := p.idle.length ≤ 6 ∧ p.held.length ≤ 6 ∧ p.wait.length ≤ 12
theorem relEnd {w wr : World} {g q base L k' q' : Nat} {A1 A2 A3 : Option Addr} {c1 c2 c3 : Nat} {p : Pl} {i : Value} (h1 : i = .int .i64 k') (h2 : k' ≤ 20) (h3 : q' + 3 * k' ≤ q + 90) (h : GQ w wr g base L q' A1 A2 A3 c1 c2 c3 p) (ht : Tiny p) :
    ∃ (k q' : Nat) (A1 A2 A3 : Option Addr) (c1 c2 c3 : Nat) (p : Pl), i = .int .i64 k ∧ k ≤ 20 ∧ q' + 3 * k ≤ q + 90 ∧ Tiny p ∧ GQ w wr g base L q' A1 A2 A3 c1 c2 c3 p := ⟨k', q', A1, A2, A3, c1, c2, c3, p, h1, h2, h3, ht, h⟩
theorem ownp_made (w : World) (x : Int) : OwnP (((w.alloc (.cells #[] 3)).alloc (.cells #[] 76)).alloc (.cells #[] 3)) w.heap.size (some ⟨w.heap.size, 0, none⟩) (some ⟨w.heap.size + 1, 0, none⟩) (some ⟨w.heap.size + 2, 0, none⟩) 0 0 0 ⟨x, [], [], []⟩ := by
  refine ⟨own_alloc (own_alloc (made_at 3 1 rfl (Nat.le_refl _)) _) _, own_alloc (made_at 76 2 (by simp) (by simp)) _, made_at 3 1 (by simp) (by simp), ?_, ?_, ?_⟩
  · intro k h1 h2; have := own1 k h1; have := own1 k h2; omega
  · intro k h1 h2; have := own1 k h1; have := own1 k h2; omega
  · intro k h1 h2; have := own1 k h1; have := own1 k h2; omega
theorem GQ.limbs {w0 wr : World} {g base L q gh : Nat} {A1 A3 : Option Addr} {c1 c2 c3 : Nat} {p : Pl} (h : GQ w0 wr g base L q A1 (some ⟨gh, 0, none⟩) A3 c1 c2 c3 p) : wr.cell? ⟨L, 0, none⟩ = some (.int .i64 p.mx) ∧ wr.cell? ⟨L, 1, none⟩ = some (.slice A1 p.idle.length c1) ∧ wr.cell? ⟨L, 2, none⟩ = some (.slice (some ⟨gh, 0, none⟩) p.held.length c2) ∧ wr.cell? ⟨L, 3, none⟩ = some (.slice A3 p.wait.length c3) ∧ ∀ k : Nat, k < p.held.length → wr.cell? ⟨gh, k * 2, none⟩ = some (.int .i64 ((p.held.map Ho.c).getD k 0)) := by
  obtain ⟨y0, y1, y2, y3, _⟩ := h.cells
  refine ⟨y0, y1, y2, y3, fun k hk => ?_⟩
  obtain ⟨b, o, e, _, hc⟩ := Sees.elem hcells_len (by decide) h.own.sees.held hk
  injection e with e
  injection e with e1 e2
  subst e1 e2
  have := hc 0 (.int .i64 p.held[k].c) rfl
  simpa [hk] using this
theorem GQ.limbsF {w0 wr : World} {g base L q gh : Nat} {A1 A3 : Option Addr} {c1 c2 c3 : Nat} {p : Pl} {F : Nat → Int} (h : GQ w0 wr g base L q A1 (some ⟨gh, 0, none⟩) A3 c1 c2 c3 p) (hF : Hid (F = fun k => (p.held.map Ho.c).getD k 0)) : wr.cell? ⟨L, 0, none⟩ = some (.int .i64 p.mx) ∧ wr.cell? ⟨L, 1, none⟩ = some (.slice A1 p.idle.length c1) ∧ wr.cell? ⟨L, 2, none⟩ = some (.slice (some ⟨gh, 0, none⟩) p.held.length c2) ∧ wr.cell? ⟨L, 3, none⟩ = some (.slice A3 p.wait.length c3) ∧ ∀ k : Nat, k < p.held.length → wr.cell? ⟨gh, k * 2, none⟩ = some (.int .i64 (F k)) := by
  rw [hF.out]; exact h.limbs
theorem pick_idx (g p n : Nat) (w : World) (h : Rd w g p) (hp : p < 100000) (hn : 0 < n) :
    Calls Try.prog 36 #[.pointer (some ⟨g, 0, none⟩), .int .i64 (n : Int)] w fun e w' => ∃ j : Nat, e = .returned (.int .i64 (j : Int)) ∧ j < n ∧ (j : Int) < (n : Int) ∧ w.grownBy w' (some g) ∧ Rd w' g (p + 1) := by
  refine (pick_any g p (n : Int) w h hp).mono ?_
  rintro e w' ⟨x, rfl, h0, h1, hg, hr⟩
  have h2 := h1 (by omega)
  exact ⟨x.toNat, by rw [show ((x.toNat : Nat) : Int) = x by omega], by omega, by omega, hg, hr⟩
theorem cell_lt {w : World} {b o : Nat} {u : Value} (h : w.cell? ⟨b, o, none⟩ = some u) : b < w.heap.size := by
  refine Classical.byContradiction fun hn => ?_
  have : w.heap[b]? = none := Array.getElem?_eq_none (by omega)
  simp [World.cell?, this] at h
theorem alloc_past {w w' : World} {cs : Array Value} {t : TypeId} {g : Nat} (hg : (w.alloc (.cells cs t)).grownBy w' (some g)) (hne : w.heap.size ≠ g) : At w' w.heap.size t cs := (At.new w t cs).past hg hne
theorem held_at {w : World} {base : Nat} {A1 A2 A3 : Option Addr} {c1 c2 c3 : Nat} {p : Pl} (h : OwnP w base A1 A2 A3 c1 c2 c3 p) (hl : 0 < p.held.length) : ∃ gh, A2 = some ⟨gh, 0, none⟩ := by
  rcases h.2.1.2 with ⟨_, e⟩ | ⟨g, cap, cur, e, _⟩
  · omega
  · injection e with e1 _ _; exact ⟨g, e1⟩
set_option maxHeartbeats 16000000 in
theorem somePool_any (g q : Nat) (w : World) (h : Rd w g q) (hp : q < 1000) :
    Calls Try.prog 35 #[.pointer (some ⟨g, 0, none⟩)] w (PoolAns w g q 90 6 12) := by
  have hg := h.lt
  go_enter Try.func35, Try.ntmps35
  go_wp2_with fail
  refine (one_any g q _ 5 _ [3, 2, 4, 1, 6] _ ((h.alloc _).alloc _) (by omega) (by simpa using At.new (w.alloc _) 3 _) (by rfl) (by omega) (by rfl) (by omega) (by omega)).mono ?_
  rintro e w1 ⟨x0, rfl, hx0, hg1, hr1⟩
  have hz1 := hg1.size
  simp only [World.size_alloc] at hz1
  clear hx0
  have hgz : g < w1.heap.size := hr1.lt
  have gs1 : GQ w ((((w1.alloc (.cells #[] 3)).alloc (.cells #[] 76)).alloc (.cells #[] 3)).alloc (.cells #[.int .i64 x0, .slice (some ⟨w1.heap.size, 0, none⟩) 0 0, .slice (some ⟨w1.heap.size + 1, 0, none⟩) 0 0, .slice (some ⟨w1.heap.size + 2, 0, none⟩) 0 0] 26)) g w1.heap.size (w1.heap.size + 3) (q + 1) (some ⟨w1.heap.size, 0, none⟩) (some ⟨w1.heap.size + 1, 0, none⟩) (some ⟨w1.heap.size + 2, 0, none⟩) 0 0 0 ⟨x0, [], [], []⟩ := by
    refine ⟨At.newAt _ _ (by simp), (ownp_made w1 x0).alloc _, (((hr1.alloc _).alloc _).alloc _).alloc _, ((((((At.new w _ _).alloc _).past hg1 (by omega)).alloc _).alloc _).alloc _).alloc _, ?_, hg, by omega, by omega⟩
    exact grown_trans (grown_trans (grown_of_below (((Below.refl _ _).alloc (Nat.le_refl _) _).alloc (by simp) _) _) hg1) (grown_of_below (((((Below.refl _ _).alloc (Nat.le_refl _) _).alloc (by simp) _).alloc (by first | (simp; done) | (simp; omega)) _).alloc (by first | (simp; done) | (simp; omega)) _) _)
  go_wp2_with fail
  refine (one_any g (q + 1) _ 7 _ [6, 10, 4, 14, 2, 0, 20] _ (gs1.alloc _).rd (by omega) (At.newAt 3 _ (by simp)) (by rfl) (by simp; omega) (by rfl) (by omega) (by omega)).mono ?_
  rintro e w2 ⟨n0, rfl, hn0, hg2, hr2⟩
  have hn0' : ∃ k : Nat, n0 = k ∧ k ≤ 20 := ⟨n0.toNat, by simp at hn0; omega, by simp at hn0; omega⟩
  obtain ⟨k0, rfl, hk0⟩ := hn0'
  clear hn0
  have gs2 := (gs1.alloc _).pick hg2 hr2
  go_wp2_with fail
  go_loopw [4] (fun i wr => ∃ (k q' : Nat) (A1 A2 A3 : Option Addr) (c1 c2 c3 : Nat) (p : Pl), i = .int .i64 k ∧ k ≤ 20 ∧ q' + 3 * k ≤ q + 90 ∧ Tiny p ∧ GQ w wr g w1.heap.size (w1.heap.size + 3) q' A1 A2 A3 c1 c2 c3 p) (fun i _ => (intOf i).toNat)
  case atStart => exact ⟨k0, q + 1 + 1, _, _, _, _, _, _, _, rfl, hk0, by omega, ⟨by simp, by simp, by simp⟩, gs2⟩
  case round =>
    obtain ⟨k, q', A1, A2, A3, c1, c2, c3, p, rfl, hk, hq, hti, hgs⟩ := hrel
    clear gs1 gs2
    obtain ⟨g1, g2, g3, g4⟩ := hgs.lt
    obtain ⟨t1, t2, t3⟩ := hti
    by_cases hk0 : 0 < k
    · have hki : (0 : Int) < (k : Int) := by omega
      obtain ⟨l0, l1, l2, l3, lf⟩ := hgs.cells
      go_wp2_with fail
      refine (pick_any g q' 3 _ hgs.rd (by omega)).mono ?_
      rintro e w5 ⟨f, rfl, hf0, hf1, hg5, hr5⟩
      have gs6 := hgs.pick hg5 hr5
      clear l0 l1 l2 l3 lf hg5 hr5 hf1
      obtain ⟨y0, y1, y2, y3, yf⟩ := gs6.cells
      obtain ⟨_, _, _, hz6⟩ := gs6.lt
      have hn5 : ¬ w5.heap.size = (w1.heap.size + 3) := by omega
      have hn5' : ¬ (w1.heap.size + 3) = w5.heap.size := by omega
      have hlens := gs6.own.lens
      by_cases hff : f > 0
      · skip
        go_wp2_with fail
        go_region_held3 (fun w' => w'.cell? ⟨(w1.heap.size + 3), 0, none⟩ = some (.int .i64 p.mx) ∧ w'.cell? ⟨(w1.heap.size + 3), 1, none⟩ = some (.slice A1 p.idle.length c1) ∧ w'.cell? ⟨(w1.heap.size + 3), 2, none⟩ = some (.slice A2 p.held.length c2) ∧ w'.cell? ⟨(w1.heap.size + 3), 3, none⟩ = some (.slice A3 p.wait.length c3))
          (first | exact ⟨y0, y1, y2, y3⟩ | exact ⟨z0, z1, z2, z3⟩ | exact ⟨v0, v1, v2, v3⟩ | go_keep)
          (first
            | (go_at_call 36; refine (pick_any g (q' + 1) 5 _ (by first | exact gs6.drew.rd | exact (gs6.drew.alloc _).rd) (by omega)).mono ?_; rintro e w6 ⟨x2, rfl, hx20, hx21, hg6, hr6⟩; have gs7 := GQ.pick (by first | exact gs6.drew | exact gs6.drew.alloc _) hg6 hr6; obtain ⟨z0, z1, z2, z3, zf⟩ := gs7.cells; obtain ⟨_, _, _, hz7⟩ := gs7.lt; have hn6 : ¬ w6.heap.size = (w1.heap.size + 3) := (by omega); have hn6' : ¬ (w1.heap.size + 3) = w6.heap.size := (by omega); try (have t0 := At.past (show At (w5.drew.alloc _) w5.heap.size 26 #[.int .i64 0, .slice none 0 0, .slice none 0 0, .slice none 0 0] from At.new w5.drew _ _) hg6 (by omega); have t0c := t0.cell; have t0f := t0.frozen; have t0l := t0.lt))
            | (go_at_call 59; refine ((sAcquireConn_any p A1 A2 A3 c1 c2 c3 x2 _ (by first | exact gs7.own.sees | exact (gs7.alloc _).own.sees) hlens.1 (by omega) (by omega) (by omega))).mono ?_; rintro e w7 ⟨B1, B2, B3, d1, d2, d3, rfl, ho7, hb7⟩; have gs8 := GQ.below (by first | exact gs7 | exact gs7.alloc _) hb7; obtain ⟨v0, v1, v2, v3, vf⟩ := gs8.cells; obtain ⟨_, _, _, hz8⟩ := gs8.lt; have hn7 : ¬ w7.heap.size = (w1.heap.size + 3) := (by omega); have hn7' : ¬ (w1.heap.size + 3) = w7.heap.size := (by omega); obtain ⟨hc7, hf7⟩ := below_cell hb7)
            | fail)
        · skip
          have ho8 := ho7.mono (show w1.heap.size ≤ _ by omega)
          obtain ⟨R, hR⟩ : ∃ R : Pl, R = acqR p x2 := ⟨_, rfl⟩
          obtain ⟨KB, hKB⟩ : ∃ KB : Bool, KB = acqB p x2 := ⟨_, rfl⟩
          rw [← hR] at ho8
          have hsm : Tiny R := by rw [hR]; exact acqR_small p x2
          simp only [← hR, ← hKB]
          clear hR hKB ho7
          cases KB
          · go_wp2
            go_roundw
            case rel => exact relEnd (k' := k - 1) (q' := q' + 2) (by go_num) (by omega) (by omega) (gs8.alloc _) ⟨t1, t2, t3⟩
            case measure => simp [intOf]; omega
          · go_wp2
            go_roundw
            case rel => exact relEnd (k' := k - 1) (q' := q' + 2) (by go_num) (by omega) (by omega) ((gs8.put ho8).alloc _) hsm
            case measure => simp [intOf]; omega
        · skip
          have ho8 := ho7.mono (show w1.heap.size ≤ _ by simp only [World.size_alloc]; omega)
          have tt := (At.new w6 26 #[.int .i64 0, .slice none 0 0, .slice none 0 0, .slice none 0 0]).below hb7 (by simp)
          have ltt : (w1.heap.size + 3) < w6.heap.size := by omega
          obtain ⟨R, hR⟩ : ∃ R : Pl, R = acqR p x2 := ⟨_, rfl⟩
          obtain ⟨KB, hKB⟩ : ∃ KB : Bool, KB = acqB p x2 := ⟨_, rfl⟩
          rw [← hR] at ho8
          have hsm : Tiny R := by rw [hR]; exact acqR_small p x2
          simp only [← hR, ← hKB]
          clear hR hKB ho7
          cases KB
          · go_wp2
            go_roundw
            case rel => exact relEnd (k' := k - 1) (q' := q' + 2) (by go_num) (by omega) (by omega) (gs8.side4 tt rfl ltt _ _ _ _) ⟨t1, t2, t3⟩
            case measure => simp [intOf]; omega
          · go_wp2
            go_roundw
            case rel => exact relEnd (k' := k - 1) (q' := q' + 2) (by go_num) (by omega) (by omega) ((gs8.side4 tt rfl ltt _ _ _ _).put (ownp_side4 ho8 tt rfl _ _ _ _)) hsm
            case measure => simp [intOf]; omega
        · skip
          have ho8 := ho7.mono (show w1.heap.size ≤ _ by omega)
          have tt := t0.below hb7 t0.lt
          have ltt : (w1.heap.size + 3) < w5.heap.size := by omega
          obtain ⟨R, hR⟩ : ∃ R : Pl, R = acqR p x2 := ⟨_, rfl⟩
          obtain ⟨KB, hKB⟩ : ∃ KB : Bool, KB = acqB p x2 := ⟨_, rfl⟩
          rw [← hR] at ho8
          have hsm : Tiny R := by rw [hR]; exact acqR_small p x2
          simp only [← hR, ← hKB]
          clear hR hKB ho7
          cases KB
          · go_wp2
            go_roundw
            case rel => exact relEnd (k' := k - 1) (q' := q' + 2) (by go_num) (by omega) (by omega) (gs8.side4 tt rfl ltt _ _ _ _) ⟨t1, t2, t3⟩
            case measure => simp [intOf]; omega
          · go_wp2
            go_roundw
            case rel => exact relEnd (k' := k - 1) (q' := q' + 2) (by go_num) (by omega) (by omega) ((gs8.side4 tt rfl ltt _ _ _ _).put (ownp_side4 ho8 tt rfl _ _ _ _)) hsm
            case measure => simp [intOf]; omega
      · skip
        by_cases hl0 : p.held.length = 0
        · skip
          have hlb : ((p.held.length : Int) == 0) = true := by simpa using hl0
          have hl0h := hid hl0
          clear hl0
          go_wp2_with fail
          go_region_held3 (fun w' => w'.cell? ⟨(w1.heap.size + 3), 0, none⟩ = some (.int .i64 p.mx) ∧ w'.cell? ⟨(w1.heap.size + 3), 1, none⟩ = some (.slice A1 p.idle.length c1) ∧ w'.cell? ⟨(w1.heap.size + 3), 2, none⟩ = some (.slice A2 p.held.length c2) ∧ w'.cell? ⟨(w1.heap.size + 3), 3, none⟩ = some (.slice A3 p.wait.length c3))
            (first | exact ⟨y0, y1, y2, y3⟩ | exact ⟨z0, z1, z2, z3⟩ | exact ⟨v0, v1, v2, v3⟩ | go_keep)
            (first
              | (go_at_call 36; refine (pick_any g (q' + 1) 5 _ (by first | exact gs6.drew.rd | exact (gs6.drew.alloc _).rd) (by omega)).mono ?_; rintro e w6 ⟨x2, rfl, hx20, hx21, hg6, hr6⟩; have gs7 := GQ.pick (by first | exact gs6.drew | exact gs6.drew.alloc _) hg6 hr6; obtain ⟨z0, z1, z2, z3, zf⟩ := gs7.cells; obtain ⟨_, _, _, hz7⟩ := gs7.lt; have hn6 : ¬ w6.heap.size = (w1.heap.size + 3) := (by omega); have hn6' : ¬ (w1.heap.size + 3) = w6.heap.size := (by omega); try (have t0 := At.past (show At (w5.drew.alloc _) w5.heap.size 26 #[.int .i64 0, .slice none 0 0, .slice none 0 0, .slice none 0 0] from At.new w5.drew _ _) hg6 (by omega); have t0c := t0.cell; have t0f := t0.frozen; have t0l := t0.lt))
              | (go_at_call 59; refine ((sAcquireConn_any p A1 A2 A3 c1 c2 c3 x2 _ (by first | exact gs7.own.sees | exact (gs7.alloc _).own.sees) hlens.1 (by omega) (by omega) (by omega))).mono ?_; rintro e w7 ⟨B1, B2, B3, d1, d2, d3, rfl, ho7, hb7⟩; have gs8 := GQ.below (by first | exact gs7 | exact gs7.alloc _) hb7; obtain ⟨v0, v1, v2, v3, vf⟩ := gs8.cells; obtain ⟨_, _, _, hz8⟩ := gs8.lt; have hn7 : ¬ w7.heap.size = (w1.heap.size + 3) := (by omega); have hn7' : ¬ (w1.heap.size + 3) = w7.heap.size := (by omega); obtain ⟨hc7, hf7⟩ := below_cell hb7)
              | fail)
          · skip
            have ho8 := ho7.mono (show w1.heap.size ≤ _ by omega)
            obtain ⟨R, hR⟩ : ∃ R : Pl, R = acqR p x2 := ⟨_, rfl⟩
            obtain ⟨KB, hKB⟩ : ∃ KB : Bool, KB = acqB p x2 := ⟨_, rfl⟩
            rw [← hR] at ho8
            have hsm : Tiny R := by rw [hR]; exact acqR_small p x2
            simp only [← hR, ← hKB]
            clear hR hKB ho7
            cases KB
            · go_wp2
              go_roundw
              case rel => exact relEnd (k' := k - 1) (q' := q' + 2) (by go_num) (by omega) (by omega) (gs8.alloc _) ⟨t1, t2, t3⟩
              case measure => simp [intOf]; omega
            · go_wp2
              go_roundw
              case rel => exact relEnd (k' := k - 1) (q' := q' + 2) (by go_num) (by omega) (by omega) ((gs8.put ho8).alloc _) hsm
              case measure => simp [intOf]; omega
          · skip
            have ho8 := ho7.mono (show w1.heap.size ≤ _ by simp only [World.size_alloc]; omega)
            have tt := (At.new w6 26 #[.int .i64 0, .slice none 0 0, .slice none 0 0, .slice none 0 0]).below hb7 (by simp)
            have ltt : (w1.heap.size + 3) < w6.heap.size := by omega
            obtain ⟨R, hR⟩ : ∃ R : Pl, R = acqR p x2 := ⟨_, rfl⟩
            obtain ⟨KB, hKB⟩ : ∃ KB : Bool, KB = acqB p x2 := ⟨_, rfl⟩
            rw [← hR] at ho8
            have hsm : Tiny R := by rw [hR]; exact acqR_small p x2
            simp only [← hR, ← hKB]
            clear hR hKB ho7
            cases KB
            · go_wp2
              go_roundw
              case rel => exact relEnd (k' := k - 1) (q' := q' + 2) (by go_num) (by omega) (by omega) (gs8.side4 tt rfl ltt _ _ _ _) ⟨t1, t2, t3⟩
              case measure => simp [intOf]; omega
            · go_wp2
              go_roundw
              case rel => exact relEnd (k' := k - 1) (q' := q' + 2) (by go_num) (by omega) (by omega) ((gs8.side4 tt rfl ltt _ _ _ _).put (ownp_side4 ho8 tt rfl _ _ _ _)) hsm
              case measure => simp [intOf]; omega
          · skip
            have ho8 := ho7.mono (show w1.heap.size ≤ _ by omega)
            have tt := t0.below hb7 t0.lt
            have ltt : (w1.heap.size + 3) < w5.heap.size := by omega
            obtain ⟨R, hR⟩ : ∃ R : Pl, R = acqR p x2 := ⟨_, rfl⟩
            obtain ⟨KB, hKB⟩ : ∃ KB : Bool, KB = acqB p x2 := ⟨_, rfl⟩
            rw [← hR] at ho8
            have hsm : Tiny R := by rw [hR]; exact acqR_small p x2
            simp only [← hR, ← hKB]
            clear hR hKB ho7
            cases KB
            · go_wp2
              go_roundw
              case rel => exact relEnd (k' := k - 1) (q' := q' + 2) (by go_num) (by omega) (by omega) (gs8.side4 tt rfl ltt _ _ _ _) ⟨t1, t2, t3⟩
              case measure => simp [intOf]; omega
            · go_wp2
              go_roundw
              case rel => exact relEnd (k' := k - 1) (q' := q' + 2) (by go_num) (by omega) (by omega) ((gs8.side4 tt rfl ltt _ _ _ _).put (ownp_side4 ho8 tt rfl _ _ _ _)) hsm
              case measure => simp [intOf]; omega
        · skip
          have hlb : ((p.held.length : Int) == 0) = false := beq_eq_false_iff_ne.2 (by omega)
          have hlp : 0 < p.held.length := by omega
          obtain ⟨gh, rfl⟩ := held_at gs6.own hlp
          have hlpi : (0 : Int) < (p.held.length : Int) := by omega
          have hq1 : q' + 1 < 100000 := by omega
          have hne5 : w5.drew.heap.size ≠ g := by show w5.heap.size ≠ g; omega
          have hne6 : w5.heap.size ≠ g := by omega
          have ltt5 : (w1.heap.size + 3) < w5.heap.size := by omega
          have hT1 : p.idle.length ≤ 2097152 := by omega
          have hT2 : p.held.length ≤ 2097152 := by omega
          have hT3 : p.wait.length ≤ 2097152 := by omega
          have hz4 : (#[.int .i64 0, .slice none 0 0, .slice none 0 0, .slice none 0 0] : Array Value).size = 4 := rfl
          obtain ⟨F, hF0⟩ : ∃ F : Nat → Int, F = fun k => (p.held.map Ho.c).getD k 0 := ⟨_, rfl⟩
          have hF := hid hF0
          clear hF0
          have yF := (gs6.limbsF hF).2.2.2.2
          go_wp2_with fail
          go_region_held3 (fun w' => w'.cell? ⟨(w1.heap.size + 3), 0, none⟩ = some (.int .i64 p.mx) ∧ w'.cell? ⟨(w1.heap.size + 3), 1, none⟩ = some (.slice A1 p.idle.length c1) ∧ w'.cell? ⟨(w1.heap.size + 3), 2, none⟩ = some (.slice (some ⟨gh, 0, none⟩) p.held.length c2) ∧ w'.cell? ⟨(w1.heap.size + 3), 3, none⟩ = some (.slice A3 p.wait.length c3) ∧ ∀ k : Nat, k < p.held.length → w'.cell? ⟨gh, k * 2, none⟩ = some (.int .i64 (F k)))
            (first | with_reducible exact gs6.limbsF hF | with_reducible exact gs6.drew.limbsF hF | with_reducible exact (gs6.alloc _).limbsF hF | with_reducible exact (gs6.alloc _).drew.limbsF hF | with_reducible exact (gs6.drew.alloc _).limbsF hF | with_reducible exact gs7.limbsF hF | with_reducible exact (gs7.alloc _).limbsF hF | with_reducible exact gs8.limbsF hF | with_reducible exact (gs8.alloc _).limbsF hF | with_reducible exact (gs8.side4 tt hz4 ltt _ _ _ _).limbsF hF | go_keep)
            (first
              | (go_at_call 36; (with_reducible refine (pick_idx g (q' + 1) p.held.length _ (by first | with_reducible exact gs6.drew.rd | with_reducible exact (gs6.alloc _).drew.rd | with_reducible exact (gs6.drew.alloc _).rd) hq1 hlp).mono ?_); rintro e w6 ⟨j, rfl, hjn, hjx, hg6, hr6⟩; have gs7 := GQ.pick (by first | with_reducible exact gs6.drew | with_reducible exact (gs6.alloc _).drew | with_reducible exact gs6.drew.alloc _) hg6 hr6; obtain ⟨z0, z1, z2, z3, zf⟩ := gs7.cells; obtain ⟨_, _, _, hz7⟩ := gs7.lt; have hn6 : ¬ w6.heap.size = (w1.heap.size + 3) := (by omega); have hn6' : ¬ (w1.heap.size + 3) = w6.heap.size := (by omega); have hj0 : (0 : Int) ≤ (j : Int) := (by omega); try (have t0 : At w6 w5.heap.size 26 #[.int .i64 0, .slice none 0 0, .slice none 0 0, .slice none 0 0] := (by first | with_reducible exact ((At.new w5 26 #[.int .i64 0, .slice none 0 0, .slice none 0 0, .slice none 0 0]).drew).past hg6 hne6 | with_reducible exact alloc_past hg6 hne5); have t0c := t0.cell; have t0f := t0.frozen; have t0l := t0.lt))
              | (go_at_call 60; have t00 := t0; (with_reducible refine ((sReleaseConn_any p A1 (some ⟨gh, 0, none⟩) A3 c1 c2 c3 (F j) _ gs7.own.sees hlens.2.2 hlens.2.1 hT1 hT2 hT3)).mono ?_); rintro e w7 ⟨B1, B2, B3, d1, d2, d3, rfl, ho7, hb7⟩; have gs8 := GQ.below gs7 hb7; obtain ⟨v0, v1, v2, v3, vf⟩ := gs8.cells; obtain ⟨_, _, _, hz8⟩ := gs8.lt; have hn7 : ¬ w7.heap.size = (w1.heap.size + 3) := (by omega); have hn7' : ¬ (w1.heap.size + 3) = w7.heap.size := (by omega); obtain ⟨hc7, hf7⟩ := below_cell hb7; have ltt := ltt5; have tt := t00.below hb7 t0l)
              | (go_at_call 60; (with_reducible refine ((sReleaseConn_any p A1 (some ⟨gh, 0, none⟩) A3 c1 c2 c3 (F j) _ (gs7.alloc _).own.sees hlens.2.2 hlens.2.1 hT1 hT2 hT3)).mono ?_); rintro e w7 ⟨B1, B2, B3, d1, d2, d3, rfl, ho7, hb7⟩; have gs8 := GQ.below (gs7.alloc _) hb7; obtain ⟨v0, v1, v2, v3, vf⟩ := gs8.cells; obtain ⟨_, _, _, hz8⟩ := gs8.lt; have hn7 : ¬ w7.heap.size = (w1.heap.size + 3) := (by omega); have hn7' : ¬ (w1.heap.size + 3) = w7.heap.size := (by omega); obtain ⟨hc7, hf7⟩ := below_cell hb7; have ltt : (w1.heap.size + 3) < w6.heap.size := (by omega); have tt := (At.new w6 26 #[.int .i64 0, .slice none 0 0, .slice none 0 0, .slice none 0 0]).below hb7 (by simp))
              | (go_at_call 60; (with_reducible refine ((sReleaseConn_any p A1 (some ⟨gh, 0, none⟩) A3 c1 c2 c3 (F j) _ gs7.own.sees hlens.2.2 hlens.2.1 hT1 hT2 hT3)).mono ?_); rintro e w7 ⟨B1, B2, B3, d1, d2, d3, rfl, ho7, hb7⟩; have gs8 := GQ.below gs7 hb7; obtain ⟨v0, v1, v2, v3, vf⟩ := gs8.cells; obtain ⟨_, _, _, hz8⟩ := gs8.lt; have hn7 : ¬ w7.heap.size = (w1.heap.size + 3) := (by omega); have hn7' : ¬ (w1.heap.size + 3) = w7.heap.size := (by omega); obtain ⟨hc7, hf7⟩ := below_cell hb7; skip)
              | fail)
          · skip
            have ho8 := ho7.mono (show w1.heap.size ≤ _ by omega)
            obtain ⟨R, hR⟩ : ∃ R : Pl, R = relR p (F j) := ⟨_, rfl⟩
            obtain ⟨KB, hKB⟩ : ∃ KB : Bool, KB = relB p (F j) := ⟨_, rfl⟩
            rw [← hR] at ho8
            have hsm : Tiny R := by rw [hR]; exact relR_small _ _
            simp only [← hR, ← hKB]
            clear hR hKB ho7
            cases KB
            · go_wp2
              go_roundw
              case rel => exact relEnd (k' := k - 1) (q' := q' + 2) (by go_num) (by omega) (by omega) (gs8.alloc _) ⟨t1, t2, t3⟩
              case measure => simp [intOf]; omega
            · go_wp2
              go_roundw
              case rel => exact relEnd (k' := k - 1) (q' := q' + 2) (by go_num) (by omega) (by omega) ((gs8.put ho8).alloc _) hsm
              case measure => simp [intOf]; omega
          · skip
            have ho8 := ho7.mono (show w1.heap.size ≤ _ by simp only [World.size_alloc]; omega)
            have tt := (At.new w6 26 #[.int .i64 0, .slice none 0 0, .slice none 0 0, .slice none 0 0]).below hb7 (by simp)
            have ltt : (w1.heap.size + 3) < w6.heap.size := by omega
            obtain ⟨R, hR⟩ : ∃ R : Pl, R = relR p (F j) := ⟨_, rfl⟩
            obtain ⟨KB, hKB⟩ : ∃ KB : Bool, KB = relB p (F j) := ⟨_, rfl⟩
            rw [← hR] at ho8
            have hsm : Tiny R := by rw [hR]; exact relR_small _ _
            simp only [← hR, ← hKB]
            clear hR hKB ho7
            cases KB
            · go_wp2
              go_roundw
              case rel => exact relEnd (k' := k - 1) (q' := q' + 2) (by go_num) (by omega) (by omega) (gs8.side4 tt rfl ltt _ _ _ _) ⟨t1, t2, t3⟩
              case measure => simp [intOf]; omega
            · go_wp2
              go_roundw
              case rel => exact relEnd (k' := k - 1) (q' := q' + 2) (by go_num) (by omega) (by omega) ((gs8.side4 tt rfl ltt _ _ _ _).put (ownp_side4 ho8 tt rfl _ _ _ _)) hsm
              case measure => simp [intOf]; omega
          · skip
            have ho8 := ho7.mono (show w1.heap.size ≤ _ by omega)
            have tt := t0.below hb7 t0.lt
            have ltt : (w1.heap.size + 3) < w5.heap.size := by omega
            obtain ⟨R, hR⟩ : ∃ R : Pl, R = relR p (F j) := ⟨_, rfl⟩
            obtain ⟨KB, hKB⟩ : ∃ KB : Bool, KB = relB p (F j) := ⟨_, rfl⟩
            rw [← hR] at ho8
            have hsm : Tiny R := by rw [hR]; exact relR_small _ _
            simp only [← hR, ← hKB]
            clear hR hKB ho7
            cases KB
            · go_wp2
              go_roundw
              case rel => exact relEnd (k' := k - 1) (q' := q' + 2) (by go_num) (by omega) (by omega) (gs8.side4 tt rfl ltt _ _ _ _) ⟨t1, t2, t3⟩
              case measure => simp [intOf]; omega
            · go_wp2
              go_roundw
              case rel => exact relEnd (k' := k - 1) (q' := q' + 2) (by go_num) (by omega) (by omega) ((gs8.side4 tt rfl ltt _ _ _ _).put (ownp_side4 ho8 tt rfl _ _ _ _)) hsm
              case measure => simp [intOf]; omega
    · have hki : ¬ (0 : Int) < (k : Int) := by omega
      obtain ⟨l0, l1, l2, l3, lf⟩ := hgs.cells
      obtain ⟨rc, rf⟩ := hgs.res
      have hne1 : ¬ w.heap.size = (w1.heap.size + 3) := by omega
      have hne2 : ¬ (w1.heap.size + 3) = w.heap.size := by omega
      obtain ⟨d1, d2, d3, d4⟩ := hgs.done (.int .i64 p.mx) (.slice A1 p.idle.length c1) (.slice A2 p.held.length c2) (.slice A3 p.wait.length c3)
      go_wp2
      refine bodyPost_ret (v := .agg #[.int .i64 p.mx, .slice A1 p.idle.length c1, .slice A2 p.held.length c2, .slice A3 p.wait.length c3]) (by simp [results, Try.results35, go_sem, d4.cell]) rfl ⟨A1, A2, A3, c1, c2, c3, p, q', rfl, d1, d2, d3, by omega, by omega, by omega, by omega⟩

end Go.Proofs.Ytehdbllpiokbnab

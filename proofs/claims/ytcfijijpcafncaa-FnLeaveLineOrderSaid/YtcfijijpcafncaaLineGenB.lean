import Derived.Test.YtcfijijpcafncaaLineGenA
import Derived.Deep.RegionHeld3
import Derived.Deep.AppendLies
import Derived.Deep.RegionLaw
namespace Go.Proofs.Ytcfijijpcafncaa
open Go.RowKit

/-- What anyLine answers: some line with small numbers; only the reader's block has changed. -/
def LineAns (w : World) (g p : Nat) (e : Ending) (w' : World) : Prop :=
  ∃ (s n : Int) (A : Option Addr) (c : Nat) (l : List Int) (q : Nat), e = .returned (.agg #[.int .i64 s, .int .i64 n, .slice A l.length c]) ∧ Own w' w.heap.size (.slice A l.length c) l ∧ -5000 ≤ s ∧ s ≤ 5000 ∧ -5000 ≤ n ∧ n ≤ 5000 ∧ l.length ≤ 20 ∧ w.grownBy w' (some g) ∧ Rd w' g q ∧ q ≤ p + 100

theorem relEnd {w wr : World} {g p base L k' q' : Nat} {s n : Int} {A : Option Addr} {c : Nat} {l : List Int} {i : Value} (h1 : i = .int .i64 k') (h2 : k' ≤ 12) (h3 : q' + 3 * k' ≤ p + 60)
    (h5 : GS w wr g base L q' s n (.slice A l.length c) l) (h4 : Line.okB s n l = true) :
    ∃ (k q : Nat) (s n : Int) (A : Option Addr) (c : Nat) (l : List Int), i = .int .i64 k ∧ k ≤ 12 ∧ q + 3 * k ≤ p + 60 ∧ Line.okB s n l = true ∧ GS w wr g base L q s n (.slice A l.length c) l :=
  ⟨k', q', s, n, A, c, l, h1, h2, h3, h4, h5⟩

set_option maxHeartbeats 4000000 in
theorem anyLine_any (g p : Nat) (w : World) (h : Rd w g p) (hp : p < 1000) :
    Calls Try.prog 29 #[.pointer (some ⟨g, 0, none⟩)] w (LineAns w g p) := by
  have hg := h.lt
  obtain ⟨i0, hi0, hj0, hj1, hj2⟩ := info_parts intInfo
  go_enter Try.func29, Try.ntmps29
  go_wp2_with fail
  refine (one_any g p _ 4 _ [0, 5, 100, 990] _ ((h.alloc _).alloc _) (by omega) (by simpa using At.new (w.alloc _) 3 _) (by rfl) (by omega) (by rfl) (by omega) (by omega)).mono ?_
  rintro e w1 ⟨s0, rfl, hs0, hg1, hr1⟩
  have hz1 := hg1.size
  simp only [World.size_alloc] at hz1
  have hs0' : 0 ≤ s0 ∧ s0 ≤ 1000 := by simp at hs0; omega
  obtain ⟨hs0a, hs0b⟩ := hs0'
  clear hs0
  have hgz : g < w1.heap.size := hr1.lt
  go_wp2_with fail
  have gs1 : GS w ((w1.alloc (.cells #[] 3)).alloc (.cells #[.int .i64 s0, .int .i64 s0, .slice (some ⟨w1.heap.size, 0, none⟩) 0 0] 25)) g w1.heap.size (w1.heap.size + 1) (p + 1) s0 s0 (.slice (some ⟨w1.heap.size, 0, none⟩) 0 0) [] := by
    refine ⟨by simpa using At.new (w1.alloc (.cells #[] 3)) 25 #[.int .i64 s0, .int .i64 s0, .slice (some ⟨w1.heap.size, 0, none⟩) 0 0], (Own.made w1 w1.heap.size (Nat.le_refl _)).below ((Below.refl _ _).alloc (Nat.le_refl _) _), (hr1.alloc _).alloc _, ((((At.new w _ _).alloc _).past hg1 (by omega)).alloc _).alloc _, ?_, hg, by omega, by omega⟩
    exact grown_trans (grown_trans (grown_of_below (((Below.refl _ _).alloc (Nat.le_refl _) _).alloc (by simp) _) _) hg1) (grown_of_below (((Below.refl _ _).alloc (Nat.le_refl _) _).alloc (by simp) _) _)
  refine (one_any g (p + 1) _ 6 _ [5, 8, 3, 12, 0, 1] _ (((hr1.alloc _).alloc _).alloc _) (by omega) (by simpa using At.new ((w1.alloc _).alloc _) 3 _) (by rfl) (by omega) (by rfl) (by omega) (by omega)).mono ?_
  rintro e w2 ⟨n0, rfl, hn0, hg2, hr2⟩
  have hn0' : ∃ k : Nat, n0 = k ∧ k ≤ 12 := ⟨n0.toNat, by simp at hn0; omega, by simp at hn0; omega⟩
  obtain ⟨k0, rfl, hk0⟩ := hn0'
  clear hn0
  have gs2 := (gs1.alloc _).pick hg2 hr2
  go_wp2_with fail
  go_loopw [4] (fun i wr => ∃ (k q : Nat) (s n : Int) (A : Option Addr) (c : Nat) (l : List Int), i = .int .i64 k ∧ k ≤ 12 ∧ q + 3 * k ≤ p + 60 ∧ Line.okB s n l = true ∧ GS w wr g w1.heap.size (w1.heap.size + 1) q s n (.slice A l.length c) l) (fun i _ => (intOf i).toNat)
  case atStart =>
    refine ⟨k0, p + 1 + 1, s0, s0, _, _, [], rfl, hk0, by omega, ?_, gs2⟩
    exact Line.okB_iff.2 ⟨hs0a, hs0b, by omega, by omega, by omega, Line.Asc.nil, by simp⟩
  case round =>
    obtain ⟨k, q, s, n, A, c, l, rfl, hk, hq, hok, hgs⟩ := hrel
    clear gs1 gs2
    have HK := hid hok
    have hll := hid (Line.gone_len hok)
    obtain ⟨a1, a2, a3, a4, a5, _, _⟩ := Line.okB_iff.1 hok
    clear hok
    obtain ⟨g1, g2, g3, g4⟩ := hgs.lt
    obtain ⟨l0, l1, l2, lf⟩ := hgs.cells
    have hs := Sees.of_own hgs.2.1.out
    by_cases hk0 : 0 < k
    · go_wp2_with fail
      refine (sTakeTicket_any _ _ _ _ _ _ hs (by have := hll.out; omega)).mono ?_
      rintro e w3 ⟨ht, hb3⟩
      obtain ⟨s', n', kk, A', c', l', ok, rfl, ho3, hok3⟩ := ht.one
      clear ht
      have HOK3 := hid hok3
      clear hok3
      have hz3 := hb3.size
      have gs3 := hgs.below hb3
      have ho3' := ho3.mono (show w1.heap.size ≤ wr.heap.size by omega)
      clear hs l0 l1 l2 lf
      obtain ⟨j0, j1, j2, jf⟩ := gs3.cells
      obtain ⟨_, _, _, hzr3⟩ := gs3.lt
      cases ok
      · have gs4 := gs3.alloc (.cells #[.int .i64 s', .int .i64 n', .slice A' l'.length c'] 25)
        go_wp2_with fail
        refine (pick_any g q 3 _ gs4.2.2.1 (by omega)).mono ?_
        rintro e w5 ⟨x, rfl, hx0, hx1, hg5, hr5⟩
        have gs6 := gs4.pick hg5 hr5
        obtain ⟨y0, y1, y2, yf⟩ := gs6.cells
        obtain ⟨_, _, _, hz6⟩ := gs6.lt
        have hn5 : ¬ w5.heap.size = w1.heap.size + 1 := by omega
        have hn5' : ¬ w1.heap.size + 1 = w5.heap.size := by omega
        have hokc := hid (HK.out)
        have hlc := hid (Line.gone_len hokc.out)
        obtain ⟨bb1, bb2, bb3, bb4, bb5, _, _⟩ := Line.okB_iff.1 hokc.out
        rcases hx : (x == 0) with _ | _
        · go_wp2
          go_roundw
          case rel => exact ⟨k - 1, q + 1, _, _, _, _, _, by go_num, by omega, by omega, hokc.out, gs6⟩
          case measure => simp [intOf]; omega
        · go_wp2_with fail
          go_region_held3 (fun w' => w'.cell? ⟨w1.heap.size + 1, 0, none⟩ = some (.int .i64 s) ∧ w'.cell? ⟨w1.heap.size + 1, 1, none⟩ = some (.int .i64 n) ∧ w'.cell? ⟨w1.heap.size + 1, 2, none⟩ = some (.slice A l.length c))
            (first | exact ⟨y0, y1, y2⟩ | exact ⟨z0, z1, z2⟩ | exact ⟨v0, v1, v2⟩ | go_keep)
            (first
              | (go_at_call 41; refine (pick_any g (q + 1) 12 _ (by first | exact gs6.drew.2.2.1 | exact (gs6.drew.alloc _).2.2.1) (by omega)).mono ?_; rintro e w6 ⟨x2, rfl, hx20, hx21, hg6, hr6⟩; have gs7 := GS.pick (by first | exact gs6.drew | exact gs6.drew.alloc _) hg6 hr6; obtain ⟨z0, z1, z2, zf⟩ := gs7.cells; obtain ⟨_, _, _, hz7⟩ := gs7.lt; have hn6 : ¬ w6.heap.size = w1.heap.size + 1 := (by omega); have hn6' : ¬ w1.heap.size + 1 = w6.heap.size := (by omega); try (have t0 := At.past (show At (w5.drew.alloc _) w5.heap.size 25 #[.int .i64 0, .int .i64 0, .slice none 0 0] from At.new w5.drew _ _) hg6 (by omega); have t0c := t0.cell; have t0f := t0.frozen; have t0l := t0.lt); have hxw : IntKind.i64.wrap (s + x2) = s + x2 := (by have := hx21 (by omega); rw [IntKind.wrap_i64]; omega))
              | (go_at_call 24; refine (sLeaveLine_any _ _ _ _ _ l _ (Sees.of_own (by first | exact gs7.2.1.out | exact (gs7.alloc _).2.1.out)) (by have := hlc.out; omega)).mono ?_; rintro e w7 ⟨hl7, hb7⟩; obtain ⟨s7, n7, A7, c7, l7, ok7, rfl, ho7, hok7⟩ := hl7.one; have HOK7 := hid hok7; clear hl7 hok7; have gs8 := GS.below (by first | exact gs7 | exact gs7.alloc _) hb7; obtain ⟨v0, v1, v2, vf⟩ := gs8.cells; obtain ⟨_, _, _, hz8⟩ := gs8.lt; have hn7 : ¬ w7.heap.size = w1.heap.size + 1 := (by omega); have hn7' : ¬ w1.heap.size + 1 = w7.heap.size := (by omega); obtain ⟨hc7, hf7⟩ := below_cell hb7))
          · have ho8 : Own w7 w1.heap.size (.slice A7 l7.length c7) l7 := ho7.mono (by omega)
            cases ok7
            · go_wp2
              go_roundw
              case rel => exact relEnd (k' := k - 1) (q' := q + 2) (by go_num) (by omega) (by omega) (gs8.alloc _) hokc.out
              case measure => simp [intOf]; omega
            · have hend := HOK7.out rfl
              have HEND := hid hend
              clear hend
              go_wp2
              go_roundw
              case rel => exact relEnd (k' := k - 1) (q' := q + 2) (by go_num) (by omega) (by omega) ((gs8.put ho8).alloc _) HEND.out
              case measure => simp [intOf]; omega
          · have ho8 : Own w7 w1.heap.size (.slice A7 l7.length c7) l7 := ho7.mono (by simp only [World.size_alloc]; omega)
            have tt := (At.new w6 25 #[.int .i64 0, .int .i64 0, .slice none 0 0]).below hb7 (by simp)
            have ltt : w1.heap.size + 1 < w6.heap.size := by omega
            cases ok7
            · go_wp2
              go_roundw
              case rel => exact relEnd (k' := k - 1) (q' := q + 2) (by go_num) (by omega) (by omega) (gs8.side3 tt ltt _ _ _) hokc.out
              case measure => simp [intOf]; omega
            · have hend := HOK7.out rfl
              have HEND := hid hend
              clear hend
              go_wp2
              go_roundw
              case rel => exact relEnd (k' := k - 1) (q' := q + 2) (by go_num) (by omega) (by omega) ((gs8.side3 tt ltt _ _ _).put (own_side3 ho8 tt _ _ _)) HEND.out
              case measure => simp [intOf]; omega
          · have ho8 : Own w7 w1.heap.size (.slice A7 l7.length c7) l7 := ho7.mono (by omega)
            have tt := t0.below hb7 t0.lt
            have ltt : w1.heap.size + 1 < w5.heap.size := by omega
            cases ok7
            · go_wp2
              go_roundw
              case rel => exact relEnd (k' := k - 1) (q' := q + 2) (by go_num) (by omega) (by omega) (gs8.side3 tt ltt _ _ _) hokc.out
              case measure => simp [intOf]; omega
            · have hend := HOK7.out rfl
              have HEND := hid hend
              clear hend
              go_wp2
              go_roundw
              case rel => exact relEnd (k' := k - 1) (q' := q + 2) (by go_num) (by omega) (by omega) ((gs8.side3 tt ltt _ _ _).put (own_side3 ho8 tt _ _ _)) HEND.out
              case measure => simp [intOf]; omega
      · have gs4 := (gs3.put (s' := s') (n' := n') ho3').alloc (.cells #[.int .i64 s', .int .i64 n', .slice A' l'.length c'] 25)
        go_wp2_with fail
        refine (pick_any g q 3 _ gs4.2.2.1 (by omega)).mono ?_
        rintro e w5 ⟨x, rfl, hx0, hx1, hg5, hr5⟩
        have gs6 := gs4.pick hg5 hr5
        obtain ⟨y0, y1, y2, yf⟩ := gs6.cells
        obtain ⟨_, _, _, hz6⟩ := gs6.lt
        have hn5 : ¬ w5.heap.size = w1.heap.size + 1 := by omega
        have hn5' : ¬ w1.heap.size + 1 = w5.heap.size := by omega
        have hokc := hid (HOK3.out (by simp))
        have hlc := hid (Line.gone_len hokc.out)
        obtain ⟨bb1, bb2, bb3, bb4, bb5, _, _⟩ := Line.okB_iff.1 hokc.out
        rcases hx : (x == 0) with _ | _
        · go_wp2
          go_roundw
          case rel => exact ⟨k - 1, q + 1, _, _, _, _, _, by go_num, by omega, by omega, hokc.out, gs6⟩
          case measure => simp [intOf]; omega
        · go_wp2_with fail
          go_region_held3 (fun w' => w'.cell? ⟨w1.heap.size + 1, 0, none⟩ = some (.int .i64 s') ∧ w'.cell? ⟨w1.heap.size + 1, 1, none⟩ = some (.int .i64 n') ∧ w'.cell? ⟨w1.heap.size + 1, 2, none⟩ = some (.slice A' l'.length c'))
            (first | exact ⟨y0, y1, y2⟩ | exact ⟨z0, z1, z2⟩ | exact ⟨v0, v1, v2⟩ | go_keep)
            (first
              | (go_at_call 41; refine (pick_any g (q + 1) 12 _ (by first | exact gs6.drew.2.2.1 | exact (gs6.drew.alloc _).2.2.1) (by omega)).mono ?_; rintro e w6 ⟨x2, rfl, hx20, hx21, hg6, hr6⟩; have gs7 := GS.pick (by first | exact gs6.drew | exact gs6.drew.alloc _) hg6 hr6; obtain ⟨z0, z1, z2, zf⟩ := gs7.cells; obtain ⟨_, _, _, hz7⟩ := gs7.lt; have hn6 : ¬ w6.heap.size = w1.heap.size + 1 := (by omega); have hn6' : ¬ w1.heap.size + 1 = w6.heap.size := (by omega); try (have t0 := At.past (show At (w5.drew.alloc _) w5.heap.size 25 #[.int .i64 0, .int .i64 0, .slice none 0 0] from At.new w5.drew _ _) hg6 (by omega); have t0c := t0.cell; have t0f := t0.frozen; have t0l := t0.lt); have hxw : IntKind.i64.wrap (s' + x2) = s' + x2 := (by have := hx21 (by omega); rw [IntKind.wrap_i64]; omega))
              | (go_at_call 24; refine (sLeaveLine_any _ _ _ _ _ l' _ (Sees.of_own (by first | exact gs7.2.1.out | exact (gs7.alloc _).2.1.out)) (by have := hlc.out; omega)).mono ?_; rintro e w7 ⟨hl7, hb7⟩; obtain ⟨s7, n7, A7, c7, l7, ok7, rfl, ho7, hok7⟩ := hl7.one; have HOK7 := hid hok7; clear hl7 hok7; have gs8 := GS.below (by first | exact gs7 | exact gs7.alloc _) hb7; obtain ⟨v0, v1, v2, vf⟩ := gs8.cells; obtain ⟨_, _, _, hz8⟩ := gs8.lt; have hn7 : ¬ w7.heap.size = w1.heap.size + 1 := (by omega); have hn7' : ¬ w1.heap.size + 1 = w7.heap.size := (by omega); obtain ⟨hc7, hf7⟩ := below_cell hb7))
          · have ho8 : Own w7 w1.heap.size (.slice A7 l7.length c7) l7 := ho7.mono (by omega)
            cases ok7
            · go_wp2
              go_roundw
              case rel => exact relEnd (k' := k - 1) (q' := q + 2) (by go_num) (by omega) (by omega) (gs8.alloc _) hokc.out
              case measure => simp [intOf]; omega
            · have hend := HOK7.out rfl
              have HEND := hid hend
              clear hend
              go_wp2
              go_roundw
              case rel => exact relEnd (k' := k - 1) (q' := q + 2) (by go_num) (by omega) (by omega) ((gs8.put ho8).alloc _) HEND.out
              case measure => simp [intOf]; omega
          · have ho8 : Own w7 w1.heap.size (.slice A7 l7.length c7) l7 := ho7.mono (by simp only [World.size_alloc]; omega)
            have tt := (At.new w6 25 #[.int .i64 0, .int .i64 0, .slice none 0 0]).below hb7 (by simp)
            have ltt : w1.heap.size + 1 < w6.heap.size := by omega
            cases ok7
            · go_wp2
              go_roundw
              case rel => exact relEnd (k' := k - 1) (q' := q + 2) (by go_num) (by omega) (by omega) (gs8.side3 tt ltt _ _ _) hokc.out
              case measure => simp [intOf]; omega
            · have hend := HOK7.out rfl
              have HEND := hid hend
              clear hend
              go_wp2
              go_roundw
              case rel => exact relEnd (k' := k - 1) (q' := q + 2) (by go_num) (by omega) (by omega) ((gs8.side3 tt ltt _ _ _).put (own_side3 ho8 tt _ _ _)) HEND.out
              case measure => simp [intOf]; omega
          · have ho8 : Own w7 w1.heap.size (.slice A7 l7.length c7) l7 := ho7.mono (by omega)
            have tt := t0.below hb7 t0.lt
            have ltt : w1.heap.size + 1 < w5.heap.size := by omega
            cases ok7
            · go_wp2
              go_roundw
              case rel => exact relEnd (k' := k - 1) (q' := q + 2) (by go_num) (by omega) (by omega) (gs8.side3 tt ltt _ _ _) hokc.out
              case measure => simp [intOf]; omega
            · have hend := HOK7.out rfl
              have HEND := hid hend
              clear hend
              go_wp2
              go_roundw
              case rel => exact relEnd (k' := k - 1) (q' := q + 2) (by go_num) (by omega) (by omega) ((gs8.side3 tt ltt _ _ _).put (own_side3 ho8 tt _ _ _)) HEND.out
              case measure => simp [intOf]; omega
    · go_wp2_with fail
      refine (pick_any g q 24 _ hgs.2.2.1 (by omega)).mono ?_
      rintro e w5 ⟨x, rfl, hx0, hx1, hg5, hr5⟩
      have gs6 := hgs.pick hg5 hr5
      obtain ⟨y0, y1, y2, yf⟩ := gs6.cells
      obtain ⟨_, _, _, hz6⟩ := gs6.lt
      clear l0 l1 l2 lf hs
      have hlc := hll
      have hn5 : ¬ w5.heap.size = w1.heap.size + 1 := by omega
      have hn5' : ¬ w1.heap.size + 1 = w5.heap.size := by omega
      rcases hx : (x == 0) with _ | _
      · rcases hxa : (x == 1) with _ | _
        · rcases hxb : (x == 2) with _ | _
          · obtain ⟨r0, rf⟩ := gs6.res
            go_wp2
            refine bodyPost_ret (v := .agg #[.int .i64 s, .int .i64 n, .slice A l.length c]) (by simp [results, Try.results29, go_sem, r0]) rfl ⟨_, _, _, _, _, q + 1, rfl, (gs6.done _ _ _).1, by omega, by omega, by omega, by omega, by have := hlc.out; simp at this ⊢; omega, (gs6.done _ _ _).2.1, (gs6.done _ _ _).2.2, by omega⟩
          · go_wp2_with fail
            refine (one_any g (q + 1) _ 2 _ [-1, 1001] _ ((gs6.alloc _).2.2.1) (by omega) (At.new w5 _ _) (by rfl) (by omega) (by rfl) (by omega) (by omega)).mono ?_
            rintro e w6 ⟨x2, rfl, hx2, hg6, hr6⟩
            have gs7 := (gs6.alloc _).pick hg6 hr6
            have hx2' : -1 ≤ x2 ∧ x2 ≤ 1001 := by simp at hx2; omega
            obtain ⟨hx2a, hx2b⟩ := hx2'
            clear hx2
            clear y0 y1 y2 yf
            obtain ⟨y0, y1, y2, yf⟩ := gs7.cells
            have gs8 := gs7.set (s' := x2) (n' := n) (v' := .slice A l.length c) (i := 0) (u := .int .i64 x2) (by rfl) gs7.2.1
            obtain ⟨r0, rf⟩ := gs7.res
            obtain ⟨_, m1, m2, _⟩ := gs7.lt
            have m3 : ¬ w.heap.size = w1.heap.size + 1 := by omega
            go_wp2
            refine bodyPost_ret (v := .agg #[.int .i64 x2, .int .i64 n, .slice A l.length c]) (by simp [results, Try.results29, go_sem, r0]) rfl ⟨_, _, _, _, _, q + 1 + 1, rfl, (gs8.done _ _ _).1, by omega, by omega, by omega, by omega, by have := hlc.out; simp at this ⊢; omega, (gs8.done _ _ _).2.1, (gs8.done _ _ _).2.2, by omega⟩
        · go_wp2_with fail
          go_region_law (first
              | (go_simp; go_at_call 34; refine (copyInts_any A c l _ (Sees.of_own (by first | exact gs6.drew.2.1.out | exact (gs6.drew.alloc _).2.1.out)) (by have := hlc.out; omega)).mono ?_; rintro e w6 ⟨v6, rfl, ho6, hb6⟩; obtain ⟨A6, c6, rfl, _⟩ := ho6.form; have gs7 := GS.below (by first | exact gs6.drew | exact gs6.drew.alloc _) hb6; obtain ⟨z0, z1, z2, zf⟩ := gs7.cells; obtain ⟨_, _, _, hz7⟩ := gs7.lt; have hn6 : ¬ w6.heap.size = w1.heap.size + 1 := (by omega); have hn6' : ¬ w1.heap.size + 1 = w6.heap.size := (by omega))
              | (go_simp; go_at_call 39; refine (one_any g (q + 1) _ 3 _ [n, s, -1] _ (by first | exact gs7.2.2.1 | exact (gs7.alloc _).2.2.1) (by omega) (by first | exact At.new w6 _ _ | exact (At.new w5.drew _ _).below hb6 (by simp)) (by rfl) (by have := gs7.lt; have := gs6.lt; simp; omega) (by rfl) (by omega) (by omega)).mono ?_; rintro e w7 ⟨x2, rfl, hx2, hg7, hr7⟩; have gs8 := GS.pick (by first | exact gs7 | exact gs7.alloc _) hg7 hr7; have hx2' : -1 ≤ x2 ∧ x2 ≤ 1000 := (by simp at hx2; omega); clear hx2; have ho7 : Own w7 w1.heap.size (.slice A6 l.length c6) l := Own.past (by first | exact ho6.mono (by first | exact Nat.le_of_lt (Nat.lt_of_succ_lt hz6) | (simp; omega)) | exact (ho6.mono (by first | exact Nat.le_of_lt (Nat.lt_of_succ_lt hz6) | (simp; omega))).below ((Below.refl _ _).alloc (Nat.le_refl _) _)) hg7 (by omega); obtain ⟨v0, v1, v2, vf⟩ := gs8.cells; obtain ⟨_, _, _, hz8⟩ := gs8.lt; have hn7 : ¬ w7.heap.size = w1.heap.size + 1 := (by omega); have hn7' : ¬ w1.heap.size + 1 = w7.heap.size := (by omega))
              | (refine step_append_lies _ (by rfl) _ _ _ (by rfl) w1.heap.size 3 i0 _ 1 8 Try.underlying23 hi0 hj0 hj1 hj2 rfl (by omega) (.slice A6 l.length c6) l.length (ints l) (by rfl) (ho7.out.alloc _) ⟨w7.heap.size, 0, none⟩ 1 1 [.int .i64 x2] (by rfl) (by rfl) (cell_one_new _ _ _) (by simp [Value.oneCell']) (by omega) (by have := hlc.out; unfold maxLen; omega) (by have := hlc.out; omega) (by simp; omega) (w7.heap.size + 1) (by simp) ?_; intro gg cap w8 hown8 hgrow8 hat8 hlt8; have hL8 := (gs8.alloc _).app (ho7.below ((Below.refl _ _).alloc (Nat.le_refl _) _)) hgrow8; have u0 := hL8.cell 0; have u1 := hL8.cell 1; have u2 := hL8.cell 2; have uf := hL8.frozen))
          all_goals
            obtain ⟨hx2a, hx2b⟩ := hx2'
            have ho8 : Own w8 w1.heap.size (.slice (some ⟨gg, 0, none⟩) (l.length + 1) cap) (l ++ [x2]) := by
              unfold Own
              rw [ints_app, List.length_append]
              exact hown8
            have gs9 := (gs8.alloc _).appPut (ho7.below ((Below.refl _ _).alloc (Nat.le_refl _) _)) hgrow8 ho8
            obtain ⟨r0, rf⟩ := gs9.res
            obtain ⟨_, m1, m2, _⟩ := gs9.lt
            have m3 : ¬ w.heap.size = w1.heap.size + 1 := by omega
            clear hown8 hgrow8 hat8
            go_wp2
            refine bodyPost_ret (v := .agg #[.int .i64 s, .int .i64 n, .slice (some ⟨gg, 0, none⟩) (l.length + 1) cap]) (by simp [results, Try.results29, go_sem, r0]) rfl ⟨s, n, some ⟨gg, 0, none⟩, cap, l ++ [x2], q + 1 + 1, by simp, ?_, by omega, by omega, by omega, by omega, by have := hlc.out; simp; omega, (gs9.done _ _ _).2.1, (gs9.done _ _ _).2.2, by omega⟩
            have hdone := (gs9.done (.int .i64 s) (.int .i64 n) (.slice (some ⟨gg, 0, none⟩) (l.length + 1) cap)).1
            simpa using hdone
      · have hsw : ∀ y : Int, -1 ≤ y → y ≤ 13 → IntKind.i64.wrap (s + y) = s + y := fun y h1 h2 => by rw [IntKind.wrap_i64]; omega
        have HSW := hid hsw
        clear hsw
        go_wp2_with fail
        go_region_held3 (fun w' => w'.cell? ⟨w1.heap.size + 1, 0, none⟩ = some (.int .i64 s))
          (first | exact y0 | exact z0 | exact (World.cell?_setCell_other _ _ _ _ (by simp)).trans z0 | go_keep)
          (first | (go_at_call 39; refine (one_any g (q + 1) _ 2 _ [-1, 13] _ ((gs6.drew.alloc _).2.2.1) (by omega) (At.new w5.drew _ _) (by rfl) (by have := gs6.lt; simp; omega) (by rfl) (by omega) (by omega)).mono ?_; rintro e w6 ⟨x2, rfl, hx2, hg6, hr6⟩; have gs7 := (gs6.drew.alloc _).pick hg6 hr6; have hx2' : -1 ≤ x2 ∧ x2 ≤ 13 := (by simp at hx2; omega); have hww := HSW.out x2 hx2'.1 hx2'.2; clear hx2; obtain ⟨z0, z1, z2, zf⟩ := gs7.cells))
        obtain ⟨hx2a, hx2b⟩ := hx2'
        have gs8 := gs7.set (s' := s) (n' := s + x2) (v' := .slice A l.length c) (i := 1) (u := .int .i64 (s + x2)) (by rfl) gs7.2.1
        obtain ⟨r0, rf⟩ := gs7.res
        obtain ⟨_, m1, m2, _⟩ := gs7.lt
        have m3 : ¬ w.heap.size = w1.heap.size + 1 := by omega
        go_wp2
        refine bodyPost_ret (v := .agg #[.int .i64 s, .int .i64 (s + x2), .slice A l.length c]) (by simp [results, Try.results29, go_sem, r0]) rfl ⟨_, _, _, _, _, q + 1 + 1, rfl, (gs8.done _ _ _).1, by omega, by omega, by omega, by omega, by have := hlc.out; simp at this ⊢; omega, (gs8.done _ _ _).2.1, (gs8.done _ _ _).2.2, by omega⟩
end Go.Proofs.Ytcfijijpcafncaa

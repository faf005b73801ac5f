/-
  What the model's generator of pools answers, valid ones or not. No condition but a reader.
-/
import Derived.Test.YtehdbllpiokbnabPlGenA
import Derived.Test.YtehdbllpiokbnabPlGenB
import Derived.Test.YtehdbllpiokbnabPlW
import Derived.Test.YtehdbllpiokbnabPlM

namespace Go.Proofs.Ytehdbllpiokbnab
open Go.RowKit Pol

section
variable {w0 wr w' : World} {g base L q M : Nat} {A1 A2 A3 B1 B2 B3 A : Option Addr} {c1 c2 c3 d1 d2 d3 c : Nat} {p R : Pl}
/-- A row that lies beside has grown. -/
theorem GQ.beside (h : GQ w0 wr g base L q A1 A2 A3 c1 c2 c3 p) {row : Option Nat} (hg : wr.grownBy w' row) (hr : ∀ k, row = some k → M ≤ k) (hL : L < M) (l1 : ∀ k, (Value.slice A1 p.idle.length c1).ownBlock = some k → k < M) (l2 : ∀ k, (Value.slice A2 p.held.length c2).ownBlock = some k → k < M) (l3 : ∀ k, (Value.slice A3 p.wait.length c3).ownBlock = some k → k < M) : GQ w0 w' g base L q A1 A2 A3 c1 c2 c3 p := by
  obtain ⟨h1, h2, h3, h4, h5, h6, h7, h8⟩ := h
  obtain ⟨o1, o2, o3, o4⟩ := h2
  have hgl := h3.lt
  have hl1 := h1.lt
  have hb : Below (g + 1) wr w' := ⟨hg.os, hg.tape, hg.output, hg.size, fun k hk => hg.block k (by omega) (fun e2 => by have := hr k e2.symm; omega)⟩
  refine ⟨h1.grown hg (fun e => by have := hr _ e.symm; omega), ⟨row_kept o1 hg (fun k hk e => ?_), o2.kept hg (fun k hk e => ?_), row_kept o3 hg (fun k hk e => ?_), o4⟩, h3.below hb (by omega), h4.grown hg (fun e => by have := hr _ e.symm; omega), ?_, h6, h7, h8⟩
  · have := hr k e; have := l1 k hk; omega
  · have := hr k e; have := l2 k hk; omega
  · have := hr k e; have := l3 k hk; omega
  · exact ⟨hg.os.trans h5.os, hg.tape.trans h5.tape, hg.output.trans h5.output, Nat.le_trans h5.size hg.size, fun k hk hn => (hg.block k (Nat.lt_of_lt_of_le hk h5.size) (fun e2 => by have := hr k e2.symm; omega)).trans (h5.block k hk hn)⟩
theorem OwnP.swapIdle (h : OwnP wr base A1 A2 A3 c1 c2 c3 p) {l : List Int} (ho : Own wr M (.slice A l.length c) l) (hM : base ≤ M) (l2 : ∀ k, (Value.slice A2 p.held.length c2).ownBlock = some k → k < M) (l3 : ∀ k, (Value.slice A3 p.wait.length c3).ownBlock = some k → k < M) : OwnP wr base A A2 A3 c c2 c3 ⟨p.mx, l, p.held, p.wait⟩ := by
  obtain ⟨o1, o2, o3, f12, f13, f23⟩ := h
  exact ⟨ho.mono hM, o2, o3, fun k h1 h2 => by have := (ho.out.lt k h1).1; have := l2 k h2; omega, fun k h1 h2 => by have := (ho.out.lt k h1).1; have := l3 k h2; omega, f23⟩
theorem OwnP.swapHeld (h : OwnP wr base A1 A2 A3 c1 c2 c3 p) {l : List Ho} (ho : OwnS 76 2 hcells wr M (.slice A l.length c) l) (hM : base ≤ M) (l1 : ∀ k, (Value.slice A1 p.idle.length c1).ownBlock = some k → k < M) (l3 : ∀ k, (Value.slice A3 p.wait.length c3).ownBlock = some k → k < M) : OwnP wr base A1 A A3 c1 c c3 ⟨p.mx, p.idle, l, p.wait⟩ := by
  obtain ⟨o1, o2, o3, f12, f13, f23⟩ := h
  exact ⟨o1, ho.mono hM, o3, fun k h1 h2 => by have := (ho.out.lt k h2).1; have := l1 k h1; omega, f13, fun k h1 h2 => by have := (ho.out.lt k h1).1; have := l3 k h2; omega⟩
theorem OwnP.swapWait (h : OwnP wr base A1 A2 A3 c1 c2 c3 p) {l : List Int} (ho : Own wr M (.slice A l.length c) l) (hM : base ≤ M) (l1 : ∀ k, (Value.slice A1 p.idle.length c1).ownBlock = some k → k < M) (l2 : ∀ k, (Value.slice A2 p.held.length c2).ownBlock = some k → k < M) : OwnP wr base A1 A2 A c1 c2 c ⟨p.mx, p.idle, p.held, l⟩ := by
  obtain ⟨o1, o2, o3, f12, f13, f23⟩ := h
  exact ⟨o1, o2, ho.mono hM, f12, fun k h1 h2 => by have := (ho.out.lt k h2).1; have := l1 k h1; omega, fun k h1 h2 => by have := (ho.out.lt k h2).1; have := l2 k h1; omega⟩
/-- One cell of the pool is stored. -/
theorem GQ.set1 (h : GQ w0 wr g base L q A1 A2 A3 c1 c2 c3 p) (ho : OwnP wr base B1 B2 B3 d1 d2 d3 R) (i : Nat) (u : Value) (hcs : (#[.int .i64 p.mx, .slice A1 p.idle.length c1, .slice A2 p.held.length c2, .slice A3 p.wait.length c3] : Array Value).setIfInBounds i u = #[.int .i64 R.mx, .slice B1 R.idle.length d1, .slice B2 R.held.length d2, .slice B3 R.wait.length d3]) :
    GQ w0 (wr.setCell ⟨L, i, none⟩ u) g base L q B1 B2 B3 d1 d2 d3 R := by
  obtain ⟨h1, h2, h3, h4, h5, h6, h7, h8⟩ := h
  exact ⟨by rw [← hcs]; exact h1.set i u, ho.past h1 (grown_set _ _ _ _), h3.far (by simp; omega) _, h4.past (grown_set _ _ _ _) (by omega), set_grown h5 (by omega), h6, h7, h8⟩
end
set_option maxHeartbeats 8000000 in
theorem anyPool_any (g q : Nat) (w : World) (h : Rd w g q) (hp : q < 1000) :
    Calls Try.prog 22 #[.pointer (some ⟨g, 0, none⟩)] w (PoolAns w g q 100 7 13) := by
  have hg := h.lt
  obtain ⟨i0, hi0, hz0, hz1, hz2⟩ := info_parts intInfo
  obtain ⟨ih0, hih0, hzh0, hzh1, hzh2⟩ := info_parts holdInfo
  go_enter Try.func22, Try.ntmps22
  go_wp2_with fail
  refine (somePool_any g q _ (h.alloc _) hp).mono ?_
  rintro e w1 ⟨A1, A2, A3, c1, c2, c3, p, q1, rfl, ho1, hg1, hr1, hq1, hl1, hl2, hl3⟩
  have hz1' := hg1.size
  simp only [World.size_alloc] at ho1 hz1'
  have gs1 : GQ w (w1.alloc (.cells #[.int .i64 p.mx, .slice A1 p.idle.length c1, .slice A2 p.held.length c2, .slice A3 p.wait.length c3] 26)) g (w.heap.size + 1) w1.heap.size q1 A1 A2 A3 c1 c2 c3 p := by
    refine ⟨At.newAt _ _ rfl, ho1.below ((Below.refl _ _).alloc (Nat.le_refl _) _), hr1.alloc _, ((At.new w 26 #[.int .i64 0, .slice none 0 0, .slice none 0 0, .slice none 0 0]).past hg1 (by omega)).alloc _, ?_, hg, by omega, by omega⟩
    exact grown_trans (grown_trans (grown_of_below ((Below.refl _ _).alloc (Nat.le_refl _) _) _) hg1) (grown_of_below ((Below.refl _ _).alloc (Nat.le_refl _) _) _)
  go_wp2_with fail
  refine (pick_any g q1 24 _ gs1.rd (by omega)).mono ?_
  rintro e w2 ⟨f, rfl, hf0, hf1, hg2, hr2⟩
  have gs2 := gs1.pick hg2 hr2
  clear gs1 hf1 hg2 hr2 ho1 hg1 hr1
  have lens := gs2.own.lens
  have l1 := fun k hk => (gs2.own.lt1 k hk).2
  have l2 := fun k hk => (gs2.own.lt2 k hk).2
  have l3 := fun k hk => (gs2.own.lt3 k hk).2
  have L1 := hid l1
  have L2 := hid l2
  have L3 := hid l3
  clear l1 l2 l3
  obtain ⟨g1, g2, g3, g4⟩ := gs2.lt
  obtain ⟨L, hLL⟩ : ∃ L, L = w1.heap.size := ⟨_, rfl⟩
  rw [← hLL] at gs2 g3 g4 ⊢
  clear hLL
  rcases e0 : (f == 0) with _ | _
  · skip
    rcases e1 : (f == 1) with _ | _
    · skip
      rcases e2 : (f == 2) with _ | _
      · skip
        rcases e3 : (f == 3) with _ | _
        · skip
          obtain ⟨y0, y1, y2, y3, yf⟩ := gs2.cells
          obtain ⟨rc, rf⟩ := gs2.res
          have hne1 : ¬ w.heap.size = L := by omega
          have hne2 : ¬ L = w.heap.size := by omega
          obtain ⟨d1, d2, d3, d4⟩ := gs2.done (.int .i64 p.mx) (.slice A1 p.idle.length c1) (.slice A2 p.held.length c2) (.slice A3 p.wait.length c3)
          go_wp2
          refine bodyPost_ret (v := .agg #[.int .i64 p.mx, .slice A1 p.idle.length c1, .slice A2 p.held.length c2, .slice A3 p.wait.length c3]) (by simp [results, Try.results22, go_sem, d4.cell]) rfl ⟨_, _, _, _, _, _, p, q1 + 1, rfl, d1, d2, d3, by omega, by omega, by omega, by omega⟩
        · skip
          have gs3 := gs2.alloc (.cells #[] 76)
          have hm3 : OwnS 76 2 hcells (w2.alloc (.cells #[] 76)) w2.heap.size (.slice (some ⟨w2.heap.size, 0, none⟩) 0 0) [] := OwnS.made w2 (Nat.le_refl _)
          rcases hA : A2 with _ | ad
          · skip
            subst hA
            have hnil : p.held = [] := by
              have hs := gs2.own.sees.held
              cases hh : p.held with
              | nil => rfl
              | cons y l => rw [hh] at hs; have := hs.none_nil; simp [strip, hcells] at this
            have hlen0 : p.held.length = 0 := by rw [hnil]; rfl
            clear gs2 hnil
            obtain ⟨x0, x1, x2, x3, xf⟩ := gs3.cells
            obtain ⟨_, _, _, g5⟩ := gs3.lt
            go_wp2_with fail
            refine (one_any g (q1 + 1) _ 2 _ [0, 5] _ (gs3.alloc _).rd (by omega) (At.newAt 3 _ (by first | rfl | (simp; done))) (by rfl) (by first | omega | (simp; omega)) (by rfl) (by omega) (by omega)).mono ?_
            rintro e w4 ⟨x, rfl, hx, hg4, hr4⟩
            have gs4 := (gs3.alloc _).pick hg4 hr4
            have ho4 : OwnS 76 2 hcells w4 w2.heap.size _ _ := (hm3.alloc _).kept hg4 (fun k hk e => by have := (hm3.lt k hk).1; injection e with e; omega)
            have hz4 : w2.heap.size ≤ w4.heap.size := by have := hg4.size; simp at this; omega
            clear hx hg4 hr4 gs3 hm3
            clear x0 x1 x2 x3 xf
            obtain ⟨_, _, _, g6⟩ := gs4.lt
            go_wp2_with fail
            refine (one_any g (q1 + 1 + 1) _ 2 _ [0, 5] _ (gs4.alloc _).rd (by omega) (At.new w4 3 _) (by rfl) (by omega) (by rfl) (by omega) (by omega)).mono ?_
            rintro e w5 ⟨z2, rfl, hx, hg5, hr5⟩
            have gs5 := (gs4.alloc _).pick hg5 hr5
            have ho5 : OwnS 76 2 hcells w5 w2.heap.size _ _ := (ho4.alloc _).kept hg5 (fun k hk e => by have := (ho4.lt k hk).1; injection e with e; omega)
            have hz5 : w2.heap.size ≤ w5.heap.size := by have := hg5.size; simp at this; omega
            clear hx hg5 hr5 gs4 ho4
            obtain ⟨_, _, _, g7⟩ := gs5.lt
            obtain ⟨x0, x1, x2, x3, xf⟩ := gs5.cells
            go_wp2_with (at_builtin; refine wpList_append_own _ rfl _ _ 24 rfl w2.heap.size 76 ih0 (.agg #[.int .i64 0, .int .i64 0]) 2 16 Try.underlying24 hih0 hzh0 hzh1 hzh2 rfl (by decide) _ _ _ rfl (ho5.alloc _).out ⟨w5.heap.size, 0, none⟩ 1 1 [.int .i64 x, .int .i64 z2] rfl rfl (by simpa using cells_new w5 _ _) ?c12_0 ?c13_0 ?c14_0 ?c15_0 ?_)
            case c12_0 => simp [Value.oneCell']
            case c13_0 => unfold maxLen; first | omega | (simp; done) | (simp; omega)
            case c14_0 => first | omega | (simp; done) | (simp; omega)
            case c15_0 => simp; omega
            case _ =>
              intro v6 w6 h6 hg6 _
              have ho6 : OwnS 76 2 hcells w6 w2.heap.size v6 (([] : List Ho) ++ [⟨x, z2⟩]) := by unfold OwnS; rw [strip_snoc, List.length_append]; exact h6
              obtain ⟨Ad, cd, rfl, _, _, _⟩ := OwnS.form ho6
              have e6 : (([] : List Ho) ++ [(⟨x, z2⟩ : Ho)]).length = 1 := by simp
              have gs6 := (gs5.alloc (.cells #[.int .i64 x, .int .i64 z2] 76)).beside (M := w2.heap.size) hg6 (fun k hk => (ho5.lt k hk).1) (by omega) L1.out L2.out L3.out
              clear h6 hg6 gs5 ho5
              clear x0 x1 x2 x3 xf
              have og := gs6.own.swapHeld ho6 (by omega) L1.out L3.out
              obtain ⟨x0, x1, x2, x3, xf⟩ := gs6.cells
              have gs7 := gs6.set1 (R := ⟨p.mx, p.idle, ([] : List Ho) ++ [⟨x, z2⟩], p.wait⟩) og 2 (.slice Ad 1 cd) (by simp)
              obtain ⟨_, _, _, g8⟩ := gs6.lt
              have gs6 := gs7
              obtain ⟨y0, y1, y2, y3, yf⟩ := gs6.cells
              obtain ⟨rc, rf⟩ := gs6.res
              have hne1 : ¬ w.heap.size = L := by omega
              have hne2 : ¬ L = w.heap.size := by omega
              obtain ⟨d1, d2, d3, d4⟩ := gs6.done (.int .i64 p.mx) (.slice A1 p.idle.length c1) (.slice Ad 1 cd) (.slice A3 p.wait.length c3)
              go_wp2
              refine bodyPost_ret (v := .agg #[.int .i64 p.mx, .slice A1 p.idle.length c1, .slice Ad 1 cd, .slice A3 p.wait.length c3]) (by simp [results, Try.results22, go_sem, d4.cell]) rfl ⟨_, _, _, _, _, _, ⟨p.mx, p.idle, ([] : List Ho) ++ [⟨x, z2⟩], p.wait⟩, q1 + 1 + 1 + 1, by simp, d1, d2, d3, by omega, show p.idle.length ≤ 7 by omega, by simp only []; rw [e6]; omega, show p.wait.length ≤ 13 by omega⟩
          · skip
            subst hA
            obtain ⟨x0, x1, x2, x3, xf⟩ := gs2.cells
            go_wp2_with (at_builtin; refine wpList_append_own _ rfl _ _ 24 rfl w2.heap.size 76 ih0 (.agg #[.int .i64 0, .int .i64 0]) 2 16 Try.underlying24 hih0 hzh0 hzh1 hzh2 rfl (by decide) _ _ _ rfl hm3.out ad p.held.length c2 (strip hcells p.held) rfl ?c1_1 ?cn_1 ?c2_1 ?c3_1 ?c4_1 ?c5_1 ?_)
            case c1_1 => exact strip_len hcells_len _
            case cn_1 => exact gs3.own.sees.held.add
            case c2_1 => exact hcells_one p.held
            case c3_1 => unfold maxLen; simp; omega
            case c4_1 => simp; omega
            case c5_1 => simp
            case _ =>
              intro v3 w3 h3 hg3 _
              have ho3 : OwnS 76 2 hcells w3 w2.heap.size v3 p.held := by unfold OwnS; simpa [strip_nil] using h3
              obtain ⟨Ac, cc, rfl, _, _, _⟩ := OwnS.form ho3
              have gs3b := gs3.beside (M := w2.heap.size) hg3 (fun k hk => (hm3.lt k hk).1) (by omega) L1.out L2.out L3.out
              have hz3 : w2.heap.size ≤ w3.heap.size := by have := hg3.size; simp at this; omega
              clear gs2 gs3 hm3 h3 hg3
              clear x0 x1 x2 x3 xf
              obtain ⟨x0, x1, x2, x3, xf⟩ := gs3b.cells
              obtain ⟨_, _, _, g5⟩ := gs3b.lt
              go_wp2_with fail
              refine (one_any g (q1 + 1) _ 2 _ [0, 5] _ (gs3b.alloc _).rd (by omega) (At.newAt 3 _ (by first | rfl | (simp; done))) (by rfl) (by first | omega | (simp; omega)) (by rfl) (by omega) (by omega)).mono ?_
              rintro e w4 ⟨x, rfl, hx, hg4, hr4⟩
              have gs4 := (gs3b.alloc _).pick hg4 hr4
              have ho4 : OwnS 76 2 hcells w4 w2.heap.size _ _ := (ho3.alloc _).kept hg4 (fun k hk e => by have := (ho3.lt k hk).1; injection e with e; omega)
              have hz4 : w2.heap.size ≤ w4.heap.size := by have := hg4.size; simp at this; omega
              clear hx hg4 hr4 gs3b ho3
              clear x0 x1 x2 x3 xf
              obtain ⟨_, _, _, g6⟩ := gs4.lt
              go_wp2_with fail
              refine (one_any g (q1 + 1 + 1) _ 2 _ [0, 5] _ (gs4.alloc _).rd (by omega) (At.new w4 3 _) (by rfl) (by omega) (by rfl) (by omega) (by omega)).mono ?_
              rintro e w5 ⟨z2, rfl, hx, hg5, hr5⟩
              have gs5 := (gs4.alloc _).pick hg5 hr5
              have ho5 : OwnS 76 2 hcells w5 w2.heap.size _ _ := (ho4.alloc _).kept hg5 (fun k hk e => by have := (ho4.lt k hk).1; injection e with e; omega)
              have hz5 : w2.heap.size ≤ w5.heap.size := by have := hg5.size; simp at this; omega
              clear hx hg5 hr5 gs4 ho4
              obtain ⟨_, _, _, g7⟩ := gs5.lt
              obtain ⟨x0, x1, x2, x3, xf⟩ := gs5.cells
              go_wp2_with (at_builtin; refine wpList_append_own _ rfl _ _ 24 rfl w2.heap.size 76 ih0 (.agg #[.int .i64 0, .int .i64 0]) 2 16 Try.underlying24 hih0 hzh0 hzh1 hzh2 rfl (by decide) _ _ _ rfl (ho5.alloc _).out ⟨w5.heap.size, 0, none⟩ 1 1 [.int .i64 x, .int .i64 z2] rfl rfl (by simpa using cells_new w5 _ _) ?c12_2 ?c13_2 ?c14_2 ?c15_2 ?_)
              case c12_2 => simp [Value.oneCell']
              case c13_2 => unfold maxLen; first | omega | (simp; done) | (simp; omega)
              case c14_2 => first | omega | (simp; done) | (simp; omega)
              case c15_2 => simp; omega
              case _ =>
                intro v6 w6 h6 hg6 _
                have ho6 : OwnS 76 2 hcells w6 w2.heap.size v6 (p.held ++ [⟨x, z2⟩]) := by unfold OwnS; rw [strip_snoc, List.length_append]; exact h6
                obtain ⟨Ad, cd, rfl, _, _, _⟩ := OwnS.form ho6
                have e6 : (p.held ++ [(⟨x, z2⟩ : Ho)]).length = (p.held.length + 1) := by simp
                have gs6 := (gs5.alloc (.cells #[.int .i64 x, .int .i64 z2] 76)).beside (M := w2.heap.size) hg6 (fun k hk => (ho5.lt k hk).1) (by omega) L1.out L2.out L3.out
                clear h6 hg6 gs5 ho5
                clear x0 x1 x2 x3 xf
                have og := gs6.own.swapHeld ho6 (by omega) L1.out L3.out
                obtain ⟨x0, x1, x2, x3, xf⟩ := gs6.cells
                have gs7 := gs6.set1 (R := ⟨p.mx, p.idle, p.held ++ [⟨x, z2⟩], p.wait⟩) og 2 (.slice Ad (p.held.length + 1) cd) (by simp)
                obtain ⟨_, _, _, g8⟩ := gs6.lt
                have gs6 := gs7
                obtain ⟨y0, y1, y2, y3, yf⟩ := gs6.cells
                obtain ⟨rc, rf⟩ := gs6.res
                have hne1 : ¬ w.heap.size = L := by omega
                have hne2 : ¬ L = w.heap.size := by omega
                obtain ⟨d1, d2, d3, d4⟩ := gs6.done (.int .i64 p.mx) (.slice A1 p.idle.length c1) (.slice Ad (p.held.length + 1) cd) (.slice A3 p.wait.length c3)
                go_wp2
                refine bodyPost_ret (v := .agg #[.int .i64 p.mx, .slice A1 p.idle.length c1, .slice Ad (p.held.length + 1) cd, .slice A3 p.wait.length c3]) (by simp [results, Try.results22, go_sem, d4.cell]) rfl ⟨_, _, _, _, _, _, ⟨p.mx, p.idle, p.held ++ [⟨x, z2⟩], p.wait⟩, q1 + 1 + 1 + 1, by simp, d1, d2, d3, by omega, show p.idle.length ≤ 7 by omega, by simp only []; rw [e6]; omega, show p.wait.length ≤ 13 by omega⟩
      · skip
        obtain ⟨x0, x1, x2, x3, xf⟩ := gs2.cells
        go_wp2_with fail
        refine (copyInts_any A3 c3 p.wait _ gs2.own.sees.wait (by omega)).mono ?_
        rintro e w3 ⟨v3, rfl, ho3, hb3⟩
        obtain ⟨Ac, cc, rfl, _⟩ := ho3.form
        have gs3 := gs2.below hb3
        have hz3 := hb3.size
        clear gs2 hb3
        clear x0 x1 x2 x3 xf
        obtain ⟨_, _, _, g5⟩ := gs3.lt
        go_wp2_with fail
        refine (one_any g (q1 + 1) _ 3 _ [0, 5, -1] _ (gs3.alloc _).rd (by omega) (At.new w3 3 _) (by rfl) (by omega) (by rfl) (by omega) (by omega)).mono ?_
        rintro e w4 ⟨x, rfl, hx, hg4, hr4⟩
        have gs4 := (gs3.alloc _).pick hg4 hr4
        have ho4 : Own w4 w2.heap.size _ _ := row_kept (ho3.alloc4 _).out hg4 (fun k hk e => by have := (ho3.out.lt k hk).1; injection e with e; omega)
        have hz4 : w2.heap.size ≤ w4.heap.size := by have := hg4.size; simp at this; omega
        clear hx hg4 hr4 gs3 ho3
        obtain ⟨_, _, _, g6⟩ := gs4.lt
        go_wp2_with (at_builtin; refine wpList_append_own _ rfl _ _ 23 rfl w2.heap.size 3 i0 (.int .i64 0) 1 8 Try.underlying23 hi0 hz0 hz1 hz2 rfl (by decide) _ _ _ rfl (ho4.alloc4 _).out ⟨w4.heap.size, 0, none⟩ 1 1 [.int .i64 x] rfl rfl (cell_one_new _ _ _) ?c2_3 ?c3_3 ?c4_3 ?c5_3 ?_)
        case c2_3 => simp [Value.oneCell']
        case c3_3 => unfold maxLen; omega
        case c4_3 => omega
        case c5_3 => simp; omega
        case _ =>
          intro v5 w5 h5 hg5 _
          have ho5 : Own w5 w2.heap.size v5 (p.wait ++ [x]) := by unfold Own; rw [ints_app, List.length_append]; exact h5
          obtain ⟨Ad, cd, rfl, _⟩ := ho5.form
          have e5 : (p.wait ++ [x]).length = p.wait.length + 1 := by simp
          have gs5 := (gs4.alloc (.cells #[.int .i64 x] 3)).beside (M := w2.heap.size) hg5 (fun k hk => (ho4.out.lt k hk).1) (by omega) L1.out L2.out L3.out
          clear h5 hg5 gs4 ho4
          have og := gs5.own.swapWait ho5 (by omega) L1.out L2.out
          obtain ⟨x0, x1, x2, x3, xf⟩ := gs5.cells
          have gs6 := gs5.set1 (R := ⟨p.mx, p.idle, p.held, p.wait ++ [x]⟩) og 3 (.slice Ad (p.wait.length + 1) cd) (by simp)
          obtain ⟨_, _, _, g7⟩ := gs5.lt
          obtain ⟨y0, y1, y2, y3, yf⟩ := gs6.cells
          obtain ⟨rc, rf⟩ := gs6.res
          have hne1 : ¬ w.heap.size = L := by omega
          have hne2 : ¬ L = w.heap.size := by omega
          obtain ⟨d1, d2, d3, d4⟩ := gs6.done (.int .i64 p.mx) (.slice A1 p.idle.length c1) (.slice A2 p.held.length c2) (.slice Ad (p.wait.length + 1) cd)
          go_wp2
          refine bodyPost_ret (v := .agg #[.int .i64 p.mx, .slice A1 p.idle.length c1, .slice A2 p.held.length c2, .slice Ad (p.wait.length + 1) cd]) (by simp [results, Try.results22, go_sem, d4.cell]) rfl ⟨_, _, _, _, _, _, ⟨p.mx, p.idle, p.held, p.wait ++ [x]⟩, q1 + 1 + 1, by simp, d1, d2, d3, by omega, show p.idle.length ≤ 7 by omega, show p.held.length ≤ 7 by omega, by simp only []; rw [e5]; omega⟩
    · skip
      obtain ⟨x0, x1, x2, x3, xf⟩ := gs2.cells
      go_wp2_with fail
      refine (copyInts_any A1 c1 p.idle _ gs2.own.sees.idle (by omega)).mono ?_
      rintro e w3 ⟨v3, rfl, ho3, hb3⟩
      obtain ⟨Ac, cc, rfl, _⟩ := ho3.form
      have gs3 := gs2.below hb3
      have hz3 := hb3.size
      clear gs2 hb3
      clear x0 x1 x2 x3 xf
      obtain ⟨_, _, _, g5⟩ := gs3.lt
      go_wp2_with fail
      refine (one_any g (q1 + 1) _ 3 _ [0, 5, -1] _ (gs3.alloc _).rd (by omega) (At.new w3 3 _) (by rfl) (by omega) (by rfl) (by omega) (by omega)).mono ?_
      rintro e w4 ⟨x, rfl, hx, hg4, hr4⟩
      have gs4 := (gs3.alloc _).pick hg4 hr4
      have ho4 : Own w4 w2.heap.size _ _ := row_kept (ho3.alloc4 _).out hg4 (fun k hk e => by have := (ho3.out.lt k hk).1; injection e with e; omega)
      have hz4 : w2.heap.size ≤ w4.heap.size := by have := hg4.size; simp at this; omega
      clear hx hg4 hr4 gs3 ho3
      obtain ⟨_, _, _, g6⟩ := gs4.lt
      go_wp2_with (at_builtin; refine wpList_append_own _ rfl _ _ 23 rfl w2.heap.size 3 i0 (.int .i64 0) 1 8 Try.underlying23 hi0 hz0 hz1 hz2 rfl (by decide) _ _ _ rfl (ho4.alloc4 _).out ⟨w4.heap.size, 0, none⟩ 1 1 [.int .i64 x] rfl rfl (cell_one_new _ _ _) ?c2_4 ?c3_4 ?c4_4 ?c5_4 ?_)
      case c2_4 => simp [Value.oneCell']
      case c3_4 => unfold maxLen; omega
      case c4_4 => omega
      case c5_4 => simp; omega
      case _ =>
        intro v5 w5 h5 hg5 _
        have ho5 : Own w5 w2.heap.size v5 (p.idle ++ [x]) := by unfold Own; rw [ints_app, List.length_append]; exact h5
        obtain ⟨Ad, cd, rfl, _⟩ := ho5.form
        have e5 : (p.idle ++ [x]).length = p.idle.length + 1 := by simp
        have gs5 := (gs4.alloc (.cells #[.int .i64 x] 3)).beside (M := w2.heap.size) hg5 (fun k hk => (ho4.out.lt k hk).1) (by omega) L1.out L2.out L3.out
        clear h5 hg5 gs4 ho4
        have og := gs5.own.swapIdle ho5 (by omega) L2.out L3.out
        obtain ⟨x0, x1, x2, x3, xf⟩ := gs5.cells
        have gs6 := gs5.set1 (R := ⟨p.mx, p.idle ++ [x], p.held, p.wait⟩) og 1 (.slice Ad (p.idle.length + 1) cd) (by simp)
        obtain ⟨_, _, _, g7⟩ := gs5.lt
        obtain ⟨y0, y1, y2, y3, yf⟩ := gs6.cells
        obtain ⟨rc, rf⟩ := gs6.res
        have hne1 : ¬ w.heap.size = L := by omega
        have hne2 : ¬ L = w.heap.size := by omega
        obtain ⟨d1, d2, d3, d4⟩ := gs6.done (.int .i64 p.mx) (.slice Ad (p.idle.length + 1) cd) (.slice A2 p.held.length c2) (.slice A3 p.wait.length c3)
        go_wp2
        refine bodyPost_ret (v := .agg #[.int .i64 p.mx, .slice Ad (p.idle.length + 1) cd, .slice A2 p.held.length c2, .slice A3 p.wait.length c3]) (by simp [results, Try.results22, go_sem, d4.cell]) rfl ⟨_, _, _, _, _, _, ⟨p.mx, p.idle ++ [x], p.held, p.wait⟩, q1 + 1 + 1, by simp, d1, d2, d3, by omega, by simp only []; rw [e5]; omega, show p.held.length ≤ 7 by omega, show p.wait.length ≤ 13 by omega⟩
  · skip
    go_wp2_with fail
    refine (one_any g (q1 + 1) _ 3 _ [0, 7, 1] _ (gs2.alloc _).rd (by omega) (At.new w2 3 _) (by rfl) (by omega) (by rfl) (by omega) (by omega)).mono ?_
    rintro e w3 ⟨x, rfl, hx, hg3, hr3⟩
    have gs3 := (gs2.alloc _).pick hg3 hr3
    clear hx hg3 hr3 gs2
    obtain ⟨x0, x1, x2, x3, xf⟩ := gs3.cells
    have gs4 := gs3.set1 (R := ⟨x, p.idle, p.held, p.wait⟩) gs3.own 0 (.int .i64 x) (by simp)
    obtain ⟨_, _, _, g5⟩ := gs3.lt
    obtain ⟨y0, y1, y2, y3, yf⟩ := gs4.cells
    obtain ⟨rc, rf⟩ := gs4.res
    have hne1 : ¬ w.heap.size = L := by omega
    have hne2 : ¬ L = w.heap.size := by omega
    obtain ⟨d1, d2, d3, d4⟩ := gs4.done (.int .i64 x) (.slice A1 p.idle.length c1) (.slice A2 p.held.length c2) (.slice A3 p.wait.length c3)
    go_wp2
    refine bodyPost_ret (v := .agg #[.int .i64 x, .slice A1 p.idle.length c1, .slice A2 p.held.length c2, .slice A3 p.wait.length c3]) (by simp [results, Try.results22, go_sem, d4.cell]) rfl ⟨_, _, _, _, _, _, ⟨x, p.idle, p.held, p.wait⟩, q1 + 1 + 1, rfl, d1, d2, d3, by omega, show p.idle.length ≤ 7 by omega, show p.held.length ≤ 7 by omega, show p.wait.length ≤ 13 by omega⟩
end Go.Proofs.Ytehdbllpiokbnab

/-
  What the model's someLeases and anyLeases answer: some leases. Condition: the reader stands at a place below 1000.
-/
import Derived.Test.YtmaocmgnkdieeaaLsH
import Derived.Test.YtmaocmgnkdieeaaReadB
namespace Go.Proofs.Ytmaocmgnkdieeaa
open Go.RowKit Lse

/-- What draws leases answers: some leases, at most 13, of its own; only the reader's block has changed. -/
def LeasesAns (m d : Nat) (w : World) (g p : Nat) (e : Ending) (w' : World) : Prop :=
  ∃ (A : Option Addr) (c : Nat) (l : List L) (q : Nat), e = .returned (.slice A l.length c) ∧ OwnL w' w.heap.size (.slice A l.length c) l ∧ l.length ≤ m ∧ w.grownBy w' (some g) ∧ Rd w' g q ∧ q ≤ p + d

/-- The generator between two steps: its list, the reader, and nothing else changed. -/
def GL (w0 wr : World) (g q : Nat) (v : Value) (l : List L) : Prop := OwnL wr w0.heap.size v l ∧ Rd wr g q ∧ w0.grownBy wr (some g) ∧ g < w0.heap.size
section
variable {w0 wr w' : World} {g q q' : Nat} {v v' : Value} {l l' : List L}
theorem GL.below (h : GL w0 wr g q v l) (hb : Below wr.heap.size wr w') : GL w0 w' g q v l := by
  obtain ⟨h1, h2, h3, h4⟩ := h
  exact ⟨h1.below hb, h2.below hb h2.lt, grown_trans h3 (grown_of_below hb _), h4⟩
theorem GL.alloc (h : GL w0 wr g q v l) (o : Obj) : GL w0 (wr.alloc o) g q v l := h.below ((Below.refl _ _).alloc (Nat.le_refl _) o)
theorem GL.pick (h : GL w0 wr g q v l) (hg : wr.grownBy w' (some g)) (hr : Rd w' g q') : GL w0 w' g q' v l := by
  obtain ⟨h1, h2, h3, h4⟩ := h
  exact ⟨h1.kept hg (fun k hk e => by injection e with e; have := (h1.lt k hk).1; omega), hr, grown_trans h3 hg, h4⟩
theorem GL.lt (h : GL w0 wr g q v l) : g < w0.heap.size ∧ w0.heap.size ≤ wr.heap.size ∧ g < wr.heap.size := ⟨h.2.2.2, h.2.2.1.size, h.2.1.lt⟩
theorem GL.form (h : GL w0 wr g q v l) : ∃ A c, v = .slice A l.length c ∧ l.length ≤ c ∧ c ≤ maxLen ∧ Sees wr wr.heap.size A (lvals l) := OwnS.form h.1
end

set_option maxHeartbeats 2000000 in
theorem someLeases_any (g p : Nat) (w : World) (h : Rd w g p) (hp : p < 1000) :
    Calls Try.prog 24 #[.pointer (some ⟨g, 0, none⟩)] w (LeasesAns 12 65 w g p) := by
  have hg := h.lt
  have gl0 : GL w (w.alloc (.cells #[] 30)) g p (.slice (some ⟨w.heap.size, 0, none⟩) 0 0) [] :=
    ⟨OwnS.made w (Nat.le_refl _), h.alloc _, grown_of_below ((Below.refl _ _).alloc (Nat.le_refl _) _) _, hg⟩
  go_enter Try.func24, Try.ntmps24
  go_wp2_with fail
  refine (one_any g p _ 7 _ [5, 8, 3, 12, 1, 0, 16] _ (gl0.alloc _).2.1 (by omega) (At.newAt 3 _ (by simp)) (by rfl) (by omega) (by rfl) (by omega) (by omega)).mono ?_
  rintro e w1 ⟨n0, rfl, hn0, hg1, hr1⟩
  have hn0' : ∃ k : Nat, n0 = k ∧ k ≤ 16 := ⟨n0.toNat, by simp at hn0; omega, by simp at hn0; omega⟩
  obtain ⟨k0, rfl, hk0⟩ := hn0'
  clear hn0
  have gl1 := (gl0.alloc _).pick hg1 hr1
  clear hg1 hr1 gl0
  go_wp2_with fail
  go_loopw [3, 4] (fun v i wr => ∃ (k q : Nat) (A : Option Addr) (c : Nat) (l : List L), i = .int .i64 k ∧ k ≤ 16 ∧ q + 4 * k ≤ p + 65 ∧ v = .slice A l.length c ∧ l.length ≤ 12 ∧ GL w wr g q (.slice A l.length c) l) (fun _ i _ => (intOf i).toNat)
  case atStart => exact ⟨k0, p + 1, _, _, [], rfl, hk0, by omega, rfl, by simp, gl1⟩
  case round =>
    clear gl1
    obtain ⟨k, q, A, c, l, rfl, hk, hq, rfl, hl, gl⟩ := hrel
    obtain ⟨z1, z2, z3⟩ := gl.lt
    by_cases hk0 : 0 < k
    · have hki : (0 : Int) < (k : Int) := by omega
      go_wp2_with fail
      refine (pick_any g q 60 _ gl.2.1 (by omega)).mono ?_
      rintro e w2 ⟨f, rfl, hf0, hf1, hg2, hr2⟩
      have gl2 := gl.pick hg2 hr2
      have hf2 := hf1 (by omega)
      clear hg2 hr2 hf1 gl
      go_wp2_with fail
      refine (pick_any g (q + 1) 4 _ gl2.2.1 (by omega)).mono ?_
      rintro e w3 ⟨c1, rfl, hc0, hc1, hg3, hr3⟩
      have gl3 := gl2.pick hg3 hr3
      clear hg3 hr3 hc1 gl2
      go_wp2_with fail
      refine (pick_any g (q + 1 + 1) 5 _ gl3.2.1 (by omega)).mono ?_
      rintro e w4 ⟨o1, rfl, ho0, ho1, hg4, hr4⟩
      have gl4 := gl3.pick hg4 hr4
      clear hg4 hr4 ho1 gl3
      go_wp2_with fail
      refine (pick_any g (q + 1 + 1 + 1) 30 _ gl4.2.1 (by omega)).mono ?_
      rintro e w5 ⟨u1, rfl, hu0, hu1, hg5, hr5⟩
      have gl5 := gl4.pick hg5 hr5
      have hu2 := hu1 (by omega)
      clear hg5 hr5 hu1 gl4
      obtain ⟨_, z5, z6⟩ := gl5.lt
      have hs5 := gl5.1.sees
      have hwr : IntKind.i64.wrap (f + 1 + u1) = f + 1 + u1 := by rw [IntKind.wrap_i64]; omega
      go_wp2_with fail
      refine (sAddLease_any A c l ⟨c1, o1, f, f + 1 + u1⟩ _ hs5 (by omega)).mono ?_
      rintro e w6 ⟨v6, rfl, ho6, hb6⟩
      have gl6 := gl5.below hb6
      clear gl5 hs5
      obtain ⟨A6, c6, rfl, hc6, _, _⟩ := ho6.form
      have hv6 := hb6.size
      clear hc6 hb6 hwr
      rcases hb : addB l ⟨c1, o1, f, f + 1 + u1⟩ with _ | _
      · have HB := hid hb
        clear hb
        go_wp2
        go_roundw
        case rel => exact ⟨k - 1, q + 1 + 1 + 1 + 1, A, c, l, by go_num, by omega, by omega, rfl, hl, gl6⟩
        case measure => simp [intOf]; omega
      · have hl' : (addL l ⟨c1, o1, f, f + 1 + u1⟩).length ≤ 12 := by
          rw [add_yes hb]
          simp only [addB, Bool.and_eq_true] at hb
          exact valid_len hb.2
        have HB := hid hb
        clear hb
        obtain ⟨l', hl2⟩ : ∃ y, y = addL l ⟨c1, o1, f, f + 1 + u1⟩ := ⟨_, rfl⟩
        rw [← hl2] at ho6 hl'
        rw [← hl2]
        clear hl2
        obtain ⟨_, r2, r3, r4⟩ := gl6
        have gl7 : GL w w6 g (q + 1 + 1 + 1 + 1) (.slice A6 l'.length c6) l' := ⟨ho6.mono (by omega), r2, r3, r4⟩
        clear r2 r3 ho6
        go_wp2
        go_roundw
        case rel => exact ⟨k - 1, q + 1 + 1 + 1 + 1, A6, c6, l', by go_num, by omega, by omega, rfl, hl', gl7⟩
        case measure => simp [intOf]; omega
    · have hki : ¬ (0 : Int) < (k : Int) := by omega
      go_wp2
      go_ret
      exact ⟨A, c, l, q, rfl, gl.1, hl, gl.2.2.1, gl.2.1, by omega⟩

set_option maxHeartbeats 4000000 in
theorem anyLeases_any (g p : Nat) (w : World) (h : Rd w g p) (hp : p < 1000) :
    Calls Try.prog 12 #[.pointer (some ⟨g, 0, none⟩)] w (LeasesAns 13 70 w g p) := by
  have hg := h.lt
  obtain ⟨i0, hi0, hz0, hz1, hz2⟩ := info_parts leaseInfo
  go_enter Try.func12, Try.ntmps12
  go_wp2_with fail
  refine (someLeases_any g p _ h hp).mono ?_
  rintro e w1 ⟨A, c, l, q, rfl, ho1, hl, hg1, hr1, hq⟩
  have gl1 : GL w w1 g q (.slice A l.length c) l := ⟨ho1, hr1, hg1, hg⟩
  clear ho1 hg1 hr1
  go_wp2_with fail
  refine (pick_any g q 14 _ gl1.2.1 (by omega)).mono ?_
  rintro e w2 ⟨x, rfl, hx0, hx1, hg2, hr2⟩
  have gl2 := gl1.pick hg2 hr2
  clear hg2 hr2 hx1 gl1
  rcases hx : (x == 0) with _ | _
  · go_wp2
    go_ret
    exact ⟨A, c, l, q + 1, rfl, gl2.1, by omega, gl2.2.2.1, gl2.2.1, by omega⟩
  · obtain ⟨_, z2, z3⟩ := gl2.lt
    go_wp2_with fail
    refine (one_any g (q + 1) _ 4 _ [0, 5, 6, -1] _ (gl2.alloc _).2.1 (by omega) (At.new w2 3 _) (by rfl) (by omega) (by rfl) (by omega) (by omega)).mono ?_
    rintro e w3 ⟨y1, rfl, hy1, hg3, hr3⟩
    have gl3 := (gl2.alloc _).pick hg3 hr3
    clear hg3 hr3 hy1 gl2
    obtain ⟨_, z2, z3⟩ := gl3.lt
    go_wp2_with fail
    refine (one_any g (q + 1 + 1) _ 3 _ [0, 4, 5] _ (gl3.alloc _).2.1 (by omega) (At.new w3 3 _) (by rfl) (by omega) (by rfl) (by omega) (by omega)).mono ?_
    rintro e w4 ⟨y2, rfl, hy2, hg4, hr4⟩
    have gl4 := (gl3.alloc _).pick hg4 hr4
    clear hg4 hr4 hy2 gl3
    obtain ⟨_, z2, z3⟩ := gl4.lt
    go_wp2_with fail
    refine (one_any g (q + 1 + 1 + 1) _ 3 _ [10, 999, 1000] _ (gl4.alloc _).2.1 (by omega) (At.new w4 3 _) (by rfl) (by omega) (by rfl) (by omega) (by omega)).mono ?_
    rintro e w5 ⟨y3, rfl, hy3, hg5, hr5⟩
    have gl5 := (gl4.alloc _).pick hg5 hr5
    clear hg5 hr5 hy3 gl4
    obtain ⟨_, z2, z3⟩ := gl5.lt
    go_wp2_with fail
    refine (one_any g (q + 1 + 1 + 1 + 1) _ 4 _ [20, 10, 1000, 1001] _ (gl5.alloc _).2.1 (by omega) (At.new w5 3 _) (by rfl) (by omega) (by rfl) (by omega) (by omega)).mono ?_
    rintro e w6 ⟨y4, rfl, hy4, hg6, hr6⟩
    have gl6 := (gl5.alloc _).pick hg6 hr6
    clear hg6 hr6 hy4 gl5
    obtain ⟨_, z2, z3⟩ := gl6.lt
    have gl7 := gl6.alloc (.cells #[.int .i64 y1, .int .i64 y2, .int .i64 y3, .int .i64 y4] 30)
    go_wp2_with (at_builtin; refine wpList_append_own _ rfl _ _ 23 rfl w.heap.size 30 i0 (.agg #[.int .i64 0, .int .i64 0, .int .i64 0, .int .i64 0]) 4 32 Try.underlying23 hi0 hz0 hz1 hz2 rfl (by decide) _ _ _ rfl gl7.1.out ⟨w6.heap.size, 0, none⟩ 1 1 [.int .i64 y1, .int .i64 y2, .int .i64 y3, .int .i64 y4] rfl rfl (by simpa using cells_new w6 _ _) ?c2 ?c3 ?c4 ?c5 ?_)
    case c2 => simp [Value.oneCell']
    case c3 => unfold maxLen; omega
    case c4 => omega
    case c5 => simp; omega
    case _ =>
      intro v7 w7 h7 hg7 _
      have hb7 : Below w.heap.size (w6.alloc (.cells #[.int .i64 y1, .int .i64 y2, .int .i64 y3, .int .i64 y4] 30)) w7 := (Below.refl _ _).grown hg7 gl7.2.2.1.size (fun k hk => (gl7.1.lt k hk).1)
      have ho7 : OwnL w7 w.heap.size v7 (l ++ [⟨y1, y2, y3, y4⟩]) := by
        unfold OwnL OwnS
        rw [strip_snoc, List.length_append]
        exact h7
      have hr7 : w.grownBy w7 (some g) := ⟨hb7.os.trans gl7.2.2.1.os, hb7.tape.trans gl7.2.2.1.tape, hb7.output.trans gl7.2.2.1.output, Nat.le_trans gl7.2.2.1.size hb7.size, fun i hi hn => (hb7.block i hi).trans (gl7.2.2.1.block i hi hn)⟩
      have hd7 := gl7.2.1.below hb7 hg
      obtain ⟨A7, c7, rfl, _, _, _⟩ := ho7.form
      clear h7 hg7 hb7
      rw [show (l ++ [(⟨y1, y2, y3, y4⟩ : L)]).length = l.length + 1 by simp] at ho7
      go_wp2
      go_ret
      exact ⟨A7, c7, l ++ [⟨y1, y2, y3, y4⟩], q + 1 + 1 + 1 + 1 + 1, by simp, by rw [show (l ++ [(⟨y1, y2, y3, y4⟩ : L)]).length = l.length + 1 by simp]; exact ho7, by simp; omega, hr7, hd7, by omega⟩

end Go.Proofs.Ytmaocmgnkdieeaa

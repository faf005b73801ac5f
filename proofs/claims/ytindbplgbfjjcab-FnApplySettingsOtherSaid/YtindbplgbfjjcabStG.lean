/-
  What the model's anySettings and the functions answer that draw the arguments of the laws on settings. Condition: the reader stands at a place below 1000; the code is at most 2^20 bytes.
-/
import Derived.Test.YtindbplgbfjjcabStB
import Derived.Test.YtindbplgbfjjcabDraws
import Derived.Test.YtindbplgbfjjcabReadB
import Derived.Test.YtindbplgbfjjcabSeesF
import Derived.Test.YtindbplgbfjjcabSsSetting
namespace Go.Proofs.Ytindbplgbfjjcab
open Go.RowKit Stt

abbrev GT := GLs (α := Stg) 31 2 stcl
abbrev DTs := DLs (α := Stg) 31 2 stcl 11
theorem own_blockT {w : World} {base : Nat} {t : TypeId} {s n : Nat} {v : Value} {xs : List Value} (h : w.ownsRow base t s v n xs) (hn : 0 < n) : ∃ g c, v = .slice (some ⟨g, 0, none⟩) n c ∧ n ≤ c ∧ c ≤ maxLen := by
  rcases h.2 with ⟨_, e⟩ | ⟨g, cap, cur, e, _, _, h1, h2, _⟩
  · omega
  · exact ⟨g, cap, e, h1, h2⟩
set_option maxHeartbeats 4000000 in
theorem anySettings_any (g p : Nat) (w : World) (h : Rd w g p) (hp : p < 1000) :
    Calls Try.prog 23 #[.pointer (some ⟨g, 0, none⟩)] w (ListAns (α := Stg) 31 2 stcl 11 30 w g p) := by
  have hg := h.lt
  obtain ⟨i0, hi0, hz0, hz1, hz2⟩ := info_parts stgInfo
  have gl0 : GT w (w.alloc (.cells #[] 31)) g p (.slice (some ⟨w.heap.size, 0, none⟩) 0 0) [] := ⟨made_at 31 2 rfl (Nat.le_refl _), h.alloc _, grown_of_below ((Below.refl _ _).alloc (Nat.le_refl _) _) _, hg⟩
  go_enter Try.func23, Try.ntmps23
  go_wp2
  go_loopw [3, 4] (fun v i wr => ∃ (k q : Nat) (A : Option Addr) (c : Nat) (l : List Stg), i = .int .i64 k ∧ k ≤ 10 ∧ l.length ≤ k ∧ q ≤ p + 2 * k ∧ v = .slice A l.length c ∧ GT w wr g q (.slice A l.length c) l) (fun _ i _ => 10 - (intOf i).toNat)
  case atStart => exact ⟨0, p, _, _, [], rfl, by decide, Nat.le_refl _, by omega, rfl, gl0⟩
  case round =>
    clear gl0
    obtain ⟨k, q, A, c, l, rfl, hk, hl, hq, rfl, gl⟩ := hrel
    obtain ⟨z1, z2, z3⟩ := gl.lt
    by_cases hlt : k < 10
    · have hi : (k : Int) < 10 := by omega
      go_wp2_with fail
      refine (pick_any g q 3 _ gl.rd (by omega)).mono ?_
      rintro e w2 ⟨x1, rfl, hx0, hx1, hg2, hr2⟩
      have gl2 := gl.pick hg2 hr2
      clear hg2 hr2 hx0 hx1 gl
      obtain ⟨_, z5, z6⟩ := gl2.lt
      rcases hx : (x1 == 0) with _ | _
      · go_wp2
        go_roundw
        case rel => exact ⟨k + 1, q + 1, A, c, l, by go_num, by omega, by omega, by omega, rfl, gl2⟩
        case measure => simp [intOf]; omega
      · go_wp2_with fail
        refine (pick_any g (q + 1) 21 _ gl2.rd (by omega)).mono ?_
        rintro e w3 ⟨x2, rfl, hx0, hx1, hg3, hr3⟩
        have gl3 := gl2.pick hg3 hr3
        clear hg3 hr3 hx0 hx1 gl2
        obtain ⟨_, z5, z6⟩ := gl3.lt
        go_wp2_with (at_builtin; refine wpList_append_own _ rfl _ _ 23 rfl (w.heap.size) 31 i0 (.agg #[.int .i64 0, .int .i64 0]) 2 16 Try.underlying23 hi0 hz0 hz1 hz2 rfl (by decide) _ _ _ rfl ((gl3.alloc _).own).out ⟨w3.heap.size, 0, none⟩ 1 1 [.int .i64 k, .int .i64 x2] rfl rfl (by simpa using cells_new (w3) [.int .i64 k, .int .i64 x2] 31) ?d12 ?d13 ?d14 ?d15 ?_)
        case d12 => simp [Value.oneCell']
        case d13 => unfold maxLen; omega
        case d14 => omega
        try (case d15 => first | omega | (simp; omega) | (simp; done))
        case _ =>
          intro v1 w5 h1 hg5 _
          have gl5 := gl3.snoc (x := ⟨k, x2⟩) h1 hg5
          obtain ⟨A5, c5, rfl, _, _, _⟩ := OwnS.form gl5.own
          have e5 : (l ++ [(⟨k, x2⟩ : Stg)]).length = l.length + 1 := by simp
          clear h1 hg5 gl3
          rw [e5] at gl5
          go_wp2
          go_roundw
          case rel => exact ⟨k + 1, q + 1 + 1, A5, c5, l ++ [⟨k, x2⟩], by go_num, by omega, by rw [e5]; omega, by omega, by rw [e5], by rw [e5]; exact gl5⟩
          case measure => simp [intOf]; omega
    · have hi : ¬ (k : Int) < 10 := by omega
      go_wp2_with fail
      refine (pick_any g q 14 _ gl.rd (by omega)).mono ?_
      rintro e w2 ⟨x, rfl, hx0, hx1, hg2, hr2⟩
      have gl2 := gl.pick hg2 hr2
      clear hg2 hr2 hx0 hx1 gl
      rcases hx : (x == 0) with _ | _
      · go_wp2
        go_ret
        exact ⟨A, c, l, q + 1, rfl, gl2, by omega, by omega⟩
      · obtain ⟨_, z5, z6⟩ := gl2.lt
        go_wp2_with fail
        refine (one_any g (q + 1) _ 3 _ [10, 3, -1] _ (gl2.alloc _).rd (by omega) (At.new w2 3 _) (by rfl) (by omega) (by rfl) (by omega) (by omega)).mono ?_
        rintro e w4 ⟨y1, rfl, hy1, hg4, hr4⟩
        have gl4 := (gl2.alloc _).pick hg4 hr4
        clear hg4 hr4 hy1 gl2
        obtain ⟨_, z5, z6⟩ := gl4.lt
        go_wp2_with fail
        refine (one_any g (q + 1 + 1) _ 3 _ [21, 5, -1] _ (gl4.alloc _).rd (by omega) (At.new w4 3 _) (by rfl) (by omega) (by rfl) (by omega) (by omega)).mono ?_
        rintro e w5 ⟨y2, rfl, hy2, hg5, hr5⟩
        have gl5 := (gl4.alloc _).pick hg5 hr5
        clear hg5 hr5 hy2 gl4
        obtain ⟨_, z5, z6⟩ := gl5.lt
        go_wp2_with (at_builtin; refine wpList_append_own _ rfl _ _ 23 rfl (w.heap.size) 31 i0 (.agg #[.int .i64 0, .int .i64 0]) 2 16 Try.underlying23 hi0 hz0 hz1 hz2 rfl (by decide) _ _ _ rfl ((gl5.alloc _).own).out ⟨w5.heap.size, 0, none⟩ 1 1 [.int .i64 y1, .int .i64 y2] rfl rfl (by simpa using cells_new (w5) [.int .i64 y1, .int .i64 y2] 31) ?e22 ?e23 ?e24 ?e25 ?_)
        case e22 => simp [Value.oneCell']
        case e23 => unfold maxLen; omega
        case e24 => omega
        try (case e25 => first | omega | (simp; omega) | (simp; done))
        case _ =>
          intro v1 w6 h1 hg6 _
          have gl6 := gl5.snoc (x := ⟨y1, y2⟩) h1 hg6
          obtain ⟨A6, c6, rfl, _, _, _⟩ := OwnS.form gl6.own
          have e6 : (l ++ [(⟨y1, y2⟩ : Stg)]).length = l.length + 1 := by simp
          clear h1 hg6 gl5
          rw [e6] at gl6
          go_wp2
          go_ret
          exact ⟨A6, c6, l ++ [⟨y1, y2⟩], q + 1 + 1 + 1, by rw [e6]; rfl, by rw [e6]; exact gl6, by rw [e6]; omega, by omega⟩

def StD0 (w : World) (e : Ending) (w' : World) : Prop := ∃ A c l, e = .returned (.slice A (List.length l) c) ∧ DTs w w' A c l
/-- Two lists of settings that were drawn; nothing that was there has changed. -/
def DT2 (w w' : World) (A : Option Addr) (c : Nat) (l : List Stg) (A2 : Option Addr) (c2 : Nat) (m : List Stg) : Prop :=
  Sees w' w'.heap.size A (strip stcl l) ∧ Sees w' w'.heap.size A2 (strip stcl m) ∧ Below w.heap.size w w' ∧ l.length ≤ 17 ∧ l.length ≤ c ∧ m.length ≤ 17 ∧ m.length ≤ c2 ∧ c2 ≤ maxLen
section
variable {w w' w'' : World} {A A2 : Option Addr} {c c2 : Nat} {l m : List Stg}
theorem DT2.below (h : DT2 w w' A c l A2 c2 m) (hb : Below w'.heap.size w' w'') : DT2 w w'' A c l A2 c2 m := by
  obtain ⟨h1, h2, h3, h4⟩ := h
  exact ⟨(h1.below hb).more hb.size, (h2.below hb).more hb.size, h3.trans (hb.mono h3.size), h4⟩
theorem DT2.drewN (h : DT2 w w' A c l A2 c2 m) (k : Nat) : DT2 w (w'.drewN k) A c l A2 c2 m := h.below (below_drewN (Below.refl _ _) k)
theorem DT2.drew (h : DT2 w w' A c l A2 c2 m) : DT2 w w'.drew A c l A2 c2 m := h.below ((Below.refl _ _).drew)
theorem DT2.alloc (h : DT2 w w' A c l A2 c2 m) (o : Obj) : DT2 w (w'.alloc o) A c l A2 c2 m := h.below ((Below.refl _ _).alloc (Nat.le_refl _) o)
theorem DT2.s1 (h : DT2 w w' A c l A2 c2 m) : Sees w' w'.heap.size A (strip stcl l) := h.1
theorem DT2.s2 (h : DT2 w w' A c l A2 c2 m) : Sees w' w'.heap.size A2 (strip stcl m) := h.2.1
theorem DT2.bel (h : DT2 w w' A c l A2 c2 m) : Below w.heap.size w w' := h.2.2.1
theorem DT2.n1 (h : DT2 w w' A c l A2 c2 m) : l.length ≤ 4194304 := Nat.le_trans h.2.2.2.1 (by decide)
theorem DT2.n2 (h : DT2 w w' A c l A2 c2 m) : m.length ≤ 4194304 := Nat.le_trans h.2.2.2.2.2.1 (by decide)
end
def StD2 (w : World) (e : Ending) (w' : World) : Prop := ∃ A c l A2 c2 m, e = .returned (.tuple #[.slice A (List.length l) c, .slice A2 (List.length m) c2]) ∧ DT2 w w' A c l A2 c2 m
set_option maxHeartbeats 2000000 in
theorem drawResetPlan_any (A : Option Addr) (n c : Nat) (zs : List Int) (w : World) (h : Sees w w.heap.size A (byts zs)) (hz : ∀ z ∈ zs, 0 ≤ z ∧ z ≤ 255) (hn : zs.length = n) (hc : n ≤ c) (hm : n ≤ 1048576) (hcc : c ≤ maxLen) :
    Calls Try.prog 16 #[.slice A n c] w (StD2 w) := by
  have HZ := hid hz
  have HE := hid hn
  have HC := hid hcc
  clear hz hn hcc
  go_enter Try.func16, Try.ntmps16
  go_wp2_with fail
  refine (newReader_any A n c zs _ h HZ.out HE.out hc hm HC.out).mono ?_
  rintro e w1 ⟨rfl, hb1, hr1⟩
  go_wp2_with fail
  refine (anySettings_any w.heap.size 0 _ hr1 (by omega)).mono ?_
  rintro e w2 ⟨A2, c2, l, q, rfl, gl, hl, hq⟩
  obtain ⟨A', c', e', hc2, _, _⟩ := OwnS.form gl.own
  injection e' with e1 _ e'
  subst e1
  subst e'
  have hd := DLs.of_gl (m := 11) hb1 gl (Nat.le_refl _) hl
  obtain ⟨y1, y2, y3⟩ := gl.lt
  have hS : SeesF w2 (fun b => b = w.heap.size) A2 (strip stcl l) := SeesF.of_row gl.own.out (fun b h1 h2 h3 => by omega)
  have hr2 := gl.rd
  have hbw := hd.bel
  clear gl hd hb1 hr1
  go_wp2_with fail
  refine (anySettings_any w.heap.size q _ hr2 (by omega)).mono ?_
  rintro e w3 ⟨A3, c3, m, q3, rfl, gl, hl3, hq3⟩
  obtain ⟨A'', c'', e'', hc3, hcm, _⟩ := OwnS.form gl.own
  injection e'' with e1 _ e''
  subst e1
  subst e''
  have hS3 := hS.grown gl.grow (fun b e => by injection e with e; exact e.symm)
  have hB3 := hbw.trans (below_of_grown gl.grow (B := w.heap.size) (Nat.le_refl _) (by omega))
  go_wp2
  go_ret2
  exact ⟨A2, c2, l, A3, c3, m, rfl, hS3.sees, gl.own.sees, hB3, by omega, hc2, by omega, hc3, hcm⟩

set_option maxHeartbeats 4000000 in
theorem drawApplySettings_any (A : Option Addr) (n c : Nat) (zs : List Int) (w : World) (h : Sees w w.heap.size A (byts zs)) (hz : ∀ z ∈ zs, 0 ≤ z ∧ z ≤ 255) (hn : zs.length = n) (hc : n ≤ c) (hm : n ≤ 1048576) (hcc : c ≤ maxLen) :
    Calls Try.prog 10 #[.slice A n c] w (StD2 w) := by
  have HZ := hid hz
  have HE := hid hn
  have HC := hid hcc
  clear hz hn hcc
  obtain ⟨i0, hi0, hz0, hz1, hz2⟩ := info_parts stgInfo
  go_enter Try.func10, Try.ntmps10
  go_wp2_with fail
  refine (newReader_any A n c zs _ h HZ.out HE.out hc hm HC.out).mono ?_
  rintro e w1 ⟨rfl, hb1, hr1⟩
  go_wp2_with fail
  refine (anySettings_any w.heap.size 0 _ hr1 (by omega)).mono ?_
  rintro e w2 ⟨A2, c2, l, q, rfl, gl, hl, hq⟩
  obtain ⟨A', c', e', hc2, _, _⟩ := OwnS.form gl.own
  injection e' with e1 _ e'
  subst e1
  subst e'
  have hd := DLs.of_gl (m := 11) hb1 gl (Nat.le_refl _) hl
  obtain ⟨y1, y2, y3⟩ := gl.lt
  have hS : SeesF w2 (fun b => b = w.heap.size ∨ w2.heap.size ≤ b) A2 (strip stcl l) := SeesF.of_row gl.own.out (fun b h1 h2 h3 => by omega)
  have hr2 := gl.rd
  have hbw := hd.bel
  clear gl hd hb1 hr1
  obtain ⟨M, hM⟩ : ∃ M, M = w2.heap.size := ⟨_, rfl⟩
  rw [← hM] at hS
  have hS3 := hS.alloc (.cells #[] 31)
  have hr3 := hr2.alloc (.cells #[] 31)
  have hB3 := hbw.alloc hbw.size (.cells #[] 31)
  have ho3 : OwnG (w2.alloc (.cells #[] 31)) M (.slice (some ⟨w2.heap.size, 0, none⟩) 0 0) [] := made_at 31 2 rfl (by omega)
  clear hS hr2 hbw
  go_wp2_with fail
  refine (one_any w.heap.size q _ 7 _ [3, 5, 2, 1, 0, 16, 17] _ (hr3.alloc _) (by omega) (At.newAt 3 _ (by simp)) (by rfl) (by simp; omega) (by rfl) (by omega) (by omega)).mono ?_
  rintro e w4 ⟨x, rfl, mx, hg4, hr4⟩
  have hx : 0 ≤ x ∧ x ≤ 17 := by simp at mx; omega
  obtain ⟨n0, rfl⟩ : ∃ n0 : Nat, x = n0 := ⟨x.toNat, by omega⟩
  have hS4 := (hS3.alloc _).grown hg4 (fun b e => .inl (by injection e with e; exact e.symm))
  have ho4 : OwnG w4 M (.slice (some ⟨w2.heap.size, 0, none⟩) 0 0) [] := row_kept (own_alloc ho3.out _) hg4 (fun k hk e => by injection e with e; have := (ho3.lt k hk).1; omega)
  have hB4 := (hB3.alloc hB3.size _).trans (below_of_grown hg4 (B := w.heap.size) (by omega) (by simp; omega))
  have hz4 : M ≤ w4.heap.size := by have := hg4.size; simp at this; omega
  obtain ⟨p0, hp0⟩ : ∃ p0, p0 = q + 1 := ⟨_, rfl⟩
  rw [← hp0] at hr4
  have hp31 : p0 ≤ 31 := by omega
  clear hS3 hr3 hB3 ho3 mx hg4
  have hgM : w.heap.size < M := by omega
  clear hM
  go_wp2_with fail
  go_loopw [6, 7] (fun v i wr => ∃ (k : Nat) (A3 : Option Addr) (c3 : Nat) (m : List Stg) (q : Nat), i = .int .i64 k ∧ m.length + k ≤ 17 ∧ q + 2 * k ≤ p0 + 34 ∧ v = .slice A3 m.length c3 ∧ OwnG wr M v m ∧ Rd wr w.heap.size q ∧ SeesF wr (fun b => b = w.heap.size ∨ M ≤ b) A2 (strip stcl l) ∧ Below w.heap.size w wr ∧ M ≤ wr.heap.size) (fun _ i _ => (intOf i).toNat)
  case atStart => exact ⟨n0, _, _, [], p0, rfl, by simp; omega, by omega, rfl, ho4, hr4, hS4, hB4, hz4⟩
  case round =>
    clear ho4 hr4 hS4 hB4 hz4
    obtain ⟨k, A3, c3, m, q, rfl, hk, hq, rfl, ho, hr, hS, hB, hz⟩ := hrel
    by_cases hk0 : 0 < k
    · have hki : (0 : Int) < (k : Int) := by omega
      go_wp2_with fail
      refine (pick_any w.heap.size q 10 _ hr (by omega)).mono ?_
      rintro e w5 ⟨x1, rfl, _, _, hg5, hr5⟩
      have hS5 := hS.grown hg5 (fun b e => .inl (by injection e with e; exact e.symm))
      have ho5 : OwnG w5 M (.slice A3 m.length c3) m := row_kept ho.out hg5 (fun k hk e => by injection e with e; have := (ho.lt k hk).1; omega)
      have hB5 := hB.trans (below_of_grown hg5 (B := w.heap.size) (by omega) (by omega))
      have hz5 : M ≤ w5.heap.size := Nat.le_trans hz hg5.size
      clear hS ho hB hz hr hg5
      go_wp2_with fail
      refine (pick_any w.heap.size (q + 1) 22 _ hr5 (by omega)).mono ?_
      rintro e w6 ⟨x2, rfl, x2a, x2b, hg6, hr6⟩
      have x2c := x2b (by omega)
      have hS6 := hS5.grown hg6 (fun b e => .inl (by injection e with e; exact e.symm))
      have ho6 : OwnG w6 M (.slice A3 m.length c3) m := row_kept ho5.out hg6 (fun k hk e => by injection e with e; have := (ho5.lt k hk).1; omega)
      have hB6 := hB5.trans (below_of_grown hg6 (B := w.heap.size) (by omega) (by omega))
      have hz6 : M ≤ w6.heap.size := Nat.le_trans hz5 hg6.size
      have hw : IntKind.i64.wrap (x2 - 1) = x2 - 1 := by rw [IntKind.wrap_i64]; omega
      clear hS5 ho5 hB5 hz5 hr5 hg6
      go_wp2_with (at_builtin; refine wpList_append_own _ rfl _ _ 23 rfl (M) 31 i0 (.agg #[.int .i64 0, .int .i64 0]) 2 16 Try.underlying23 hi0 hz0 hz1 hz2 rfl (by decide) _ _ _ rfl (own_alloc ho6.out _) ⟨w6.heap.size, 0, none⟩ 1 1 [.int .i64 x1, .int .i64 (x2 - 1)] rfl rfl (by simpa using cells_new (w6) [.int .i64 x1, .int .i64 (x2 - 1)] 31) ?f32 ?f33 ?f34 ?f35 ?_)
      case f32 => simp [Value.oneCell']
      case f33 => unfold maxLen; omega
      case f34 => omega
      try (case f35 => first | omega | (simp; omega) | (simp; done))
      case _ =>
        intro v7 w7 h7 hg7 _
        have hlow := ho6.lt
        have ho7 : OwnG w7 M v7 (m ++ [⟨x1, x2 - 1⟩]) := by unfold OwnG OwnS; rw [strip_snoc, List.length_append]; exact h7
        obtain ⟨A7, c7, rfl, _⟩ := own_form h7
        have hbM : Below M w6 w7 := ((Below.refl M w6).alloc (by omega) (.cells #[.int .i64 x1, .int .i64 (x2 - 1)] 31)).grown hg7 (by simp; omega) (fun k hk => (hlow k hk).1)
        have hr7 := (hr6.alloc (.cells #[.int .i64 x1, .int .i64 (x2 - 1)] 31)).below (B := M) ((Below.refl _ _).grown hg7 (by simp; omega) (fun k hk => (hlow k hk).1)) (by omega)
        have hS7 := (hS6.alloc (.cells #[.int .i64 x1, .int .i64 (x2 - 1)] 31)).grown hg7 (fun b hb => .inr (hlow b hb).1)
        have hB7 : Below w.heap.size w w7 := hB6.trans (hbM.mono (by omega))
        have hz7 : M ≤ w7.heap.size := Nat.le_trans hz6 hbM.size
        have e7 : (m ++ [(⟨x1, x2 - 1⟩ : Stg)]).length = m.length + 1 := by simp
        clear h7 hg7 hbM hlow ho6 hr6 hS6 hB6 hz6
        go_wp2
        go_roundw
        case rel => exact ⟨k - 1, A7, c7, m ++ [⟨x1, x2 - 1⟩], q + 1 + 1, by go_num, by rw [e7]; omega, by omega, by rw [e7], ho7, hr7, hS7, hB7, hz7⟩
        case measure => simp [intOf]; omega
    · have hki : ¬ (0 : Int) < (k : Int) := by omega
      by_cases hm0 : 0 < m.length
      · have hmi : (m.length : Int) > 0 := by omega
        have hmi2 : (0 : Int) < (m.length : Int) := by omega
        go_wp2_with fail
        refine (pick_any w.heap.size q 16 _ hr (by omega)).mono ?_
        rintro e w5 ⟨x1, rfl, _, _, hg5, hr5⟩
        have hS5 := hS.grown hg5 (fun b e => .inl (by injection e with e; exact e.symm))
        have ho5 : OwnG w5 M (.slice A3 m.length c3) m := row_kept ho.out hg5 (fun k hk e => by injection e with e; have := (ho.lt k hk).1; omega)
        have hB5 := hB.trans (below_of_grown hg5 (B := w.heap.size) (by omega) (by omega))
        have hz5 : M ≤ w5.heap.size := Nat.le_trans hz hg5.size
        clear hS ho hB hz hr hg5
        obtain ⟨A9, c9, e9, hc9, hcm9, hs9⟩ := ho5.form
        injection e9 with e9a e9b e9c
        subst e9a e9c
        rcases hx : (x1 == 0) with _ | _
        · go_wp2
          go_ret2
          exact ⟨A2, c2, l, A3, c3, m, rfl, hS5.sees, hs9, hB5, by omega, hc2, by omega, hc9, hcm9⟩
        · obtain ⟨gg, cc, hvv, _, _⟩ := own_blockT ho5.out hm0
          injection hvv with v1 v2 v3
          subst v1 v3
          go_wp2_with fail
          refine (one_any w.heap.size (q + 1) _ 3 _ [10, -1, 3] _ (hr5.alloc _) (by omega) (At.newAt 3 _ rfl) (by rfl) (by omega) (by rfl) (by omega) (by omega)).mono ?_
          rintro e w6 ⟨x2, rfl, _, hg6, hr6⟩
          have hS6 := (hS5.alloc _).grown hg6 (fun b e => .inl (by injection e with e; exact e.symm))
          have ho6 : OwnG w6 M (.slice (some ⟨gg, 0, none⟩) m.length c3) m := row_kept (own_alloc ho5.out _) hg6 (fun k hk e => by injection e with e; have := (ho5.lt k hk).1; omega)
          have hB6 := (hB5.alloc hB5.size _).trans (below_of_grown hg6 (B := w.heap.size) (by omega) (by simp; omega))
          have hz6 : M ≤ w6.heap.size := by have := hg6.size; simp at this; omega
          clear hS5 ho5 hB5 hz5 hr5 hg6 hs9
          go_wp2_with fail
          refine (one_any w.heap.size (q + 1 + 1) _ 2 _ [21, -2] _ (hr6.alloc _) (by omega) (At.newAt 3 _ rfl) (by rfl) (by omega) (by rfl) (by omega) (by omega)).mono ?_
          rintro e w7 ⟨x3, rfl, _, hg7, hr7⟩
          have hS7 := (hS6.alloc _).grown hg7 (fun b e => .inl (by injection e with e; exact e.symm))
          have ho7 : OwnG w7 M (.slice (some ⟨gg, 0, none⟩) m.length c3) m := row_kept (own_alloc ho6.out _) hg7 (fun k hk e => by injection e with e; have := (ho6.lt k hk).1; omega)
          have hB7 := (hB6.alloc hB6.size _).trans (below_of_grown hg7 (B := w.heap.size) (by omega) (by simp; omega))
          have hz7 : M ≤ w7.heap.size := by have := hg7.size; simp at this; omega
          clear hS6 ho6 hB6 hz6 hr6 hg7
          have hgg := ho7.lt gg rfl
          obtain ⟨u0, u1⟩ := setting_at ho7.out hm0
          have hfr := row_thaw ho7.out
          have hput := setting_put ho7.out hm0 ⟨x2, x3⟩
          have hg8 := grown_trans (grown_set w7 gg (0 * 2) (.int .i64 x2)) (grown_set (w7.setCell ⟨gg, 0 * 2, none⟩ (.int .i64 x2)) gg (0 * 2 + 1) (.int .i64 x3))
          have hS8 := hS7.grown hg8 (fun b e => .inr (by injection e with e; omega))
          have hB8 := hB7.trans (below_of_grown hg8 (B := w.heap.size) (by omega) (by omega))
          have hs8 := Sees.of_own hput
          have h8l : (m.set 0 ⟨x2, x3⟩).length = m.length := List.length_set
          simp only [Nat.zero_mul, Nat.zero_add] at u0 u1 hS8 hB8 hs8
          clear ho7 hput hg8 hS7 hB7
          go_wp2
          go_ret2
          exact ⟨A2, c2, l, some ⟨gg, 0, none⟩, c3, m.set 0 ⟨x2, x3⟩, by rw [h8l]; rfl, hS8.sees, hs8, hB8, by omega, hc2, by rw [h8l]; omega, by rw [h8l]; exact hc9, hcm9⟩
      · have hmi : ¬ (m.length : Int) > 0 := by omega
        have hmi2 : ¬ (0 : Int) < (m.length : Int) := by omega
        obtain ⟨A9, c9, e9, hc9, hcm9, hs9⟩ := ho.form
        injection e9 with e9a e9b e9c
        subst e9a e9c
        go_wp2
        go_ret2
        exact ⟨A2, c2, l, A3, c3, m, rfl, hS.sees, hs9, hB, by omega, hc2, by omega, hc9, hcm9⟩

end Go.Proofs.Ytindbplgbfjjcab

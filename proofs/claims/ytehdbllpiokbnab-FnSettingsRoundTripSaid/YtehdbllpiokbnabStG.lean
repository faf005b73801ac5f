/-
  What the model's anySettings and the functions answer that draw the arguments of the laws on settings. Condition: the reader stands at a place below 1000; the code is at most 2^20 bytes.
-/
import Derived.Test.YtehdbllpiokbnabStB
import Derived.Test.YtehdbllpiokbnabDraws
import Derived.Test.YtehdbllpiokbnabReadB
import Derived.Test.YtehdbllpiokbnabSeesF
import Derived.Test.YtehdbllpiokbnabSsSetting

namespace Go.Proofs.Ytehdbllpiokbnab
open Go.RowKit Stt

abbrev GT := GLs (α := Stg) 68 2 stcl
abbrev DTs := DLs (α := Stg) 68 2 stcl 11
theorem own_blockT {w : World} {base : Nat} {t : TypeId} {s n : Nat} {v : Value} {xs : List Value} (h : w.ownsRow base t s v n xs) (hn : 0 < n) : ∃ g c, v = .slice (some ⟨g, 0, none⟩) n c ∧ n ≤ c ∧ c ≤ maxLen := by
  rcases h.2 with ⟨_, e⟩ | ⟨g, cap, cur, e, _, _, h1, h2, _⟩
  · omega
  · exact ⟨g, cap, e, h1, h2⟩
set_option maxHeartbeats 4000000 in
theorem anySettings_any (g p : Nat) (w : World) (h : Rd w g p) (hp : p < 1000) :
    Calls Try.prog 46 #[.pointer (some ⟨g, 0, none⟩)] w (ListAns (α := Stg) 68 2 stcl 11 30 w g p) := by
  have hg := h.lt
  obtain ⟨i0, hi0, hz0, hz1, hz2⟩ := info_parts stgInfo
  have gl0 : GT w (w.alloc (.cells #[] 68)) g p (.slice (some ⟨w.heap.size, 0, none⟩) 0 0) [] := ⟨made_at 68 2 rfl (Nat.le_refl _), h.alloc _, grown_of_below ((Below.refl _ _).alloc (Nat.le_refl _) _) _, hg⟩
  go_enter Try.func46, Try.ntmps46
  go_wp2
  go_loopw [3, 4] (fun v i wr => ∃ (k q : Nat) (A : Option Addr) (c : Nat) (l : List Stg), i = .int .i64 k ∧ k ≤ 10 ∧ l.length ≤ k ∧ q ≤ p + 2 * k ∧ v = .slice A l.length c ∧ GT w wr g q (.slice A l.length c) l) (fun _ i _ => 10 - (intOf i).toNat)
  case atStart => exact ⟨0, p, _, _, [], rfl, by decide, Nat.le_refl _, by omega, rfl, gl0⟩
  case round =>
    clear gl0
    obtain ⟨k, q, A, c, l, rfl, hk, hl, hq, rfl, gl⟩ := hrel
    obtain ⟨z1, z2, z3⟩ := gl.lt
    by_cases hlt : k < 10
    · have hi : (k : Int) < 10 := by omega
      go_wp2_with fail
      refine (pick_any g q 3 _ gl.rd (by omega)).mono ?_
      rintro e w2 ⟨x1, rfl, hx0, hx1, hg2, hr2⟩
      have gl2 := gl.pick hg2 hr2
      clear hg2 hr2 hx0 hx1 gl
      obtain ⟨_, z5, z6⟩ := gl2.lt
      rcases hx : (x1 == 0) with _ | _
      · go_wp2
        go_roundw
        case rel => exact ⟨k + 1, q + 1, A, c, l, by go_num, by omega, by omega, by omega, rfl, gl2⟩
        case measure => simp [intOf]; omega
      · go_wp2_with fail
        refine (pick_any g (q + 1) 21 _ gl2.rd (by omega)).mono ?_
        rintro e w3 ⟨x2, rfl, hx0, hx1, hg3, hr3⟩
        have gl3 := gl2.pick hg3 hr3
        clear hg3 hr3 hx0 hx1 gl2
        obtain ⟨_, z5, z6⟩ := gl3.lt
        go_wp2_with (at_builtin; refine wpList_append_own _ rfl _ _ 35 rfl (w.heap.size) 68 i0 (.agg #[.int .i64 0, .int .i64 0]) 2 16 Try.underlying35 hi0 hz0 hz1 hz2 rfl (by decide) _ _ _ rfl ((gl3.alloc _).own).out ⟨w3.heap.size, 0, none⟩ 1 1 [.int .i64 k, .int .i64 x2] rfl rfl (by simpa using cells_new (w3) [.int .i64 k, .int .i64 x2] 68) ?d12 ?d13 ?d14 ?d15 ?_)
        case d12 => simp [Value.oneCell']
        case d13 => unfold maxLen; omega
        case d14 => omega
        try (case d15 => first | omega | (simp; omega) | (simp; done))
        case _ =>
          intro v1 w5 h1 hg5 _
          have gl5 := gl3.snoc (x := ⟨k, x2⟩) h1 hg5
          obtain ⟨A5, c5, rfl, _, _, _⟩ := OwnS.form gl5.own
          have e5 : (l ++ [(⟨k, x2⟩ : Stg)]).length = l.length + 1 := by simp
          clear h1 hg5 gl3
          rw [e5] at gl5
          go_wp2
          go_roundw
          case rel => exact ⟨k + 1, q + 1 + 1, A5, c5, l ++ [⟨k, x2⟩], by go_num, by omega, by rw [e5]; omega, by omega, by rw [e5], by rw [e5]; exact gl5⟩
          case measure => simp [intOf]; omega
    · have hi : ¬ (k : Int) < 10 := by omega
      go_wp2_with fail
      refine (pick_any g q 14 _ gl.rd (by omega)).mono ?_
      rintro e w2 ⟨x, rfl, hx0, hx1, hg2, hr2⟩
      have gl2 := gl.pick hg2 hr2
      clear hg2 hr2 hx0 hx1 gl
      rcases hx : (x == 0) with _ | _
      · go_wp2
        go_ret
        exact ⟨A, c, l, q + 1, rfl, gl2, by omega, by omega⟩
      · obtain ⟨_, z5, z6⟩ := gl2.lt
        go_wp2_with fail
        refine (one_any g (q + 1) _ 3 _ [10, 3, -1] _ (gl2.alloc _).rd (by omega) (At.new w2 3 _) (by rfl) (by omega) (by rfl) (by omega) (by omega)).mono ?_
        rintro e w4 ⟨y1, rfl, hy1, hg4, hr4⟩
        have gl4 := (gl2.alloc _).pick hg4 hr4
        clear hg4 hr4 hy1 gl2
        obtain ⟨_, z5, z6⟩ := gl4.lt
        go_wp2_with fail
        refine (one_any g (q + 1 + 1) _ 3 _ [21, 5, -1] _ (gl4.alloc _).rd (by omega) (At.new w4 3 _) (by rfl) (by omega) (by rfl) (by omega) (by omega)).mono ?_
        rintro e w5 ⟨y2, rfl, hy2, hg5, hr5⟩
        have gl5 := (gl4.alloc _).pick hg5 hr5
        clear hg5 hr5 hy2 gl4
        obtain ⟨_, z5, z6⟩ := gl5.lt
        go_wp2_with (at_builtin; refine wpList_append_own _ rfl _ _ 35 rfl (w.heap.size) 68 i0 (.agg #[.int .i64 0, .int .i64 0]) 2 16 Try.underlying35 hi0 hz0 hz1 hz2 rfl (by decide) _ _ _ rfl ((gl5.alloc _).own).out ⟨w5.heap.size, 0, none⟩ 1 1 [.int .i64 y1, .int .i64 y2] rfl rfl (by simpa using cells_new (w5) [.int .i64 y1, .int .i64 y2] 68) ?e22 ?e23 ?e24 ?e25 ?_)
        case e22 => simp [Value.oneCell']
        case e23 => unfold maxLen; omega
        case e24 => omega
        try (case e25 => first | omega | (simp; omega) | (simp; done))
        case _ =>
          intro v1 w6 h1 hg6 _
          have gl6 := gl5.snoc (x := ⟨y1, y2⟩) h1 hg6
          obtain ⟨A6, c6, rfl, _, _, _⟩ := OwnS.form gl6.own
          have e6 : (l ++ [(⟨y1, y2⟩ : Stg)]).length = l.length + 1 := by simp
          clear h1 hg6 gl5
          rw [e6] at gl6
          go_wp2
          go_ret
          exact ⟨A6, c6, l ++ [⟨y1, y2⟩], q + 1 + 1 + 1, by rw [e6]; rfl, by rw [e6]; exact gl6, by rw [e6]; omega, by omega⟩

def StD0 (w : World) (e : Ending) (w' : World) : Prop := ∃ A c l, e = .returned (.slice A (List.length l) c) ∧ DTs w w' A c l
/-- Two lists of settings that were drawn; nothing that was there has changed. -/
def DT2 (w w' : World) (A : Option Addr) (c : Nat) (l : List Stg) (A2 : Option Addr) (c2 : Nat) (m : List Stg) : Prop :=
  Sees w' w'.heap.size A (strip stcl l) ∧ Sees w' w'.heap.size A2 (strip stcl m) ∧ Below w.heap.size w w' ∧ l.length ≤ 17 ∧ l.length ≤ c ∧ m.length ≤ 17 ∧ m.length ≤ c2 ∧ c2 ≤ maxLen
section
variable {w w' w'' : World} {A A2 : Option Addr} {c c2 : Nat} {l m : List Stg}
theorem DT2.below (h : DT2 w w' A c l A2 c2 m) (hb : Below w'.heap.size w' w'') : DT2 w w'' A c l A2 c2 m := by
  obtain ⟨h1, h2, h3, h4⟩ := h
  exact ⟨(h1.below hb).more hb.size, (h2.below hb).more hb.size, h3.trans (hb.mono h3.size), h4⟩
theorem DT2.drewN (h : DT2 w w' A c l A2 c2 m) (k : Nat) : DT2 w (w'.drewN k) A c l A2 c2 m := h.below (below_drewN (Below.refl _ _) k)
theorem DT2.drew (h : DT2 w w' A c l A2 c2 m) : DT2 w w'.drew A c l A2 c2 m := h.below ((Below.refl _ _).drew)
theorem DT2.alloc (h : DT2 w w' A c l A2 c2 m) (o : Obj) : DT2 w (w'.alloc o) A c l A2 c2 m := h.below ((Below.refl _ _).alloc (Nat.le_refl _) o)
theorem DT2.s1 (h : DT2 w w' A c l A2 c2 m) : Sees w' w'.heap.size A (strip stcl l) := h.1
theorem DT2.s2 (h : DT2 w w' A c l A2 c2 m) : Sees w' w'.heap.size A2 (strip stcl m) := h.2.1
theorem DT2.bel (h : DT2 w w' A c l A2 c2 m) : Below w.heap.size w w' := h.2.2.1
theorem DT2.n1 (h : DT2 w w' A c l A2 c2 m) : l.length ≤ 4194304 := Nat.le_trans h.2.2.2.1 (by decide)
theorem DT2.n2 (h : DT2 w w' A c l A2 c2 m) : m.length ≤ 4194304 := Nat.le_trans h.2.2.2.2.2.1 (by decide)
end
def StD2 (w : World) (e : Ending) (w' : World) : Prop := ∃ A c l A2 c2 m, e = .returned (.tuple #[.slice A (List.length l) c, .slice A2 (List.length m) c2]) ∧ DT2 w w' A c l A2 c2 m
set_option maxHeartbeats 1000000 in
theorem drawFormatSettings_any (A : Option Addr) (n c : Nat) (zs : List Int) (w : World) (h : Sees w w.heap.size A (byts zs)) (hz : ∀ z ∈ zs, 0 ≤ z ∧ z ≤ 255) (hn : zs.length = n) (hc : n ≤ c) (hm : n ≤ 1048576) (hcc : c ≤ maxLen) :
    Calls Try.prog 16 #[.slice A n c] w (StD0 w) := by
  have HZ := hid hz
  have HE := hid hn
  have HC := hid hcc
  clear hz hn hcc
  go_enter Try.func16, Try.ntmps16
  go_wp2_with fail
  refine (newReader_any A n c zs _ h HZ.out HE.out hc hm HC.out).mono ?_
  rintro e w1 ⟨rfl, hb1, hr1⟩
  go_wp2_with fail
  refine (anySettings_any w.heap.size 0 _ hr1 (by omega)).mono ?_
  rintro e w2 ⟨A2, c2, l, q, rfl, gl, hl, hq⟩
  go_wp2
  go_ret
  exact ⟨A2, c2, l, rfl, DLs.of_gl hb1 gl (Nat.le_refl _) hl⟩

end Go.Proofs.Ytehdbllpiokbnab

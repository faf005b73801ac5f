/-
  What the model's generator of ages answers, and the functions that draw the arguments of the laws on ages. Condition: the code is at most 2^20 bytes.
-/
import Derived.Test.YtlonmmkioaejmacDraws
import Derived.Test.YtlonmmkioaejmacSsAge
namespace Go.Proofs.Ytlonmmkioaejmac
open Go.RowKit Age

abbrev GA (w0 wr : World) (g q : Nat) (v : Value) (l : List Ag) : Prop := GLs 31 2 acells w0 wr g q v l
abbrev DA (w w' : World) (A : Option Addr) (c : Nat) (l : List Ag) : Prop := DLs 31 2 acells 7 w w' A c l
set_option maxHeartbeats 1000000 in
theorem someSpan_any (g p : Nat) (w : World) (h : Rd w g p) (hp : p < 100000) :
    Calls Try.prog 23 #[.pointer (some ⟨g, 0, none⟩)] w (OneAns [50, 20, 100, 10, 1, 1000, 0, 1001] w g p) := by
  have hg := h.lt
  go_enter Try.func23, Try.ntmps23
  go_wp2_with fail
  refine (one_any g p _ 8 _ [50, 20, 100, 10, 1, 1000, 0, 1001] _ (h.alloc _) hp (At.new w 3 _) (by rfl) (by omega) (by rfl) (by omega) (by omega)).mono ?_
  rintro e w1 ⟨x, rfl, hx, hg1, hr1⟩
  go_wp2
  go_ret
  exact ⟨_, rfl, hx, grown_trans (grown_of_below ((Below.refl _ _).alloc (Nat.le_refl _) _) _) hg1, hr1⟩

theorem own_block' {w : World} {base : Nat} {t : TypeId} {s n : Nat} {v : Value} {xs : List Value} (h : w.ownsRow base t s v n xs) (hn : 0 < n) : ∃ g c, v = .slice (some ⟨g, 0, none⟩) n c ∧ n ≤ c ∧ c ≤ maxLen := by
  rcases h.2 with ⟨_, e⟩ | ⟨g, cap, cur, e, _, _, h1, h2, _⟩
  · omega
  · exact ⟨g, cap, e, h1, h2⟩
theorem put_two {w0 wr : World} {g q gg n c i j : Nat} {u u' : Value} {l l' : List Ag} (h : GA w0 wr g q (.slice (some ⟨gg, 0, none⟩) n c) l) (h' : ((wr.setCell ⟨gg, i, none⟩ u).setCell ⟨gg, j, none⟩ u').ownsRow w0.heap.size 31 2 (.slice (some ⟨gg, 0, none⟩) n c) l'.length (strip acells l')) : GA w0 ((wr.setCell ⟨gg, i, none⟩ u).setCell ⟨gg, j, none⟩ u') g q (.slice (some ⟨gg, 0, none⟩) n c) l' := by
  obtain ⟨h1, h2, h3, h4⟩ := h
  have hgg : w0.heap.size ≤ gg := (h1.lt gg rfl).1
  refine ⟨h', (h2.far (by simp; omega) u).far (by simp; omega) u', ?_, h4⟩
  exact ⟨h3.os, h3.tape, h3.output, by simpa [World.setCell] using h3.size, fun k hk hn => ((Below.heap_setCell _ ⟨gg, j, none⟩ u' k (by simp; omega)).trans (Below.heap_setCell wr ⟨gg, i, none⟩ u k (by simp; omega))).trans (h3.block k hk hn)⟩

set_option maxHeartbeats 4000000 in
theorem anyAges_any (g p : Nat) (w : World) (h : Rd w g p) (hp : p < 1000) :
    Calls Try.prog 21 #[.pointer (some ⟨g, 0, none⟩)] w (ListAns (α := Ag) 31 2 acells 7 30 w g p) := by
  have hg := h.lt
  obtain ⟨i0, hi0, hz0, hz1, hz2⟩ := info_parts ageInfo
  have gl0 : GA w (w.alloc (.cells #[] 31)) g p (.slice (some ⟨w.heap.size, 0, none⟩) 0 0) [] :=
    ⟨OwnS.made w (Nat.le_refl _), h.alloc _, grown_of_below ((Below.refl _ _).alloc (Nat.le_refl _) _) _, hg⟩
  go_enter Try.func21, Try.ntmps21
  go_wp2_with fail
  refine (one_any g p _ 7 _ [3, 4, 2, 6, 1, 0, 7] _ (gl0.alloc _).rd (by omega) (At.newAt 3 _ (by simp)) (by rfl) (by omega) (by rfl) (by omega) (by omega)).mono ?_
  rintro e w1 ⟨n0, rfl, hn0, hg1, hr1⟩
  have hn0' : ∃ k : Nat, n0 = k ∧ k ≤ 7 := ⟨n0.toNat, by simp at hn0; omega, by simp at hn0; omega⟩
  obtain ⟨k0, rfl, hk0⟩ := hn0'
  clear hn0
  have gl1 := (gl0.alloc _).pick hg1 hr1
  clear hg1 hr1 gl0
  go_wp2_with fail
  go_loopw [3, 4] (fun v i wr => ∃ (k q : Nat) (A : Option Addr) (c : Nat) (l : List Ag), i = .int .i64 k ∧ l.length + k ≤ 7 ∧ q + 2 * k ≤ p + 20 ∧ v = .slice A l.length c ∧ GA w wr g q (.slice A l.length c) l) (fun _ i _ => (intOf i).toNat)
  case atStart => exact ⟨k0, p + 1, _, _, [], rfl, by simp; omega, by omega, rfl, gl1⟩
  case round =>
    clear gl1
    obtain ⟨k, q, A, c, l, rfl, hk, hq, rfl, gl⟩ := hrel
    obtain ⟨z1, z2, z3⟩ := gl.lt
    by_cases hk0 : 0 < k
    · have hki : (0 : Int) < (k : Int) := by omega
      go_wp2_with fail
      refine (pick_any g q 100 _ gl.rd (by omega)).mono ?_
      rintro e w2 ⟨f, rfl, hf0, hf1, hg2, hr2⟩
      have gl2 := gl.pick hg2 hr2
      have hf2 := hf1 (by omega)
      clear hg2 hr2 hf1 gl
      go_wp2_with fail
      refine (pick_any g (q + 1) 60 _ gl2.rd (by omega)).mono ?_
      rintro e w3 ⟨u, rfl, hu0, hu1, hg3, hr3⟩
      have gl3 := gl2.pick hg3 hr3
      have hu2 := hu1 (by omega)
      clear hg3 hr3 hu1 gl2
      obtain ⟨_, z5, z6⟩ := gl3.lt
      have hw1 : IntKind.i64.wrap (f + u) = f + u := by rw [IntKind.wrap_i64]; omega
      go_wp2_with (at_builtin; refine wpList_append_own _ rfl _ _ 23 rfl w.heap.size 31 i0 (.agg #[.int .i64 0, .int .i64 0]) 2 16 Try.underlying23 hi0 hz0 hz1 hz2 rfl (by decide) _ _ _ rfl (gl3.alloc _).own.out ⟨w3.heap.size, 0, none⟩ 1 1 [.int .i64 f, .int .i64 (f + u)] rfl rfl (by simpa using cells_new w3 _ _) ?c2 ?c3 ?c4 ?c5 ?_)
      case c2 => simp [Value.oneCell']
      case c3 => unfold maxLen; omega
      case c4 => omega
      case c5 => simp; omega
      case _ =>
        intro v1 w5 h1 hg5 _
        have gl5 := gl3.snoc (x := ⟨f, f + u⟩) h1 hg5
        obtain ⟨A5, c5, rfl, _, _, _⟩ := OwnS.form gl5.own
        have e5 : (l ++ [(⟨f, f + u⟩ : Ag)]).length = l.length + 1 := by simp
        clear h1 hg5 hw1 gl3
        rw [e5] at gl5
        go_wp2
        go_roundw
        case rel => exact ⟨k - 1, q + 1 + 1, A5, c5, l ++ [⟨f, f + u⟩], by go_num, by rw [e5]; omega, by omega, by rw [e5], by rw [e5]; exact gl5⟩
        case measure => simp [intOf]; omega
    · have hki : ¬ (0 : Int) < (k : Int) := by omega
      by_cases hl0 : 0 < l.length
      · have hli : (0 : Int) < (l.length : Int) := by omega
        go_wp2_with fail
        refine (pick_any g q 16 _ gl.rd (by omega)).mono ?_
        rintro e w2 ⟨x, rfl, hx0, hx1, hg2, hr2⟩
        have gl2 := gl.pick hg2 hr2
        clear hg2 hr2 hx1 gl
        rcases hx : (x == 0) with _ | _
        · go_wp2
          go_ret
          exact ⟨A, c, l, q + 1, rfl, gl2, by omega, by omega⟩
        · go_wp2_with fail
          refine (pick_any g (q + 1) (l.length : Int) _ gl2.rd (by omega)).mono ?_
          rintro e w3 ⟨y, rfl, hy0, hy1, hg3, hr3⟩
          have gl3 := gl2.pick hg3 hr3
          obtain ⟨j, rfl⟩ : ∃ j : Nat, y = j := ⟨y.toNat, by omega⟩
          have hji := hy1 (by omega)
          have hj : j < l.length := by omega
          clear hg3 hr3 hy1 gl2
          obtain ⟨_, z5, z6⟩ := gl3.lt
          go_wp2_with fail
          refine (one_any g (q + 1 + 1) _ 3 _ [-1, 50, 1000] _ (gl3.alloc _).rd (by omega) (At.new w3 3 _) (by rfl) (by omega) (by rfl) (by omega) (by omega)).mono ?_
          rintro e w4 ⟨y1, rfl, hy1, hg4, hr4⟩
          have gl4 := (gl3.alloc _).pick hg4 hr4
          clear hg4 hr4 hy1 gl3
          obtain ⟨_, z5, z6⟩ := gl4.lt
          go_wp2_with fail
          refine (one_any g (q + 1 + 1 + 1) _ 3 _ [49, 1001, 1000] _ (gl4.alloc _).rd (by omega) (At.new w4 3 _) (by rfl) (by omega) (by rfl) (by omega) (by omega)).mono ?_
          rintro e w5 ⟨y2, rfl, hy2, hg5, hr5⟩
          have gl5 := (gl4.alloc _).pick hg5 hr5
          clear hg5 hr5 hy2 gl4
          obtain ⟨gg, cc, hvv, hcc, _⟩ := own_block' gl5.own.out hl0
          injection hvv with v1 v2 v3
          subst v1 v3
          obtain ⟨x0, x1⟩ := age_at gl5.own.out hj
          have hfr := row_thaw gl5.own.out
          have hput := age_put gl5.own.out hj ⟨y1, y2⟩
          have hp1 := row_put gl5.own.out (j * 2) (.int .i64 y1)
          have HP := hid hput
          clear hput
          have gl6 : GA w ((w5.setCell ⟨gg, j * 2, none⟩ (.int .i64 y1)).setCell ⟨gg, j * 2 + 1, none⟩ (.int .i64 y2)) g (q + 1 + 1 + 1 + 1) (.slice (some ⟨gg, 0, none⟩) l.length c) (l.set j ⟨y1, y2⟩) := put_two gl5 (by rw [List.length_set]; exact HP.out)
          clear hp1
          go_wp2
          go_ret
          exact ⟨some ⟨gg, 0, none⟩, c, l.set j ⟨y1, y2⟩, q + 1 + 1 + 1 + 1, by simp, by rw [List.length_set]; exact gl6, by rw [List.length_set]; omega, by omega⟩
      · have hli : ¬ (0 : Int) < (l.length : Int) := by omega
        go_wp2
        go_ret
        exact ⟨A, c, l, q, rfl, gl, by omega, by omega⟩

def Pair0 (w : World) (e : Ending) (w' : World) : Prop := ∃ i j : Int, e = .returned (.tuple #[.int .i64 i, .int .i64 j]) ∧ Below w.heap.size w w'
def AgD0 (w : World) (e : Ending) (w' : World) : Prop := ∃ A c l, e = .returned (.slice A (List.length l) c) ∧ DA w w' A c l
def AgD2 (w : World) (e : Ending) (w' : World) : Prop := ∃ A c l, ∃ i j : Int, e = .returned (.tuple #[.slice A (List.length l) c, .int .i64 i, .int .i64 j]) ∧ DA w w' A c l
def AgD3 (w : World) (e : Ending) (w' : World) : Prop := ∃ A c l, ∃ i j k : Int, e = .returned (.tuple #[.slice A (List.length l) c, .int .i64 i, .int .i64 j, .int .i64 k]) ∧ DA w w' A c l ∧ 0 ≤ i ∧ i ≤ 1001 ∧ 0 ≤ j ∧ 0 ≤ k
set_option maxHeartbeats 1000000 in
theorem drawEndedConns_any (A : Option Addr) (n c : Nat) (zs : List Int) (w : World) (h : Sees w w.heap.size A (byts zs)) (hz : ∀ z ∈ zs, 0 ≤ z ∧ z ≤ 255) (hn : zs.length = n) (hc : n ≤ c) (hm : n ≤ 1048576) (hcc : c ≤ maxLen) :
    Calls Try.prog 8 #[.slice A n c] w (AgD3 w) := by
  have HZ := hid hz
  have HE := hid hn
  have HC := hid hcc
  clear hz hn hcc
  go_enter Try.func8, Try.ntmps8
  go_wp2_with fail
  refine (newReader_any A n c zs _ h HZ.out HE.out hc hm HC.out).mono ?_
  rintro e w1 ⟨rfl, hb1, hr1⟩
  go_wp2_with fail
  refine (anyAges_any w.heap.size 0 _ hr1 (by omega)).mono ?_
  rintro e w2 ⟨A2, c2, l, q, rfl, gl, hl, hq⟩
  obtain ⟨_, z2, z3⟩ := gl.lt
  go_wp2_with fail
  refine (one_any w.heap.size q _ 7 _ [100, 150, 60, 0, 1000, 1001, 120] _ (gl.alloc _).rd (by omega) (At.new _ 3 _) (by rfl) (by omega) (by rfl) (by omega) (by omega)).mono ?_
  rintro e w3 ⟨x, rfl, mx, hg3, hr3⟩
  have gl3 := (gl.alloc _).pick hg3 hr3
  clear hg3 hr3 gl
  have hx : 0 ≤ x ∧ x ≤ 1001 := by simp at mx; omega
  clear mx
  go_wp2_with fail
  refine (someSpan_any w.heap.size (q + 1) _ gl3.rd (by omega)).mono ?_
  rintro e w4 ⟨y, rfl, my, hg4, hr4⟩
  have gl4 := gl3.pick hg4 hr4
  clear hg4 hr4 gl3
  go_wp2_with fail
  refine (someSpan_any w.heap.size (q + 1 + 1) _ gl4.rd (by omega)).mono ?_
  rintro e w5 ⟨z, rfl, mz, hg5, hr5⟩
  have gl5 := gl4.pick hg5 hr5
  clear hg5 hr5 gl4
  go_wp2
  refine bodyPost_ret (v := .tuple #[.slice A2 l.length c2, .int .i64 x, .int .i64 y, .int .i64 z]) (by simp [results, Try.results8, go_sem]) rfl ⟨A2, c2, l, x, y, z, rfl, DLs.of_gl hb1 gl5 (Nat.le_refl _) hl, hx.1, hx.2, by simp at my; omega, by simp at mz; omega⟩

set_option maxHeartbeats 1000000 in
theorem drawTouchConn_any (A : Option Addr) (n c : Nat) (zs : List Int) (w : World) (h : Sees w w.heap.size A (byts zs)) (hz : ∀ z ∈ zs, 0 ≤ z ∧ z ≤ 255) (hn : zs.length = n) (hc : n ≤ c) (hm : n ≤ 1048576) (hcc : c ≤ maxLen) :
    Calls Try.prog 14 #[.slice A n c] w (AgD2 w) := by
  have HZ := hid hz
  have HE := hid hn
  have HC := hid hcc
  clear hz hn hcc
  go_enter Try.func14, Try.ntmps14
  go_wp2_with fail
  refine (newReader_any A n c zs _ h HZ.out HE.out hc hm HC.out).mono ?_
  rintro e w1 ⟨rfl, hb1, hr1⟩
  go_wp2_with fail
  refine (anyAges_any w.heap.size 0 _ hr1 (by omega)).mono ?_
  rintro e w2 ⟨A2, c2, l, q, rfl, gl, hl, hq⟩
  go_wp2_with fail
  refine (pick_any w.heap.size q 8 _ gl.rd (by omega)).mono ?_
  rintro e w3 ⟨x, rfl, lx, ux, hg3, hr3⟩
  have gl3 := gl.pick hg3 hr3
  have bx := ux (by omega)
  clear hg3 hr3 gl ux
  obtain ⟨_, z2, z3⟩ := gl3.lt
  go_wp2_with fail
  refine (one_any w.heap.size (q + 1) _ 6 _ [100, 0, 1000, 1001, 160, 50] _ (gl3.alloc _).rd (by omega) (At.new _ 3 _) (by rfl) (by omega) (by rfl) (by omega) (by omega)).mono ?_
  rintro e w4 ⟨y, rfl, my, hg4, hr4⟩
  have gl4 := (gl3.alloc _).pick hg4 hr4
  clear hg4 hr4 gl3
  clear my
  go_wp2
  go_ret3
  exact ⟨A2, c2, l, x - 1, y, rfl, DLs.of_gl hb1 gl4 (Nat.le_refl _) hl⟩

end Go.Proofs.Ytlonmmkioaejmac

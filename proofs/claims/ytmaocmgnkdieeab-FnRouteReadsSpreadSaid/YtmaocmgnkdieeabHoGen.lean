/-
  What the model's anyHosts and the functions answer that draw the arguments of the laws on hosts. Condition: the reader stands at a place below 1000; the code is at most 2^20 bytes.
-/
import Derived.Test.YtmaocmgnkdieeabHoA
import Derived.Test.YtmaocmgnkdieeabSsHost
import Derived.Test.YtmaocmgnkdieeabDraws
import Derived.Test.YtmaocmgnkdieeabReadB
import Derived.Test.YtmaocmgnkdieeabSpoil
namespace Go.Proofs.Ytmaocmgnkdieeab
open Go.RowKit Hos

abbrev GH := GLs (α := Hst) 40 3 hcl
abbrev DH := DLs (α := Hst) 40 3 hcl 6
theorem own_blockH {w : World} {base : Nat} {t : TypeId} {s n : Nat} {v : Value} {xs : List Value} (h : w.ownsRow base t s v n xs) (hn : 0 < n) : ∃ g c, v = .slice (some ⟨g, 0, none⟩) n c ∧ n ≤ c ∧ c ≤ maxLen := by
  rcases h.2 with ⟨_, e⟩ | ⟨g, cap, cur, e, _, _, h1, h2, _⟩
  · omega
  · exact ⟨g, cap, e, h1, h2⟩
theorem put_threeH {w0 wr : World} {g q gg n c i j k : Nat} {u u' u'' : Value} {l l' : List Hst} (h : GH w0 wr g q (.slice (some ⟨gg, 0, none⟩) n c) l) (h' : (((wr.setCell ⟨gg, i, none⟩ u).setCell ⟨gg, j, none⟩ u').setCell ⟨gg, k, none⟩ u'').ownsRow w0.heap.size 40 3 (.slice (some ⟨gg, 0, none⟩) n c) l'.length (strip hcl l')) : GH w0 (((wr.setCell ⟨gg, i, none⟩ u).setCell ⟨gg, j, none⟩ u').setCell ⟨gg, k, none⟩ u'') g q (.slice (some ⟨gg, 0, none⟩) n c) l' := by
  obtain ⟨h1, h2, h3, h4⟩ := h
  have hgg : w0.heap.size ≤ gg := (h1.lt gg rfl).1
  refine ⟨h', ((h2.far (by simp; omega) u).far (by simp; omega) u').far (by simp; omega) u'', ?_, h4⟩
  exact ⟨h3.os, h3.tape, h3.output, by simpa [World.setCell] using h3.size, fun q hq hn => (((Below.heap_setCell _ ⟨gg, k, none⟩ u'' q (by simp; omega)).trans (Below.heap_setCell _ ⟨gg, j, none⟩ u' q (by simp; omega))).trans (Below.heap_setCell wr ⟨gg, i, none⟩ u q (by simp; omega))).trans (h3.block q hq hn)⟩

set_option maxHeartbeats 4000000 in
theorem anyHosts_any (g p : Nat) (w : World) (h : Rd w g p) (hp : p < 1000) :
    Calls Try.prog 31 #[.pointer (some ⟨g, 0, none⟩)] w (ListAns (α := Hst) 40 3 hcl 6 30 w g p) := by
  have hg := h.lt
  obtain ⟨i0, hi0, hz0, hz1, hz2⟩ := info_parts hostInfo
  go_enter Try.func31, Try.ntmps31
  go_wp2_with fail
  refine (pick_any g p 5 _ h (by omega)).mono ?_
  rintro e wa ⟨t0, rfl, ht0, ht1, hga, hra⟩
  clear ht0 ht1
  go_wp2_with fail
  refine (pick_any g (p + 1) 5 _ hra (by omega)).mono ?_
  rintro e wb ⟨t1, rfl, ht0, ht1, hgb, hrb⟩
  have hgab := grown_trans hga hgb
  clear ht0 ht1 hga hgb hra
  have gl00 : GH w (wb.alloc (.cells #[.int .i64 t0, .int .i64 0, .bool (t1 == 0)] 40)) g (p + 1 + 1) (.slice (some ⟨wb.heap.size, 0, none⟩) 1 1) [⟨t0, 0, t1 == 0⟩] := by
    refine ⟨?_, hrb.alloc _, grown_trans hgab (grown_of_below ((Below.refl _ _).alloc (Nat.le_refl _) _) _), hg⟩
    have := World.ownsRow_lit (base := w.heap.size) (e := 40) (size := 3) wb #[.int .i64 t0, .int .i64 0, .bool (t1 == 0)] 1 hgab.size (by decide) rfl
    simpa [OwnS, strip, hcl] using this
  clear hgab hrb
  go_wp2_with fail
  refine (one_any g (p + 1 + 1) _ 6 _ [2, 3, 1, 4, 0, 5] _ (gl00.alloc _).rd (by omega) (At.newAt 3 _ (by simp)) (by rfl) (by have := gl00.lt; simp at this; omega) (by rfl) (by omega) (by omega)).mono ?_
  rintro e w1 ⟨n0, rfl, hn0, hg1, hr1⟩
  have hn0' : ∃ k : Nat, n0 = k ∧ k ≤ 5 := ⟨n0.toNat, by simp at hn0; omega, by simp at hn0; omega⟩
  obtain ⟨k0, rfl, hk0⟩ := hn0'
  clear hn0
  have gl1 := (gl00.alloc _).pick hg1 hr1
  clear hg1 hr1 gl00
  go_wp2_with fail
  go_loopw [3, 4] (fun v i wr => ∃ (k q : Nat) (A : Option Addr) (c : Nat) (l : List Hst), i = .int .i64 k ∧ l.length + k ≤ 6 ∧ 1 ≤ l.length ∧ q + 3 * k ≤ p + 18 ∧ v = .slice A l.length c ∧ GH w wr g q (.slice A l.length c) l) (fun _ i _ => (intOf i).toNat)
  case atStart => exact ⟨k0, p + 1 + 1 + 1, _, _, [⟨t0, 0, t1 == 0⟩], rfl, by simp; omega, by simp, by omega, rfl, gl1⟩
  case round =>
    clear gl1
    obtain ⟨k, q, A, c, l, rfl, hk, hl1, hq, rfl, gl⟩ := hrel
    obtain ⟨z1, z2, z3⟩ := gl.lt
    by_cases hk0 : 0 < k
    · have hki : (0 : Int) < (k : Int) := by omega
      go_wp2_with fail
      refine (one_any g q _ 5 _ [0, 1, 2, 3, 100] _ (gl.alloc _).rd (by omega) (At.new wr 3 _) (by rfl) (by omega) (by rfl) (by omega) (by omega)).mono ?_
      rintro e w2 ⟨x1, rfl, hx, hg2, hr2⟩
      have gl2 := (gl.alloc _).pick hg2 hr2
      clear hg2 hr2 hx gl
      obtain ⟨_, z5, z6⟩ := gl2.lt
      go_wp2_with fail
      refine (one_any g (q + 1) _ 4 _ [0, 5, 10, 1000] _ (gl2.alloc _).rd (by omega) (At.new w2 3 _) (by rfl) (by omega) (by rfl) (by omega) (by omega)).mono ?_
      rintro e w3 ⟨x2, rfl, hx, hg3, hr3⟩
      have gl3 := (gl2.alloc _).pick hg3 hr3
      clear hg3 hr3 hx gl2
      obtain ⟨_, z5, z6⟩ := gl3.lt
      go_wp2_with fail
      refine (pick_any g (q + 1 + 1) 5 _ gl3.rd (by omega)).mono ?_
      rintro e w4 ⟨f, rfl, hf0, hf1, hg4, hr4⟩
      have gl4 := gl3.pick hg4 hr4
      clear hg4 hr4 hf0 hf1 gl3
      obtain ⟨_, z5, z6⟩ := gl4.lt
      go_wp2_with (at_builtin; refine wpList_append_own _ rfl _ _ 35 rfl w.heap.size 40 i0 (.agg #[.int .i64 0, .int .i64 0, .bool false]) 3 24 Try.underlying35 hi0 hz0 hz1 hz2 rfl (by decide) _ _ _ rfl (gl4.alloc _).own.out ⟨w4.heap.size, 0, none⟩ 1 1 [.int .i64 x1, .int .i64 x2, .bool (f == 0)] rfl rfl (by simpa using cells_new w4 _ _) ?c2 ?c3 ?c4 ?c5 ?_)
      case c2 => simp [Value.oneCell']
      case c3 => unfold maxLen; omega
      case c4 => omega
      case c5 => simp; omega
      case _ =>
        intro v1 w5 h1 hg5 _
        have gl5 := gl4.snoc (x := ⟨x1, x2, f == 0⟩) h1 hg5
        obtain ⟨A5, c5, rfl, _, _, _⟩ := OwnS.form gl5.own
        have e5 : (l ++ [(⟨x1, x2, f == 0⟩ : Hst)]).length = l.length + 1 := by simp
        clear h1 hg5 gl4
        rw [e5] at gl5
        go_wp2
        go_roundw
        case rel => exact ⟨k - 1, q + 1 + 1 + 1, A5, c5, l ++ [⟨x1, x2, f == 0⟩], by go_num, by rw [e5]; omega, by rw [e5]; omega, by omega, by rw [e5], by rw [e5]; exact gl5⟩
        case measure => simp [intOf]; omega
    · have hki : ¬ (0 : Int) < (k : Int) := by omega
      go_wp2_with fail
      refine (pick_any g q 16 _ gl.rd (by omega)).mono ?_
      rintro e w2 ⟨x, rfl, hx0, hx1, hg2, hr2⟩
      have gl2 := gl.pick hg2 hr2
      clear hg2 hr2 hx1 gl
      rcases hx : (x == 0) with _ | _
      · go_wp2
        go_ret
        exact ⟨A, c, l, q + 1, rfl, gl2, by omega, by omega⟩
      · go_wp2_with fail
        refine (pick_any g (q + 1) (l.length : Int) _ gl2.rd (by omega)).mono ?_
        rintro e w3 ⟨y, rfl, hy0, hy1, hg3, hr3⟩
        have gl3 := gl2.pick hg3 hr3
        obtain ⟨j, rfl⟩ : ∃ j : Nat, y = j := ⟨y.toNat, by omega⟩
        have hji := hy1 (by omega)
        have hj : j < l.length := by omega
        clear hg3 hr3 hy1 gl2
        obtain ⟨_, z5, z6⟩ := gl3.lt
        go_wp2_with fail
        refine (one_any g (q + 1 + 1) _ 3 _ [101, -1, 0] _ (gl3.alloc _).rd (by omega) (At.new w3 3 _) (by rfl) (by omega) (by rfl) (by omega) (by omega)).mono ?_
        rintro e w4 ⟨y1, rfl, hy1, hg4, hr4⟩
        have gl4 := (gl3.alloc _).pick hg4 hr4
        clear hg4 hr4 hy1 gl3
        obtain ⟨_, z5, z6⟩ := gl4.lt
        go_wp2_with fail
        refine (one_any g (q + 1 + 1 + 1) _ 3 _ [1001, 5, -1] _ (gl4.alloc _).rd (by omega) (At.new w4 3 _) (by rfl) (by omega) (by rfl) (by omega) (by omega)).mono ?_
        rintro e w5 ⟨y2, rfl, hy2, hg5, hr5⟩
        have gl5 := (gl4.alloc _).pick hg5 hr5
        clear hg5 hr5 hy2 gl4
        obtain ⟨_, z5, z6⟩ := gl5.lt
        obtain ⟨gg, cc, hvv, hcc, _⟩ := own_blockH gl5.own.out (by omega)
        injection hvv with v1 v2 v3
        subst v1 v3
        obtain ⟨x0, x1, x2⟩ := host_at gl5.own.out hj
        have hfr := row_thaw gl5.own.out
        have hput := host_put gl5.own.out hj ⟨y1, y2, false⟩
        have HP := hid hput
        clear hput
        have gl7 : GH w (((w5.setCell ⟨gg, j * 3, none⟩ (.int .i64 y1)).setCell ⟨gg, j * 3 + 1, none⟩ (.int .i64 y2)).setCell ⟨gg, j * 3 + 2, none⟩ (.bool false)) g (q + 1 + 1 + 1 + 1) (.slice (some ⟨gg, 0, none⟩) l.length c) (l.set j ⟨y1, y2, false⟩) := put_threeH gl5 (by rw [List.length_set]; exact HP.out)
        go_wp2
        go_ret
        exact ⟨some ⟨gg, 0, none⟩, c, l.set j ⟨y1, y2, false⟩, q + 1 + 1 + 1 + 1, by simp, by rw [List.length_set]; exact gl7, by rw [List.length_set]; omega, by omega⟩

end Go.Proofs.Ytmaocmgnkdieeab

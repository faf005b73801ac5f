/-
  What the model's anyWishes and the functions answer that draw the arguments of the laws on wishes. Condition: the reader stands at a place below 1000; the code is at most 2^20 bytes.
-/
import Derived.Test.YtolcnokmdohbaaaWiA
import Derived.Test.YtolcnokmdohbaaaSsWish
import Derived.Test.YtolcnokmdohbaaaDraws
import Derived.Test.YtolcnokmdohbaaaReadB
namespace Go.Proofs.Ytolcnokmdohbaaa
open Go.RowKit Wis

abbrev GW := GLs (α := Wi) 40 3 wcells
abbrev DW := DLs (α := Wi) 40 3 wcells 13
theorem own_blockW {w : World} {base : Nat} {t : TypeId} {s n : Nat} {v : Value} {xs : List Value} (h : w.ownsRow base t s v n xs) (hn : 0 < n) : ∃ g c, v = .slice (some ⟨g, 0, none⟩) n c ∧ n ≤ c ∧ c ≤ maxLen := by
  rcases h.2 with ⟨_, e⟩ | ⟨g, cap, cur, e, _, _, h1, h2, _⟩
  · omega
  · exact ⟨g, cap, e, h1, h2⟩
theorem put_three {w0 wr : World} {g q gg n c i j k : Nat} {u u' u'' : Value} {l l' : List Wi} (h : GW w0 wr g q (.slice (some ⟨gg, 0, none⟩) n c) l) (h' : (((wr.setCell ⟨gg, i, none⟩ u).setCell ⟨gg, j, none⟩ u').setCell ⟨gg, k, none⟩ u'').ownsRow w0.heap.size 40 3 (.slice (some ⟨gg, 0, none⟩) n c) l'.length (strip wcells l')) : GW w0 (((wr.setCell ⟨gg, i, none⟩ u).setCell ⟨gg, j, none⟩ u').setCell ⟨gg, k, none⟩ u'') g q (.slice (some ⟨gg, 0, none⟩) n c) l' := by
  obtain ⟨h1, h2, h3, h4⟩ := h
  have hgg : w0.heap.size ≤ gg := (h1.lt gg rfl).1
  refine ⟨h', ((h2.far (by simp; omega) u).far (by simp; omega) u').far (by simp; omega) u'', ?_, h4⟩
  exact ⟨h3.os, h3.tape, h3.output, by simpa [World.setCell] using h3.size, fun q hq hn => (((Below.heap_setCell _ ⟨gg, k, none⟩ u'' q (by simp; omega)).trans (Below.heap_setCell _ ⟨gg, j, none⟩ u' q (by simp; omega))).trans (Below.heap_setCell wr ⟨gg, i, none⟩ u q (by simp; omega))).trans (h3.block q hq hn)⟩

set_option maxHeartbeats 4000000 in
theorem anyWishes_any (g p : Nat) (w : World) (h : Rd w g p) (hp : p < 1000) :
    Calls Try.prog 37 #[.pointer (some ⟨g, 0, none⟩)] w (ListAns (α := Wi) 40 3 wcells 13 60 w g p) := by
  have hg := h.lt
  obtain ⟨i0, hi0, hz0, hz1, hz2⟩ := info_parts wishInfo
  have gl0 : GW w (w.alloc (.cells #[] 40)) g p (.slice (some ⟨w.heap.size, 0, none⟩) 0 0) [] :=
    ⟨OwnS.made w (Nat.le_refl _), h.alloc _, grown_of_below ((Below.refl _ _).alloc (Nat.le_refl _) _) _, hg⟩
  go_enter Try.func37, Try.ntmps37
  go_wp2_with fail
  refine (pick_any g p 10 _ gl0.rd (by omega)).mono ?_
  rintro e w0 ⟨t0, rfl, ht0, ht1, hg0, hr0⟩
  have gl00 := gl0.pick hg0 hr0
  have ht2 := ht1 (by omega)
  clear hg0 hr0 ht1 gl0
  go_wp2_with fail
  refine (one_any g (p + 1) _ 7 _ [5, 8, 3, 12, 1, 0, 13] _ (gl00.alloc _).rd (by omega) (At.newAt 3 _ (by simp)) (by rfl) (by have := gl00.lt; omega) (by rfl) (by omega) (by omega)).mono ?_
  rintro e w1 ⟨n0, rfl, hn0, hg1, hr1⟩
  have hn0' : ∃ k : Nat, n0 = k ∧ k ≤ 13 := ⟨n0.toNat, by simp at hn0; omega, by simp at hn0; omega⟩
  obtain ⟨k0, rfl, hk0⟩ := hn0'
  clear hn0
  have gl1 := (gl00.alloc _).pick hg1 hr1
  clear hg1 hr1 gl00
  go_wp2_with fail
  go_loopw [3, 4, 5] (fun v now i wr => ∃ (k q : Nat) (A : Option Addr) (c : Nat) (l : List Wi) (t : Int), i = .int .i64 k ∧ l.length + k ≤ 13 ∧ q + 3 * k ≤ p + 45 ∧ v = .slice A l.length c ∧ now = .int .i64 t ∧ 0 ≤ t ∧ t + 10 * k ≤ 200 ∧ GW w wr g q (.slice A l.length c) l) (fun _ _ i _ => (intOf i).toNat)
  case atStart => exact ⟨k0, p + 1 + 1, _, _, [], t0, rfl, by simp; omega, by omega, rfl, rfl, ht0, by omega, gl1⟩
  case round =>
    clear gl1
    obtain ⟨k, q, A, c, l, t, rfl, hk, hq, rfl, rfl, htt, htb, gl⟩ := hrel
    obtain ⟨z1, z2, z3⟩ := gl.lt
    by_cases hk0 : 0 < k
    · have hki : (0 : Int) < (k : Int) := by omega
      go_wp2_with fail
      refine (pick_any g q 30 _ gl.rd (by omega)).mono ?_
      rintro e w2 ⟨f, rfl, hf0, hf1, hg2, hr2⟩
      have gl2 := gl.pick hg2 hr2
      have hf2 := hf1 (by omega)
      clear hg2 hr2 hf1 gl
      obtain ⟨_, z5, z6⟩ := gl2.lt
      have hw1 : IntKind.i64.wrap (1 + f) = 1 + f := by rw [IntKind.wrap_i64]; omega
      go_wp2_with fail
      refine (one_any g (q + 1) _ 5 _ [0, 5, 10, 30, 100] _ (gl2.alloc _).rd (by omega) (At.new w2 3 _) (by rfl) (by omega) (by rfl) (by omega) (by omega)).mono ?_
      rintro e w3 ⟨u, rfl, hu, hg3, hr3⟩
      have gl3 := (gl2.alloc _).pick hg3 hr3
      clear hg3 hr3 hu gl2
      obtain ⟨_, z5, z6⟩ := gl3.lt
      go_wp2_with (at_builtin; refine wpList_append_own _ rfl _ _ 25 rfl w.heap.size 40 i0 (.agg #[.int .i64 0, .int .i64 0, .int .i64 0]) 3 24 Try.underlying25 hi0 hz0 hz1 hz2 rfl (by decide) _ _ _ rfl (gl3.alloc _).own.out ⟨w3.heap.size, 0, none⟩ 1 1 [.int .i64 t, .int .i64 (1 + f), .int .i64 u] rfl rfl (by simpa using cells_new w3 _ _) ?c2 ?c3 ?c4 ?c5 ?_)
      case c2 => simp [Value.oneCell']
      case c3 => unfold maxLen; omega
      case c4 => omega
      case c5 => simp; omega
      case _ =>
        intro v1 w5 h1 hg5 _
        have gl5 := gl3.snoc (x := ⟨t, 1 + f, u⟩) h1 hg5
        obtain ⟨A5, c5, rfl, _, _, _⟩ := OwnS.form gl5.own
        have e5 : (l ++ [(⟨t, 1 + f, u⟩ : Wi)]).length = l.length + 1 := by simp
        clear h1 hg5 hw1 gl3
        rw [e5] at gl5
        obtain ⟨_, z5, z6⟩ := gl5.lt
        go_wp2_with fail
        refine (one_any g (q + 1 + 1) _ 5 _ [0, 1, 5, 10, 3] _ (gl5.alloc _).rd (by omega) (At.new w5 3 _) (by rfl) (by omega) (by rfl) (by omega) (by omega)).mono ?_
        rintro e w6 ⟨s, rfl, hs, hg6, hr6⟩
        have gl6 := (gl5.alloc _).pick hg6 hr6
        have hs2 : 0 ≤ s ∧ s ≤ 10 := by simp at hs; omega
        obtain ⟨hs3, hs4⟩ := hs2
        clear hg6 hr6 hs gl5
        have hw2 : IntKind.i64.wrap (t + s) = t + s := by rw [IntKind.wrap_i64]; omega
        go_wp2
        go_roundw
        case rel => exact ⟨k - 1, q + 1 + 1 + 1, A5, c5, l ++ [⟨t, 1 + f, u⟩], t + s, by go_num, by rw [e5]; omega, by omega, by rw [e5], by go_num, by omega, by omega, by rw [e5]; exact gl6⟩
        case measure => simp [intOf]; omega
    · have hki : ¬ (0 : Int) < (k : Int) := by omega
      by_cases hl0 : 0 < l.length
      · have hli : (0 : Int) < (l.length : Int) := by omega
        go_wp2_with fail
        refine (pick_any g q 16 _ gl.rd (by omega)).mono ?_
        rintro e w2 ⟨x, rfl, hx0, hx1, hg2, hr2⟩
        have gl2 := gl.pick hg2 hr2
        clear hg2 hr2 hx1 gl
        rcases hx : (x == 0) with _ | _
        · go_wp2
          go_ret
          exact ⟨A, c, l, q + 1, rfl, gl2, by omega, by omega⟩
        · go_wp2_with fail
          refine (pick_any g (q + 1) (l.length : Int) _ gl2.rd (by omega)).mono ?_
          rintro e w3 ⟨y, rfl, hy0, hy1, hg3, hr3⟩
          have gl3 := gl2.pick hg3 hr3
          obtain ⟨j, rfl⟩ : ∃ j : Nat, y = j := ⟨y.toNat, by omega⟩
          have hji := hy1 (by omega)
          have hj : j < l.length := by omega
          clear hg3 hr3 hy1 gl2
          obtain ⟨_, z5, z6⟩ := gl3.lt
          go_wp2_with fail
          refine (one_any g (q + 1 + 1) _ 3 _ [-1, 5, 1001] _ (gl3.alloc _).rd (by omega) (At.new w3 3 _) (by rfl) (by omega) (by rfl) (by omega) (by omega)).mono ?_
          rintro e w4 ⟨y1, rfl, hy1, hg4, hr4⟩
          have gl4 := (gl3.alloc _).pick hg4 hr4
          clear hg4 hr4 hy1 gl3
          obtain ⟨_, z5, z6⟩ := gl4.lt
          go_wp2_with fail
          refine (one_any g (q + 1 + 1 + 1) _ 3 _ [0, 5, 101] _ (gl4.alloc _).rd (by omega) (At.new w4 3 _) (by rfl) (by omega) (by rfl) (by omega) (by omega)).mono ?_
          rintro e w5 ⟨y2, rfl, hy2, hg5, hr5⟩
          have gl5 := (gl4.alloc _).pick hg5 hr5
          clear hg5 hr5 hy2 gl4
          obtain ⟨_, z5, z6⟩ := gl5.lt
          go_wp2_with fail
          refine (one_any g (q + 1 + 1 + 1 + 1) _ 3 _ [0, -1, 101] _ (gl5.alloc _).rd (by omega) (At.new w5 3 _) (by rfl) (by omega) (by rfl) (by omega) (by omega)).mono ?_
          rintro e w6 ⟨y3, rfl, hy3, hg6, hr6⟩
          have gl6 := (gl5.alloc _).pick hg6 hr6
          clear hg6 hr6 hy3 gl5
          obtain ⟨gg, cc, hvv, hcc, _⟩ := own_blockW gl6.own.out hl0
          injection hvv with v1 v2 v3
          subst v1 v3
          obtain ⟨x0, x1, x2⟩ := wish_at gl6.own.out hj
          have hfr := row_thaw gl6.own.out
          have hput := wish_put gl6.own.out hj ⟨y1, y2, y3⟩
          have HP := hid hput
          clear hput
          have gl7 : GW w (((w6.setCell ⟨gg, j * 3, none⟩ (.int .i64 y1)).setCell ⟨gg, j * 3 + 1, none⟩ (.int .i64 y2)).setCell ⟨gg, j * 3 + 2, none⟩ (.int .i64 y3)) g (q + 1 + 1 + 1 + 1 + 1) (.slice (some ⟨gg, 0, none⟩) l.length c) (l.set j ⟨y1, y2, y3⟩) := put_three gl6 (by rw [List.length_set]; exact HP.out)
          go_wp2
          go_ret
          exact ⟨some ⟨gg, 0, none⟩, c, l.set j ⟨y1, y2, y3⟩, q + 1 + 1 + 1 + 1 + 1, by simp, by rw [List.length_set]; exact gl7, by rw [List.length_set]; omega, by omega⟩
      · have hli : ¬ (0 : Int) < (l.length : Int) := by omega
        go_wp2
        go_ret
        exact ⟨A, c, l, q, rfl, gl, by omega, by omega⟩

def WiD0 (w : World) (e : Ending) (w' : World) : Prop := ∃ A c l, e = .returned (.slice A (List.length l) c) ∧ DW w w' A c l
def WiD1 (w : World) (e : Ending) (w' : World) : Prop := ∃ A c l, ∃ i : Int, e = .returned (.tuple #[.slice A (List.length l) c, .int .i64 i]) ∧ DW w w' A c l ∧ 0 ≤ i ∧ i ≤ 7
set_option maxHeartbeats 1000000 in
theorem drawValidWishes_any (A : Option Addr) (n c : Nat) (zs : List Int) (w : World) (h : Sees w w.heap.size A (byts zs)) (hz : ∀ z ∈ zs, 0 ≤ z ∧ z ≤ 255) (hn : zs.length = n) (hc : n ≤ c) (hm : n ≤ 1048576) (hcc : c ≤ maxLen) :
    Calls Try.prog 26 #[.slice A n c] w (WiD0 w) := by
  have HZ := hid hz
  have HE := hid hn
  have HC := hid hcc
  clear hz hn hcc
  go_enter Try.func26, Try.ntmps26
  go_wp2_with fail
  refine (newReader_any A n c zs _ h HZ.out HE.out hc hm HC.out).mono ?_
  rintro e w1 ⟨rfl, hb1, hr1⟩
  go_wp2_with fail
  refine (anyWishes_any w.heap.size 0 _ hr1 (by omega)).mono ?_
  rintro e w2 ⟨A2, c2, l, q, rfl, gl, hl, hq⟩
  go_wp2
  go_ret
  exact ⟨A2, c2, l, rfl, DLs.of_gl hb1 gl (Nat.le_refl _) hl⟩

end Go.Proofs.Ytolcnokmdohbaaa

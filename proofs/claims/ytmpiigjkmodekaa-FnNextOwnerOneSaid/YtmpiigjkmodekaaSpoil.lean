/-
  What spoil answers. Conditions: the list lies in memory and is at most 1000 long; the reader stands at a place below 1000.
-/
import Derived.Test.YtmpiigjkmodekaaSeesF
import Derived.Test.YtmpiigjkmodekaaOwnI
import Derived.Test.YtmpiigjkmodekaaApp
import Derived.Test.YtmpiigjkmodekaaReadB
namespace Go.Proofs.Ytmpiigjkmodekaa
open Go.RowKit

/-- A list of numbers in a block that was made by the call; only the reader's block has changed. -/
def SpoilAns (m : Nat) (w : World) (g p : Nat) (e : Ending) (w' : World) : Prop := ∃ (A : Option Addr) (c : Nat) (ys : List Int) (q : Nat),
  e = .returned (.slice A ys.length c) ∧ ys.length ≤ c ∧ ys.length ≤ m + 1 ∧ SeesF w' (fun b => b < w.heap.size) A (ints ys) ∧ w.grownBy w' (some g) ∧ Rd w' g q ∧ q ≤ p + 3
theorem row_new {w : World} {B n c : Nat} {A : Option Addr} {ys : List Int} (h : w.ownsRow B 3 1 (.slice A n c) n (ints ys)) : SeesF w (fun b => b < B) A (ints ys) := SeesF.of_row h fun b hb _ hh => by omega
theorem row_int' {w : World} {base g n c : Nat} {K : List Int} (h : w.ownsRow base 3 1 (.slice (some ⟨g, 0, none⟩) n c) n (ints K)) {i : Nat} (hi : i < K.length) : w.cell? ⟨g, i, none⟩ = some (.int .i64 K[i]) := by
  obtain ⟨b, o, e, _, hc⟩ := (Sees.of_own h).int hi
  injection e with e
  injection e with e1 e2
  subst e1 e2
  simpa using hc
theorem row_some {w : World} {base : Nat} {v : Value} {ys : List Int} (h : Own w base v ys) (hn : 0 < ys.length) : ∃ g c, v = .slice (some ⟨g, 0, none⟩) ys.length c ∧ ys.length ≤ c := by
  rcases h.2 with ⟨_, e⟩ | ⟨g, cap, cur, e, _, _, h1, h2, _⟩
  · omega
  · exact ⟨g, cap, e, h1⟩
theorem seesF_tail {w : World} {F : Nat → Prop} {g : Nat} {ys : List Int} (h : SeesF w F (some ⟨g, 0, none⟩) (ints ys)) : SeesF w F (some ⟨g, 1, none⟩) (ints (ys.drop 1)) := by
  have e : ints (ys.drop 1) = (ints ys).drop 1 := by simp [ints]
  rw [e]
  intro hx
  obtain ⟨b, o, e1, h1, h2, h3⟩ := h (by intro e2; rw [e2] at hx; simp at hx)
  injection e1 with e1
  injection e1 with e1 e2
  subst e1 e2
  refine ⟨g, 1, rfl, h1, h2, fun j u hu => ?_⟩
  rw [← h3 (1 + j) u (by rw [← hu, List.getElem?_drop])]
  simp
theorem ints_put (l : List Int) (i : Nat) (x : Int) : (ints l).set i (.int .i64 x) = ints (l.set i x) := by simp [ints, List.map_set]
set_option maxHeartbeats 4000000 in
theorem spoil_any (g p : Nat) (A : Option Addr) (c : Nat) (xs : List Int) (n : Int) (w : World) (h : Sees w w.heap.size A (ints xs)) (hr : Rd w g p) (hp : p < 1000) (hn : xs.length ≤ 1000) :
    Calls Try.prog 20 #[.pointer (some ⟨g, 0, none⟩), .slice A xs.length c, .int .i64 n] w (SpoilAns xs.length w g p) := by
  obtain ⟨i0, hi0, hz0, hz1, hz2⟩ := info_parts intInfo
  have HN := hid hn
  have hgl := hr.lt
  clear hn
  go_enter Try.func20, Try.ntmps20
  go_wp2_with fail
  with_reducible refine (copyInts_any A c xs _ h (Nat.le_trans HN.out (by decide))).mono ?_
  rintro e w1 ⟨v1, rfl, ho1, hb1⟩
  have hr1 := hr.below hb1 hgl
  have hg1 := grown_of_below hb1 (some g)
  have hz1' := hb1.size
  clear hb1 hr
  obtain ⟨A1, c1, rfl, hc1, _⟩ := own_form ho1.out
  go_wp2_with fail
  refine (pick_any g p 20 _ hr1 (by omega)).mono ?_
  rintro e w2 ⟨x, rfl, hx0, hx1, hg2, hr2⟩
  have hx1 := hx1 (by omega)
  have ho2 : Own w2 w.heap.size (.slice A1 xs.length c1) xs := row_kept ho1.out hg2 (fun k hk e => by injection e with e; have := (ho1.out.lt k hk).1; omega)
  have hg02 := grown_trans hg1 hg2
  have hz2' := hg2.size
  clear ho1 hg1 hg2 hr1
  have hsame : SpoilAns xs.length w g p (.returned (.slice A1 xs.length c1)) w2 := ⟨A1, c1, xs, p + 1, rfl, hc1, by omega, row_new ho2.out, hg02, hr2, by omega⟩
  have HSA := hid hsame
  clear hsame
  have hn := HN.out
  by_cases x0 : x = 0
  · subst x0
    go_wp2_with (at_builtin; refine wpList_append_own _ rfl _ _ 23 rfl w.heap.size 3 i0 (.int .i64 0) 1 8 Try.underlying23 hi0 hz0 hz1 hz2 rfl (by decide) _ _ _ rfl (own_alloc ho2.out _) ⟨w2.heap.size, 0, none⟩ 1 1 [.int .i64 n] rfl rfl (cell_one_new _ _ _) ?c2 ?c3 ?c4 ?c5 ?_)
    case c2 => simp [Value.oneCell']
    case c3 => unfold maxLen; omega
    case c4 => omega
    case c5 => simp; omega
    case _ =>
      intro v3 w3 h1 hg3 _
      obtain ⟨A3, c3, rfl, hc3, _⟩ := own_form h1
      have hlow := ho2.out.lt
      have hr3 := (hr2.alloc (.cells #[.int .i64 n] 3)).below (B := w.heap.size) ((Below.refl _ _).grown hg3 (by simp; omega) (fun k hk => (hlow k hk).1)) hgl
      have hb3 : Below w.heap.size w2 w3 := ((Below.refl w.heap.size w2).alloc (by omega) (.cells #[.int .i64 n] 3)).grown hg3 (by simp; omega) (fun k hk => (hlow k hk).1)
      have hg4 : w.grownBy w3 (some g) := ⟨hb3.os.trans hg02.os, hb3.tape.trans hg02.tape, hb3.output.trans hg02.output, Nat.le_trans hg02.size hb3.size, fun k hk hne => (hb3.block k hk).trans (hg02.block k hk hne)⟩
      have hs3 : SeesF w3 (fun b => b < w.heap.size) A3 (ints (xs ++ [n])) := by
        refine row_new (n := xs.length + 1) (c := c3) ?_
        rw [ints_app]; exact h1
      have HS := hid (⟨A3, c3, xs ++ [n], p + 1, by simp, by simpa using hc3, by simp, hs3, hg4, hr3, by omega⟩ : SpoilAns xs.length w g p (.returned (.slice A3 (xs.length + 1) c3)) w3)
      clear h1 hg3 hr3 hb3 hg4 hs3 hlow ho2
      go_wp2
      go_ret
      exact HS.out
  have b0 : (x == 0) = false := beq_eq_false_iff_ne.2 x0
  by_cases x1 : x = 1
  · subst x1
    clear x0 b0
    by_cases hl : 0 < xs.length
    · obtain ⟨gg, cc, he, hcc⟩ := row_some ho2 hl
      injection he with he1 _ he3
      subst he1 he3
      have hli : (0 : Int) < (xs.length : Int) := by omega
      have h1l : (1 : Int) ≤ (xs.length : Int) := by omega
      have h1c : (1 : Int) ≤ (c1 : Int) := by omega
      have hlc : (xs.length : Int) ≤ (c1 : Int) := by omega
      have hs2 := seesF_tail (row_new ho2.out)
      have hdl : (xs.drop 1).length = xs.length - 1 := List.length_drop
      by_cases hc : c1 = 1
      · subst hc
        have hx1 : xs.length = 1 := by omega
        have hnil : xs.drop 1 = [] := List.eq_nil_of_length_eq_zero (by omega)
        have HS := hid (fun (A : Option Addr) (c : Nat) => (⟨A, c, [], p + 1, rfl, Nat.zero_le _, Nat.zero_le _, fun hx => absurd rfl hx, hg02, hr2, by omega⟩ : SpoilAns xs.length w g p (.returned (.slice A 0 c)) w2))
        have HX := hid hx1
        have HX0 := hid (show xs.length - 1 = 0 by omega)
        clear hs2 hdl hx1 hnil ho2
        go_wp2
        go_ret
        first
          | exact HS.out _ _
          | (rw [HX0.out]; exact HS.out _ _)
          | (have := HX0.out; simp only [this]; exact HS.out _ _)
      · have hcne : ¬ 1 = c1 := fun e => hc e.symm
        have HS := hid (⟨some ⟨gg, 1, none⟩, c1 - 1, xs.drop 1, p + 1, by rw [hdl], by omega, by omega, hs2, hg02, hr2, by omega⟩ : SpoilAns xs.length w g p (.returned (.slice (some ⟨gg, 1, none⟩) (xs.length - 1) (c1 - 1))) w2)
        clear hs2 hdl ho2
        go_wp2
        go_ret
        exact HS.out
    · have hli : ¬ (0 : Int) < (xs.length : Int) := by omega
      go_wp2
      go_ret
      exact HSA.out
  have b1 : (x == 1) = false := beq_eq_false_iff_ne.2 x1
  by_cases x2 : x = 2
  · subst x2
    by_cases hl : 0 < xs.length
    · have hli : (0 : Int) < (xs.length : Int) := by omega
      obtain ⟨gg, cc, he, hcc⟩ := row_some ho2 hl
      injection he with he1 _ he3
      subst he1 he3
      clear x0 x1 b0 b1
      go_wp2_with fail
      refine (pick_any g (p + 1) (xs.length : Int) _ hr2 (by omega)).mono ?_
      rintro e w3 ⟨y, rfl, hy0, hy1, hg3, hr3⟩
      have hy1 := hy1 (by omega)
      obtain ⟨j, rfl⟩ : ∃ j : Nat, y = j := ⟨y.toNat, by omega⟩
      have ho3 : Own w3 w.heap.size (.slice (some ⟨gg, 0, none⟩) xs.length c1) xs := row_kept ho2.out hg3 (fun k hk e => by injection e with e; have := (ho2.out.lt k hk).1; omega)
      have hg03 := grown_trans hg02 hg3
      have hz3' := hg3.size
      clear ho2 hg02 hg3 hr2
      go_wp2_with fail
      refine (one_any g (p + 1 + 1) _ 4 _ [-1, n, 0, 1] _ (hr3.alloc _) (by omega) (At.newAt 3 _ (by simp)) (by rfl) (by omega) (by rfl) (by omega) (by omega)).mono ?_
      rintro e w4 ⟨z, rfl, _, hg4, hr4⟩
      have ho3a := own_alloc ho3.out (.cells #[.int .i64 (-1), .int .i64 n, .int .i64 0, .int .i64 1] 3)
      have ho4 : Own w4 w.heap.size (.slice (some ⟨gg, 0, none⟩) xs.length c1) xs := row_kept ho3a hg4 (fun k hk e => by injection e with e; have := (ho3.out.lt k hk).1; omega)
      have hg04 : w.grownBy w4 (some g) := grown_trans hg03 (grown_trans (grown_of_below ((Below.refl _ _).alloc (Nat.le_refl _) _) _) hg4)
      have hjl : j < xs.length := by omega
      have e4 := row_int' ho4.out hjl
      have hfr := row_thaw ho4.out
      have hbg := row_base ho4.out
      have hput := row_put ho4.out j (.int .i64 z)
      rw [ints_put] at hput
      have hgs := grown_set w4 gg j (.int .i64 z)
      have hr5 : Rd (w4.setCell ⟨gg, j, none⟩ (.int .i64 z)) g (p + 1 + 1 + 1) := hr4.far (by simp; omega) _
      have hg05 : w.grownBy (w4.setCell ⟨gg, j, none⟩ (.int .i64 z)) (some g) := ⟨hgs.os.trans hg04.os, hgs.tape.trans hg04.tape, hgs.output.trans hg04.output, Nat.le_trans hg04.size hgs.size, fun k hk hne => (hgs.block k (Nat.lt_of_lt_of_le hk hg04.size) (fun e => by injection e with e; omega)).trans (hg04.block k hk hne)⟩
      have hlen : (xs.set j z).length = xs.length := List.length_set
      have HS := hid (⟨some ⟨gg, 0, none⟩, c1, xs.set j z, p + 1 + 1 + 1, by rw [hlen], by omega, by omega, row_new hput, hg05, hr5, by omega⟩ : SpoilAns xs.length w g p (.returned (.slice (some ⟨gg, 0, none⟩) xs.length c1)) (w4.setCell ⟨gg, j, none⟩ (.int .i64 z)))
      clear hput hgs hr5 hg05 hlen ho3 ho3a ho4 hg03 hg04 hg4 hr3 hr4
      go_wp2
      go_ret
      exact HS.out
    · have hli : ¬ (0 : Int) < (xs.length : Int) := by omega
      go_wp2
      go_ret
      exact HSA.out
  · have b2 : (x == 2) = false := beq_eq_false_iff_ne.2 x2
    go_wp2
    go_ret
    exact HSA.out

end Go.Proofs.Ytmpiigjkmodekaa

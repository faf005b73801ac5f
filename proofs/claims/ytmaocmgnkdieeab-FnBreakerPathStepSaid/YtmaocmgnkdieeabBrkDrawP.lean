/-
  What the model's someTimes and DrawBreakerPath answer. Condition: the code is at most 2^20 bytes.
-/
import Derived.Test.YtmaocmgnkdieeabBrkGen
import Derived.Test.YtmaocmgnkdieeabBrkQ0
import Derived.Test.YtmaocmgnkdieeabChkGen
import Derived.Test.YtmaocmgnkdieeabSpoil
import Derived.Test.YtmaocmgnkdieeabSeesF
import Derived.Test.YtmaocmgnkdieeabOwnX
import Derived.Deep.RegionHeld3
namespace Go.Proofs.Ytmaocmgnkdieeab
open Go.RowKit Brk

theorem grown_low' {w0 wr w' : World} {g B : Nat} (h : w0.grownBy wr (some g)) (hb : Below B wr w') (hB : w0.heap.size ≤ B) : w0.grownBy w' (some g) :=
  ⟨hb.os.trans h.os, hb.tape.trans h.tape, hb.output.trans h.output, Nat.le_trans h.size hb.size, fun i hi hne => (hb.block i (by omega)).trans (h.block i hi hne)⟩
/-- Times that were drawn: they lie in new blocks; only the reader's block has changed. -/
def TimesAns (w : World) (g : Nat) (e : Ending) (w' : World) : Prop := ∃ (A : Option Addr) (c : Nat) (ys : List Int) (q : Nat),
  e = .returned (.slice A ys.length c) ∧ ys.length ≤ c ∧ ys.length ≤ 14 ∧ SeesF w' (fun b => b < w.heap.size) A (ints ys) ∧ w.grownBy w' (some g) ∧ Rd w' g q
set_option maxHeartbeats 4000000 in
theorem someTimes_any (g p n0 : Nat) (t0 : Int) (w : World) (h : Rd w g p) (hp : p < 900) (hn : n0 ≤ 13) (ht : 0 ≤ t0 ∧ t0 ≤ 49) :
    Calls Try.prog 17 #[.pointer (some ⟨g, 0, none⟩), .int .i64 n0, .int .i64 t0] w (TimesAns w g) := by
  have hg := h.lt
  obtain ⟨i0, hi0, hz0, hz1, hz2⟩ := info_parts intInfo
  have hr0 := h.alloc (.cells #[] 3)
  have ho0 : Own (w.alloc (.cells #[] 3)) w.heap.size (.slice (some ⟨w.heap.size, 0, none⟩) 0 0) [] := made_at 3 1 rfl (Nat.le_refl _)
  have hg0 : w.grownBy (w.alloc (.cells #[] 3)) (some g) := grown_of_below ((Below.refl _ _).alloc (Nat.le_refl _) _) _
  have HT := hid (show ∀ y : Int, 0 ≤ y → y ≤ 20 → IntKind.i64.wrap (t0 + y) = t0 + y from fun y h1 h2 => by rw [IntKind.wrap_i64]; omega)
  go_enter Try.func17, Try.ntmps17
  go_wp2_with fail
  refine (pick_any g p 10 _ hr0 (by omega)).mono ?_
  rintro e w1 ⟨x, rfl, hx0, hx1, hg1, hr1⟩
  have hx9 := hx1 (by omega)
  have hww := HT.out x hx0 (by omega)
  have ho1 : Own w1 w.heap.size (.slice (some ⟨w.heap.size, 0, none⟩) 0 0) [] := row_kept ho0 hg1 (fun k hk e => by injection e with e; have := (World.ownsRow.lt ho0 k hk).1; omega)
  have hgg := grown_trans hg0 hg1
  have hz1' : w.heap.size ≤ w1.heap.size := hgg.size
  clear hr0 ho0 hg0 hg1
  go_wp2_with fail
  go_loopw [7, 8, 9] (fun v nw i wr => ∃ (k : Nat) (t : Int) (A : Option Addr) (c : Nat) (ys : List Int) (q : Nat), i = .int .i64 k ∧ nw = .int .i64 t ∧ 0 ≤ t ∧ t + 20 * k ≤ 400 ∧ ys.length + k ≤ 13 ∧ q + k ≤ p + 15 ∧ v = .slice A ys.length c ∧ Own wr w.heap.size v ys ∧ Rd wr g q ∧ w.grownBy wr (some g)) (fun _ _ i _ => (intOf i).toNat)
  case atStart => exact ⟨n0, t0 + x, _, _, [], p + 1, rfl, rfl, by omega, by omega, by simp; omega, by omega, rfl, ho1, hr1, hgg⟩
  case round =>
    clear ho1 hr1 hgg hww
    obtain ⟨k, t, A, c, ys, q, rfl, rfl, ht1, ht2, hk, hq, rfl, ho, hr, hgr⟩ := hrel
    have hzr := hgr.size
    by_cases hk0 : 0 < k
    · have hki : (0 : Int) < (k : Int) := by omega
      have hlow := ho.out.lt
      have hrl := hr.lt
      go_wp2_with (at_builtin; refine wpList_append_own _ rfl _ _ 26 rfl w.heap.size 3 i0 (.int .i64 0) 1 8 Try.underlying26 hi0 hz0 hz1 hz2 rfl (by decide) _ _ _ rfl (own_alloc ho.out _) ⟨wr.heap.size, 0, none⟩ 1 1 [.int .i64 t] rfl rfl (cell_one_new _ _ _) ?c2 ?c3 ?c4 ?c5 ?_)
      case c2 => simp [Value.oneCell']
      case c3 => unfold maxLen; omega
      case c4 => omega
      case c5 => simp; omega
      case _ =>
        intro v6 w6 h6 hg7 _
        have ho6 : Own w6 w.heap.size v6 (ys ++ [t]) := by unfold Own; rw [ints_app, List.length_append]; exact h6
        have hb6 : Below w.heap.size (wr.alloc (.cells #[.int .i64 t] 3)) w6 := (Below.refl _ _).grown hg7 (by simp; omega) (fun q hq => (hlow q hq).1)
        have hr6 := (hr.alloc (.cells #[.int .i64 t] 3)).below hb6 hg
        have hgw := grown_low' (grown_trans hgr (grown_of_below ((Below.refl _ _).alloc (Nat.le_refl _) (.cells #[.int .i64 t] 3)) (some g))) hb6 (Nat.le_refl _)
        obtain ⟨A6, c6, rfl, _⟩ := own_form h6
        have e6 : (ys ++ [t]).length = ys.length + 1 := by simp
        clear h6 hg7 hb6 hlow ho hr hgr
        have hz6 := hgw.size
        have hr6l := hr6.lt
        go_wp2_with fail
        refine (one_any g q _ 5 _ [0, 1, 5, 20, 3] _ (hr6.alloc _) (by omega) (At.newAt 3 _ (by simp)) (by rfl) (by simp; omega) (by rfl) (by omega) (by omega)).mono ?_
        rintro e w7 ⟨y, rfl, my, hg8, hr8⟩
        have hy : 0 ≤ y ∧ y ≤ 20 := by simp at my; omega
        have hty : IntKind.i64.wrap (t + y) = t + y := by rw [IntKind.wrap_i64]; omega
        have ho7 := row_kept (own_alloc ho6 _) hg8 (fun k hk e => by injection e with e; have := (World.ownsRow.lt ho6 k hk).1; omega)
        have hgw7 := grown_trans (grown_trans hgw (grown_of_below ((Below.refl _ _).alloc (Nat.le_refl _) (.cells #[.int .i64 0, .int .i64 1, .int .i64 5, .int .i64 20, .int .i64 3] 3)) (some g))) hg8
        clear ho6 hgw hg8 my hr6
        go_wp2
        go_roundw
        case rel => exact ⟨k - 1, t + y, A6, c6, ys ++ [t], q + 1, by go_num, rfl, by omega, by omega, by rw [e6]; omega, by omega, by rw [e6], (show Own w7 w.heap.size _ (ys ++ [t]) from by unfold Own; exact ho7), hr8, hgw7⟩
        case measure => simp [intOf]; omega
    · have hki : ¬ (0 : Int) < (k : Int) := by omega
      go_wp2_with fail
      refine (spoil_any g q A c ys 1001 _ (Sees.of_own ho) hr (by omega) (by omega)).mono ?_
      rintro e w5 ⟨A4, c4, zs, q5, rfl, hc4, hy4, hS4, hg5, hr5, hq5⟩
      go_wp2
      go_ret
      exact ⟨A4, c4, zs, q5, rfl, hc4, by omega, hS4.imp (fun b _ hb => by omega), grown_trans hgr hg5, hr5⟩

/-- A breaker, truth values and times that were drawn; nothing that was there has changed. -/
def BrD5 (w : World) (e : Ending) (w' : World) : Prop := ∃ (b : Br) (A : Option Addr) (c : Nat) (gs : List Bool) (A2 : Option Addr) (c2 : Nat) (ts : List Int),
  e = .returned (.tuple #[.agg #[.int .i64 b.li, .int .i64 b.re, .int .i64 b.st, .int .i64 b.fa, .int .i64 b.si], .slice A gs.length c, .slice A2 ts.length c2]) ∧ DT w w' A c gs ∧ SeesF w' (fun x => x < w.heap.size) A2 (ints ts) ∧ ts.length ≤ 14 ∧ ts.length ≤ c2
set_option maxHeartbeats 4000000 in
theorem drawBreakerPath_any (A : Option Addr) (n c : Nat) (zs : List Int) (w : World) (h : Sees w w.heap.size A (byts zs)) (hz : ∀ z ∈ zs, 0 ≤ z ∧ z ≤ 255) (hn : zs.length = n) (hc : n ≤ c) (hm : n ≤ 1048576) (hcc : c ≤ maxLen) :
    Calls Try.prog 5 #[.slice A n c] w (BrD5 w) := by
  have HZ := hid hz
  have HE := hid hn
  have HC := hid hcc
  clear hz hn hcc
  have pr0 := At.new w 24 #[.int .i64 0, .int .i64 0, .int .i64 0, .int .i64 0, .int .i64 0]
  have hB0 := (Below.refl w.heap.size w).alloc (Nat.le_refl _) (.cells #[.int .i64 0, .int .i64 0, .int .i64 0, .int .i64 0, .int .i64 0] 24)
  go_enter Try.func5, Try.ntmps5
  go_wp2_with fail
  refine (newReader_any A n c zs _ ((h.alloc (Nat.le_refl _) _).more (by simp)) HZ.out HE.out hc hm HC.out).mono ?_
  rintro e w1 ⟨rfl, hb1, hr1⟩
  have pr1 := pr0.below hb1 pr0.lt
  have hB1 := hB0.trans (hb1.mono hB0.size)
  clear pr0 hB0 hb1
  simp only [World.size_alloc] at hr1
  have hl1 := hr1.lt
  obtain ⟨g, hg⟩ : ∃ g, g = w.heap.size + 1 := ⟨_, rfl⟩
  rw [← hg] at hr1 hl1
  go_wp2_with fail
  simp only [← hg]
  refine (anyBreaker_any g 0 _ hr1 (by omega)).mono ?_
  rintro e w2 ⟨b, q, rfl, hg2, hr2, hq, hs0, hs1⟩
  have pr2 := pr1.past hg2 (by omega)
  have hB2 := hB1.trans (below_of_grown hg2 (B := w.heap.size) (by omega) (by omega))
  clear pr1 hB1 hr1
  have hl2 := hr2.lt
  have px3 := At.new w2 24 #[.int .i64 b.li, .int .i64 b.re, .int .i64 b.st, .int .i64 b.fa, .int .i64 b.si]
  have pr3 := pr2.alloc (.cells #[.int .i64 b.li, .int .i64 b.re, .int .i64 b.st, .int .i64 b.fa, .int .i64 b.si] 24)
  have hB3 := hB2.alloc hB2.size (.cells #[.int .i64 b.li, .int .i64 b.re, .int .i64 b.st, .int .i64 b.fa, .int .i64 b.si] 24)
  have hr3 := hr2.alloc (.cells #[.int .i64 b.li, .int .i64 b.re, .int .i64 b.st, .int .i64 b.fa, .int .i64 b.si] 24)
  have hgm : g < w2.heap.size := by have := hg2.size; omega
  have hwg : w.heap.size < g := by omega
  clear pr2 hB2 hg2
  obtain ⟨m, hm2⟩ : ∃ m, m = w2.heap.size := ⟨_, rfl⟩
  obtain ⟨w3, hw3⟩ : ∃ w3, w3 = w2.alloc (.cells #[.int .i64 b.li, .int .i64 b.re, .int .i64 b.st, .int .i64 b.fa, .int .i64 b.si] 24) := ⟨_, rfl⟩
  have hz3 : w3.heap.size = m + 1 := by rw [hw3, hm2]; simp
  rw [← hw3] at px3 pr3 hB3 hr3
  rw [← hm2] at px3 hgm
  clear hg
  go_wp2_with fail
  simp only [← hw3, ← hm2]
  clear hw3 hm2
  refine (someChecks_any g q _ hr3 (by omega)).mono ?_
  rintro e w4 ⟨A4, c4, gs, q4, rfl, gt, hgs, hq4⟩
  have hg4 := gt.2.2.1
  have px4 := px3.past hg4 (by omega)
  have pr4 := pr3.past hg4 (by omega)
  have hB4 := hB3.trans (below_of_grown hg4 (B := w.heap.size) (by omega) (by omega))
  have hr4 := gt.rd
  have ho4 := gt.own
  have hz4 := hg4.size
  clear px3 pr3 hB3 hr3 gt hg4
  obtain ⟨p0, p1, p2, p3, p4, pl⟩ := px4.brk
  have n3 : ¬ w.heap.size = m := by omega
  have n4 : ¬ m = w.heap.size := by omega
  have HGS := hid hgs
  obtain ⟨A', c', e', hc4, _, _⟩ := OwnT.form ho4
  injection e' with e1 _ e'
  subst e1
  subst e'
  have hcap := hid hc4
  clear hc4
  go_wp2_with fail
  go_region_held3 (fun w' => w'.cell? ⟨m, 0, none⟩ = some (.int .i64 b.li) ∧ w'.cell? ⟨m, 1, none⟩ = some (.int .i64 b.re) ∧ w'.cell? ⟨m, 2, none⟩ = some (.int .i64 b.st) ∧ w'.cell? ⟨m, 3, none⟩ = some (.int .i64 b.fa) ∧ w'.cell? ⟨m, 4, none⟩ = some (.int .i64 b.si))
    (first | with_reducible exact ⟨p0, p1, p2, p3, p4⟩ | with_reducible exact ⟨k0, k1, k2, k3, k4⟩ | go_keep)
    (first | (go_at_call 17; refine (someTimes_any g q4 gs.length b.si _ hr4.drew (by omega) HGS.out ⟨hs0, hs1⟩).mono ?_; rintro e w5 ⟨A5, c5, ts, q5, rfl, hc5, ht5, hS5, hg5, hr5⟩; have px5 := px4.drew.past hg5 (by omega); have pr5 := pr4.drew.past hg5 (by omega); have hB5 := hB4.drew.trans (below_of_grown hg5 (B := w.heap.size) (by omega) (Nat.le_of_lt hr4.drew.lt)); have hl5 := hg5.size; obtain ⟨k0, k1, k2, k3, k4, kl⟩ := px5.brk; have e0 := pr5.cell; have ef := pr5.frozen) | fail)
  all_goals
    have el := pr5.lt
    have hod : OwnT w4.drew w3.heap.size (.slice A4 gs.length c4) gs := OwnT.below ho4 ((Below.refl _ _).drew)
    obtain ⟨hp, hgz⟩ := brk_put (X := ⟨0, 0, 0, 0, 0⟩) b pr5
    have ho5 : OwnT w5 w3.heap.size (.slice A4 gs.length c4) gs := row_kept hod hg5 (fun k hk e => by injection e with e; have := (World.ownsRow.lt hod k hk).1; omega)
    have ho6 : OwnT _ w3.heap.size (.slice A4 gs.length c4) gs := row_kept ho5 hgz (fun k hk e => by injection e with e; have := (World.ownsRow.lt ho5 k hk).1; omega)
    have hB6 := below_put hB5 hgz (Nat.le_refl _) hB5.size
    have hS6 := hS5.grown_to hgz (F' := fun x => x < w.heap.size + 1) (fun x e => by injection e with e; simp; have := hB4.size; omega) (fun x _ hx => by simp; have := hB4.size; omega)
    go_wp2
    refine bodyPost_ret (v := .tuple #[.agg #[.int .i64 b.li, .int .i64 b.re, .int .i64 b.st, .int .i64 b.fa, .int .i64 b.si], .slice A4 gs.length c4, .slice A5 ts.length c5]) (by simp [results, Try.results5, go_sem, hp.cell]) rfl ?_
    exact ⟨b, A4, c4, gs, A5, c5, ts, by simp, ⟨ho6.mono (by omega), hB6, HGS.out, hcap.out⟩, hS6.imp (fun x _ hx => by omega), ht5, hc5⟩

end Go.Proofs.Ytmaocmgnkdieeab

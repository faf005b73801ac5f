/-
  What draws the arguments of the laws on waits. Condition: the code is at most 2^20 bytes.
-/
import Derived.Test.YtiiieollemhjmabSpoil
import Derived.Test.YtiiieollemhjmabReadB
import Derived.Test.YtiiieollemhjmabApp
namespace Go.Proofs.Ytiiieollemhjmab
open Go.RowKit

/-- Numbers that were drawn: they lie in new blocks; nothing that was there has changed. -/
def WL (w w' : World) (A : Option Addr) (c : Nat) (ys : List Int) : Prop := SeesF w' (fun b => b < w.heap.size) A (ints ys) ∧ Below w.heap.size w w' ∧ ys.length ≤ 18 ∧ ys.length ≤ c
section
variable {w w' w'' : World} {A : Option Addr} {c : Nat} {ys : List Int}
theorem WL.below (h : WL w w' A c ys) (hb : Below w'.heap.size w' w'') : WL w w'' A c ys := ⟨h.1.below hb, h.2.1.trans (hb.mono h.2.1.size), h.2.2⟩
theorem WL.drewN (h : WL w w' A c ys) (k : Nat) : WL w (w'.drewN k) A c ys := h.below (below_drewN (Below.refl _ _) k)
theorem WL.drew (h : WL w w' A c ys) : WL w w'.drew A c ys := h.below ((Below.refl _ _).drew)
theorem WL.alloc (h : WL w w' A c ys) (o : Obj) : WL w (w'.alloc o) A c ys := h.below ((Below.refl _ _).alloc (Nat.le_refl _) o)
theorem WL.sees (h : WL w w' A c ys) : Sees w' w'.heap.size A (ints ys) := h.1.sees
theorem WL.bel (h : WL w w' A c ys) : Below w.heap.size w w' := h.2.1
theorem WL.n18 (h : WL w w' A c ys) : ys.length ≤ 18 := h.2.2.1
theorem WL.n4 (h : WL w w' A c ys) : ys.length ≤ 4194304 := Nat.le_trans h.2.2.1 (by decide)
theorem WL.cap (h : WL w w' A c ys) : ys.length ≤ c := h.2.2.2
end
def WtD1 (w : World) (e : Ending) (w' : World) : Prop := ∃ A c ys, e = .returned (.slice A (List.length ys) c) ∧ WL w w' A c ys
def WtDi (w : World) (e : Ending) (w' : World) : Prop := ∃ A c ys, ∃ i : Int, e = .returned (.tuple #[.slice A (List.length ys) c, .int .i64 i]) ∧ WL w w' A c ys ∧ -1 ≤ i ∧ i ≤ 101
def WtD2 (w : World) (e : Ending) (w' : World) : Prop := ∃ A c ys B d zs, e = .returned (.tuple #[.slice A (List.length ys) c, .slice B (List.length zs) d]) ∧ WL w w' A c ys ∧ WL w w' B d zs
def WtN (w : World) (e : Ending) (w' : World) : Prop := ∃ i : Int, e = .returned (.int .i64 i) ∧ Below w.heap.size w w' ∧ -1000 ≤ i ∧ i ≤ 2000
/-- Numbers that a part of the generator drew. -/
def WtAns (w : World) (g p : Nat) (e : Ending) (w' : World) : Prop := ∃ (A : Option Addr) (c : Nat) (ys : List Int) (q : Nat),
  e = .returned (.slice A ys.length c) ∧ ys.length ≤ c ∧ ys.length ≤ 18 ∧ SeesF w' (fun b => b < w.heap.size) A (ints ys) ∧ w.grownBy w' (some g) ∧ Rd w' g q ∧ q ≤ p + 50
theorem grown_lowW {w0 wr w' : World} {g B : Nat} (h : w0.grownBy wr (some g)) (hb : Below B wr w') (hB : w0.heap.size ≤ B) : w0.grownBy w' (some g) :=
  ⟨hb.os.trans h.os, hb.tape.trans h.tape, hb.output.trans h.output, Nat.le_trans h.size hb.size, fun i hi hne => (hb.block i (by omega)).trans (h.block i hi hne)⟩

set_option maxHeartbeats 4000000 in
theorem drawBinTop_any (A : Option Addr) (n c : Nat) (zs : List Int) (w : World) (h : Sees w w.heap.size A (byts zs)) (hz : ∀ z ∈ zs, 0 ≤ z ∧ z ≤ 255) (hn : zs.length = n) (hc : n ≤ c) (hm : n ≤ 1048576) (hcc : c ≤ maxLen) :
    Calls Try.prog 11 #[.slice A n c] w (WtN w) := by
  have HZ := hid hz
  have HE := hid hn
  have HC := hid hcc
  clear hz hn hcc
  go_enter Try.func11, Try.ntmps11
  go_wp2_with fail
  refine (newReader_any A n c zs _ h HZ.out HE.out hc hm HC.out).mono ?_
  rintro e w1 ⟨rfl, hb1, hr1⟩
  have hgl := hr1.lt
  go_wp2_with fail
  refine (pick_any w.heap.size 0 10 _ hr1 (by omega)).mono ?_
  rintro e w2 ⟨x, rfl, lx, ux, hg2, hr2⟩
  have bx := ux (by omega)
  have hbb2 := hb1.trans (below_of_grown hg2 (Nat.le_refl _) (Nat.le_of_lt hgl))
  have hw : IntKind.i64.wrap (x - 1) = x - 1 := by rw [IntKind.wrap_i64]; omega
  clear ux hg2 hr1
  go_wp2
  go_ret
  exact ⟨x - 1, rfl, hbb2, by omega, by omega⟩

set_option maxHeartbeats 4000000 in
theorem someCounts_any (g p : Nat) (w : World) (h : Rd w g p) (hp : p < 900) :
    Calls Try.prog 35 #[.pointer (some ⟨g, 0, none⟩)] w (WtAns w g p) := by
  have hg := h.lt
  obtain ⟨i0, hi0, hz0, hz1, hz2⟩ := info_parts intInfo
  have hr0 := h.alloc (.cells #[] 3)
  have ho0 : Own (w.alloc (.cells #[] 3)) w.heap.size (.slice (some ⟨w.heap.size, 0, none⟩) 0 0) [] := made_at 3 1 rfl (Nat.le_refl _)
  have hg0 : w.grownBy (w.alloc (.cells #[] 3)) (some g) := grown_of_below ((Below.refl _ _).alloc (Nat.le_refl _) _) _
  go_enter Try.func35, Try.ntmps35
  go_wp2_with fail
  go_loopw [3, 4] (fun v i wr => ∃ (k : Nat) (A : Option Addr) (c : Nat) (ys : List Int) (q : Nat), i = .int .i64 k ∧ k ≤ 8 ∧ ys.length ≤ k ∧ q ≤ p + k ∧ v = .slice A ys.length c ∧ Own wr w.heap.size v ys ∧ Rd wr g q ∧ w.grownBy wr (some g)) (fun _ i _ => 8 - (intOf i).toNat)
  case atStart => exact ⟨0, _, _, [], p, rfl, by omega, by simp, by omega, rfl, ho0, hr0, hg0⟩
  case round =>
    clear ho0 hr0 hg0
    obtain ⟨k, A, c, ys, q, rfl, hk, hyk, hq, rfl, ho, hr, hgr⟩ := hrel
    have hzr := hgr.size
    by_cases hk0 : k < 8
    · have hki : (k : Int) < 8 := by omega
      go_wp2_with fail
      refine (one_any g q _ 7 _ [0, 0, 1, 2, 5, 50, 100] _ (hr.alloc _) (by omega) (At.newAt 3 _ (by simp)) (by rfl) (by have := hr.lt; simp; omega) (by rfl) (by omega) (by omega)).mono ?_
      rintro e w5 ⟨x, rfl, mx, hg5, hr5⟩
      have ho5 : Own w5 w.heap.size (.slice A ys.length c) ys := row_kept (own_alloc ho.out _) hg5 (fun k hk e => by injection e with e; have := (ho.out.lt k hk).1; omega)
      have hg6 := grown_trans (grown_trans hgr (grown_of_below ((Below.refl _ _).alloc (Nat.le_refl _) (.cells #[.int .i64 0, .int .i64 0, .int .i64 1, .int .i64 2, .int .i64 5, .int .i64 50, .int .i64 100] 3)) (some g))) hg5
      have hz5 := hg6.size
      have hlow := ho5.out.lt
      clear ho hr hgr hg5 mx
      go_wp2_with (at_builtin; refine wpList_append_own _ rfl _ _ 26 rfl w.heap.size 3 i0 (.int .i64 0) 1 8 Try.underlying26 hi0 hz0 hz1 hz2 rfl (by decide) _ _ _ rfl (own_alloc ho5.out _) ⟨w5.heap.size, 0, none⟩ 1 1 [.int .i64 x] rfl rfl (cell_one_new _ _ _) ?c2 ?c3 ?c4 ?c5 ?_)
      case c2 => simp [Value.oneCell']
      case c3 => unfold maxLen; omega
      case c4 => omega
      case c5 => simp; omega
      case _ =>
        intro v6 w6 h6 hg7 _
        have ho6 : Own w6 w.heap.size v6 (ys ++ [x]) := by unfold Own; rw [ints_app, List.length_append]; exact h6
        have hb6 : Below w.heap.size (w5.alloc (.cells #[.int .i64 x] 3)) w6 := (Below.refl _ _).grown hg7 (by simp; omega) (fun q hq => (hlow q hq).1)
        have hr6 := (hr5.alloc (.cells #[.int .i64 x] 3)).below hb6 hg
        have hgw := grown_lowW (grown_trans hg6 (grown_of_below ((Below.refl _ _).alloc (Nat.le_refl _) (.cells #[.int .i64 x] 3)) (some g))) hb6 (Nat.le_refl _)
        obtain ⟨A6, c6, rfl, _⟩ := own_form h6
        have e6 : (ys ++ [x]).length = ys.length + 1 := by simp
        clear h6 hg7 hb6 hlow ho5 hr5 hg6
        go_wp2
        go_roundw
        case rel => exact ⟨k + 1, A6, c6, ys ++ [x], q + 1, by go_num, by omega, by rw [e6]; omega, by omega, by rw [e6], ho6, hr6, hgw⟩
        case measure => simp [intOf]; omega
    · have hki : ¬ (k : Int) < 8 := by omega
      go_wp2_with fail
      refine (spoil_any g q A c ys 101 _ (Sees.of_own ho) hr (by omega) (by omega)).mono ?_
      rintro e w5 ⟨A4, c4, zs, q5, rfl, hc4, hy4, hS4, hg5, hr5, hq5⟩
      go_wp2
      go_ret
      exact ⟨A4, c4, zs, q5, rfl, hc4, by omega, hS4.imp (fun b _ hb => by omega), grown_trans hgr hg5, hr5, by omega⟩

set_option maxHeartbeats 4000000 in
theorem drawValidCounts_any (A : Option Addr) (n c : Nat) (zs : List Int) (w : World) (h : Sees w w.heap.size A (byts zs)) (hz : ∀ z ∈ zs, 0 ≤ z ∧ z ≤ 255) (hn : zs.length = n) (hc : n ≤ c) (hm : n ≤ 1048576) (hcc : c ≤ maxLen) :
    Calls Try.prog 15 #[.slice A n c] w (WtD1 w) := by
  have HZ := hid hz
  have HE := hid hn
  have HC := hid hcc
  clear hz hn hcc
  go_enter Try.func15, Try.ntmps15
  go_wp2_with fail
  refine (newReader_any A n c zs _ h HZ.out HE.out hc hm HC.out).mono ?_
  rintro e w1 ⟨rfl, hb1, hr1⟩
  have hgl := hr1.lt
  go_wp2_with fail
  refine (someCounts_any w.heap.size 0 _ hr1 (by omega)).mono ?_
  rintro e w2 ⟨A2, c2, ys, q, rfl, hyc, hyl, hS, hgr, hr2, hq⟩
  have hB2 := hb1.trans (below_of_grown hgr (Nat.le_refl _) (Nat.le_of_lt hgl))
  have hz2 := hgr.size
  go_wp2
  go_ret
  exact ⟨A2, c2, ys, rfl, hS.imp (fun x _ hx => by omega), hB2, hyl, hyc⟩

set_option maxHeartbeats 4000000 in
theorem drawAddCounts_any (A : Option Addr) (n c : Nat) (zs : List Int) (w : World) (h : Sees w w.heap.size A (byts zs)) (hz : ∀ z ∈ zs, 0 ≤ z ∧ z ≤ 255) (hn : zs.length = n) (hc : n ≤ c) (hm : n ≤ 1048576) (hcc : c ≤ maxLen) :
    Calls Try.prog 24 #[.slice A n c] w (WtD2 w) := by
  have HZ := hid hz
  have HE := hid hn
  have HC := hid hcc
  clear hz hn hcc
  go_enter Try.func24, Try.ntmps24
  go_wp2_with fail
  refine (newReader_any A n c zs _ h HZ.out HE.out hc hm HC.out).mono ?_
  rintro e w1 ⟨rfl, hb1, hr1⟩
  have hgl := hr1.lt
  go_wp2_with fail
  refine (someCounts_any w.heap.size 0 _ hr1 (by omega)).mono ?_
  rintro e w2 ⟨A2, c2, ys, q, rfl, hyc, hyl, hS, hgr, hr2, hq⟩
  have hB2 := hb1.trans (below_of_grown hgr (Nat.le_refl _) (Nat.le_of_lt hgl))
  have hz2 := hgr.size
  have hS2 := hS.imp (F' := fun x => x = w.heap.size ∨ x < w.heap.size) (fun x _ hx => by omega)
  go_wp2_with fail
  refine (someCounts_any w.heap.size q _ hr2 (by omega)).mono ?_
  rintro e w3 ⟨A3, c3, xs, q3, rfl, hxc, hxl, hT, hgs, hr3, hq3⟩
  have hB3 := hB2.trans (below_of_grown hgs (Nat.le_refl _) (by omega))
  have hS3 := hS2.grown hgs (fun b e => .inl (by injection e with e; omega))
  go_wp2
  go_ret2
  exact ⟨A2, c2, ys, A3, c3, xs, rfl, ⟨hS3.imp (fun x _ hx => .inr hx), hB3, hyl, hyc⟩, hT.imp (fun x _ hx => by omega), hB3, hxl, hxc⟩

set_option maxHeartbeats 4000000 in
theorem drawWaitUnder_any (A : Option Addr) (n c : Nat) (zs : List Int) (w : World) (h : Sees w w.heap.size A (byts zs)) (hz : ∀ z ∈ zs, 0 ≤ z ∧ z ≤ 255) (hn : zs.length = n) (hc : n ≤ c) (hm : n ≤ 1048576) (hcc : c ≤ maxLen) :
    Calls Try.prog 26 #[.slice A n c] w (WtDi w) := by
  have HZ := hid hz
  have HE := hid hn
  have HC := hid hcc
  clear hz hn hcc
  go_enter Try.func26, Try.ntmps26
  go_wp2_with fail
  refine (newReader_any A n c zs _ h HZ.out HE.out hc hm HC.out).mono ?_
  rintro e w1 ⟨rfl, hb1, hr1⟩
  have hgl := hr1.lt
  go_wp2_with fail
  refine (someCounts_any w.heap.size 0 _ hr1 (by omega)).mono ?_
  rintro e w2 ⟨A2, c2, ys, q, rfl, hyc, hyl, hS, hgr, hr2, hq⟩
  have hB2 := hb1.trans (below_of_grown hgr (Nat.le_refl _) (Nat.le_of_lt hgl))
  have hz2 := hgr.size
  have hS2 := hS.imp (F' := fun x => x = w.heap.size ∨ x < w.heap.size) (fun x _ hx => by omega)
  go_wp2_with fail
  refine (one_any w.heap.size q _ 8 _ [50, 90, 99, 100, 0, 1, 101, -1] _ (hr2.alloc _) (by omega) (At.new _ 3 _) (by rfl) (by omega) (by rfl) (by omega) (by omega)).mono ?_
  rintro e w3 ⟨y, rfl, my, hg3, hr3⟩
  have my2 : -1 ≤ y ∧ y ≤ 101 := by simp at my; omega
  have hB3 := (hB2.alloc hB2.size (.cells #[.int .i64 50, .int .i64 90, .int .i64 99, .int .i64 100, .int .i64 0, .int .i64 1, .int .i64 101, .int .i64 (-1)] 3)).trans (below_of_grown hg3 (Nat.le_refl _) (by simp; omega))
  have hS3 := (hS2.alloc (.cells #[.int .i64 50, .int .i64 90, .int .i64 99, .int .i64 100, .int .i64 0, .int .i64 1, .int .i64 101, .int .i64 (-1)] 3)).grown hg3 (fun b e => .inl (by injection e with e; omega))
  clear my
  go_wp2
  go_ret2
  exact ⟨A2, c2, ys, y, rfl, ⟨hS3.imp (fun x _ hx => .inr hx), hB3, hyl, hyc⟩, my2.1, my2.2⟩

set_option maxHeartbeats 4000000 in
theorem drawCountWaits_any (A : Option Addr) (n c : Nat) (zs : List Int) (w : World) (h : Sees w w.heap.size A (byts zs)) (hz : ∀ z ∈ zs, 0 ≤ z ∧ z ≤ 255) (hn : zs.length = n) (hc : n ≤ c) (hm : n ≤ 1048576) (hcc : c ≤ maxLen) :
    Calls Try.prog 18 #[.slice A n c] w (WtD1 w) := by
  have HZ := hid hz
  have HE := hid hn
  have HC := hid hcc
  clear hz hn hcc
  obtain ⟨i0, hi0, hz0, hz1, hz2⟩ := info_parts intInfo
  go_enter Try.func18, Try.ntmps18
  go_wp2_with fail
  refine (newReader_any A n c zs _ h HZ.out HE.out hc hm HC.out).mono ?_
  rintro e w1 ⟨rfl, hb1, hr1⟩
  have hgl := hr1.lt
  have hb0 := hb1.alloc hb1.size (.cells #[] 3)
  have hr0 := hr1.alloc (.cells #[] 3)
  have ho0 : Own (w1.alloc (.cells #[] 3)) (w.heap.size + 1) (.slice (some ⟨w1.heap.size, 0, none⟩) 0 0) [] := made_at 3 1 rfl (by omega)
  go_wp2_with fail
  refine (one_any w.heap.size 0 _ 7 _ [6, 8, 3, 16, 1, 0, 17] _ (hr0.alloc _) (by omega) (At.newAt 3 _ (by simp)) (by rfl) (by simp; omega) (by rfl) (by omega) (by omega)).mono ?_
  rintro e w2 ⟨x, rfl, mx, hg2, hr2⟩
  have hx : 0 ≤ x ∧ x ≤ 17 := by simp at mx; omega
  obtain ⟨n0, rfl⟩ : ∃ n0 : Nat, x = n0 := ⟨x.toNat, by omega⟩
  have hkp : ∀ k, (Value.slice (some ⟨w1.heap.size, 0, none⟩) 0 0).ownBlock = some k → some w.heap.size ≠ some k := fun k hk e => by injection e with e; have := (World.ownsRow.lt ho0.out k hk).1; omega
  have ho2 : Own w2 (w.heap.size + 1) (.slice (some ⟨w1.heap.size, 0, none⟩) 0 0) [] := row_kept (own_alloc ho0.out _) hg2 hkp
  have hB2 : Below w.heap.size w w2 := by
    have hq := (hb0.alloc hb0.size (.cells #[.int .i64 6, .int .i64 8, .int .i64 3, .int .i64 16, .int .i64 1, .int .i64 0, .int .i64 17] 3)).mono (Nat.le_refl _)
    exact hq.trans (below_of_grown hg2 (Nat.le_refl _) (by simp; omega))
  have hz2' := hr2.lt
  clear hr0 ho0 hb0 mx hkp hr1 hb1
  go_wp2_with fail
  go_loopw [4, 5] (fun v i wr => ∃ (k : Nat) (A : Option Addr) (c : Nat) (ys : List Int) (q : Nat), i = .int .i64 k ∧ ys.length + k ≤ 17 ∧ q + 2 * k ≤ 40 ∧ v = .slice A ys.length c ∧ Own wr (w.heap.size + 1) v ys ∧ Rd wr w.heap.size q ∧ Below w.heap.size w wr) (fun _ i _ => (intOf i).toNat)
  case atStart => exact ⟨n0, _, _, [], 0 + 1, rfl, by simp; omega, by omega, rfl, ho2, hr2, hB2⟩
  case round =>
    clear ho2 hr2 hB2 hg2
    obtain ⟨k, A, c, ys, q, rfl, hk, hq, rfl, ho, hr, hB⟩ := hrel
    have hgr := hr.lt
    by_cases hk0 : 0 < k
    · have hki : (0 : Int) < (k : Int) := by omega
      go_wp2_with fail
      refine (pick_any w.heap.size q 250 _ hr (by omega)).mono ?_
      rintro e w3 ⟨u, rfl, lu, uu, hg3, hr3⟩
      clear uu lu
      have ho3 : Own w3 (w.heap.size + 1) (.slice A ys.length c) ys := row_kept ho.out hg3 (fun k hk e => by injection e with e; have := (ho.out.lt k hk).1; omega)
      have hB3 := hB.trans (below_of_grown hg3 (Nat.le_refl _) (by omega))
      have hg3' := hr3.lt
      clear ho hr hB hg3
      go_wp2_with fail
      refine (one_any w.heap.size (q + 1) _ 7 _ [0, 1, 3, 10, 100, 1000, u] _ (hr3.alloc _) (by omega) (At.newAt 3 _ (by simp)) (by rfl) (by omega) (by rfl) (by omega) (by omega)).mono ?_
      rintro e w5 ⟨x, rfl, mx, hg5, hr5⟩
      have ho5 : Own w5 (w.heap.size + 1) (.slice A ys.length c) ys := row_kept (own_alloc ho3.out _) hg5 (fun k hk e => by injection e with e; have := (ho3.out.lt k hk).1; omega)
      have hB5 := (hB3.alloc (by omega) (.cells #[.int .i64 0, .int .i64 1, .int .i64 3, .int .i64 10, .int .i64 100, .int .i64 1000, .int .i64 u] 3)).trans (below_of_grown hg5 (Nat.le_refl _) (by simp; omega))
      have hg5' := hr5.lt
      have hlow := ho5.out.lt
      clear ho3 hr3 hB3 hg5 mx
      go_wp2_with (at_builtin; refine wpList_append_own _ rfl _ _ 26 rfl (w.heap.size + 1) 3 i0 (.int .i64 0) 1 8 Try.underlying26 hi0 hz0 hz1 hz2 rfl (by decide) _ _ _ rfl (own_alloc ho5.out _) ⟨w5.heap.size, 0, none⟩ 1 1 [.int .i64 x] rfl rfl (cell_one_new _ _ _) ?c2 ?c3 ?c4 ?c5 ?_)
      case c2 => simp [Value.oneCell']
      case c3 => unfold maxLen; omega
      case c4 => omega
      case c5 => simp; omega
      case _ =>
        intro v6 w6 h6 hg7 _
        have ho6 : Own w6 (w.heap.size + 1) v6 (ys ++ [x]) := by unfold Own; rw [ints_app, List.length_append]; exact h6
        have hb6 : Below (w.heap.size + 1) (w5.alloc (.cells #[.int .i64 x] 3)) w6 := (Below.refl _ _).grown hg7 (by simp; omega) (fun q hq => (hlow q hq).1)
        have hr6 := (hr5.alloc (.cells #[.int .i64 x] 3)).below hb6 (Nat.lt_succ_self _)
        have hB6 := (hB5.alloc (by omega) (.cells #[.int .i64 x] 3)).trans (hb6.mono (Nat.le_succ _))
        obtain ⟨A6, c6, rfl, _⟩ := own_form h6
        have e6 : (ys ++ [x]).length = ys.length + 1 := by simp
        clear h6 hg7 hb6 hlow ho5 hr5 hB5
        go_wp2
        go_roundw
        case rel => exact ⟨k - 1, A6, c6, ys ++ [x], q + 1 + 1, by go_num, by rw [e6]; omega, by omega, by rw [e6], ho6, hr6, hB6⟩
        case measure => simp [intOf]; omega
    · have hki : ¬ (0 : Int) < (k : Int) := by omega
      go_wp2_with fail
      refine (spoil_any w.heap.size q A c ys 1001 _ (Sees.of_own ho) hr (by omega) (by omega)).mono ?_
      rintro e w5 ⟨A4, c4, zs, q5, rfl, hc4, hy4, hS4, hg5, hr5, hq5⟩
      have hB5 := hB.trans (below_of_grown hg5 (Nat.le_refl _) (by omega))
      go_wp2
      go_ret
      exact ⟨A4, c4, zs, rfl, hS4.imp (fun b _ hb => by omega), hB5, by omega, hc4⟩

end Go.Proofs.Ytiiieollemhjmab

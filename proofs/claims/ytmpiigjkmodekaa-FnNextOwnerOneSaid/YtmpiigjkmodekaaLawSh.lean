/-
  Words for the walks of the drawn laws on shares. Condition: the lists lie in memory.
-/
import Derived.Test.YtmpiigjkmodekaaShGenC
import Derived.Test.YtmpiigjkmodekaaShE
namespace Go.Proofs.Ytmpiigjkmodekaa
open Go.RowKit Sha
theorem SeesR.a {w : World} {B : Nat} {A1 A2 : Option Addr} {s : Shr} (h : SeesR w B A1 A2 s) : Sees w B A1 (ints s.m) := by obtain ⟨h, _⟩ := h; exact h
theorem SeesR.b {w : World} {B : Nat} {A1 A2 : Option Addr} {s : Shr} (h : SeesR w B A1 A2 s) : Sees w B A2 (ints s.h) := by obtain ⟨_, h⟩ := h; exact h
theorem SeesR.two {w : World} {A1 A2 : Option Addr} {s : Shr} (h : SeesR w w.heap.size A1 A2 s) (o o' : Obj) : SeesR ((w.alloc o).alloc o') ((w.alloc o).alloc o').heap.size A1 A2 s := ⟨(((h.a.alloc (Nat.le_refl _) o).more (by simp)).alloc (Nat.le_refl _) o').more (by simp), (((h.b.alloc (Nat.le_refl _) o).more (by simp)).alloc (Nat.le_refl _) o').more (by simp)⟩
/-- Shares that a call made. -/
def OwnQ (w : World) (base : Nat) (A1 A2 : Option Addr) (c1 c2 : Nat) (s : Shr) : Prop := OwnR w base A1 A2 c1 c2 s ∧ s.m.length ≤ 6 ∧ s.h.length ≤ 6
section
variable {w w' : World} {base c1 c2 : Nat} {A1 A2 : Option Addr} {s : Shr}
theorem OwnQ.below (h : OwnQ w base A1 A2 c1 c2 s) (hb : Below w.heap.size w w') : OwnQ w' base A1 A2 c1 c2 s := ⟨h.1.below hb, h.2⟩
theorem OwnQ.alloc (h : OwnQ w base A1 A2 c1 c2 s) (o : Obj) : OwnQ (w.alloc o) base A1 A2 c1 c2 s := ⟨h.1.alloc o, h.2⟩
theorem OwnQ.drew (h : OwnQ w base A1 A2 c1 c2 s) : OwnQ w.drew base A1 A2 c1 c2 s := ⟨h.1.drew, h.2⟩
theorem OwnQ.sees (h : OwnQ w base A1 A2 c1 c2 s) : SeesR w w.heap.size A1 A2 s := h.1.sees
theorem OwnQ.seesh (h : OwnQ w base A1 A2 c1 c2 s) : Sees w w.heap.size A2 (ints s.h) := h.1.sees.b
theorem OwnQ.h5 (h : OwnQ w base A1 A2 c1 c2 s) : s.h.length ≤ 100000 := Nat.le_trans h.2.2 (by decide)
theorem DSh.h5 {w0 : World} (h : DSh w0 w' A1 A2 s) : s.h.length ≤ 100000 := Nat.le_trans h.2.2.2.2 (by decide)
theorem OwnQ.m4 (h : OwnQ w base A1 A2 c1 c2 s) : s.m.length ≤ 4194304 := Nat.le_trans h.2.1 (by decide)
theorem OwnQ.h4 (h : OwnQ w base A1 A2 c1 c2 s) : s.h.length ≤ 4194304 := Nat.le_trans h.2.2 (by decide)
end
theorem give_len {s : Shr} (h : s.m.length ≤ 6 ∧ s.h.length ≤ 6) (o d : Int) : (giveS s o d).m.length ≤ 6 ∧ (giveS s o d).h.length ≤ 6 := by
  have := giveS_five s o d; omega
/-- What a given one leads back to. -/
theorem give_back {s : Shr} {o d : Int} (h : giveB s o d = true) : shareB (giveS s o d) = true ∧ giveB (giveS s o d) o (-d) = true ∧ giveS (giveS s o d) o (-d) = s := by
  obtain ⟨h1, h2, h3⟩ := giveB_iff.1 h
  have h4 : giveB (giveS s o d) o (-d) = true := by rw [giveS_yes h]; exact giveB_iff.2 ⟨h3, h2, by rw [chg_back]; exact h1⟩
  refine ⟨by rw [giveS_yes h]; exact h3, h4, ?_⟩
  rw [giveS_yes h4, giveS_yes h, chg_back]
theorem share_range {s : Shr} (h : shareB s = true) : inR (-1000000) 1000000 s.h := by
  obtain ⟨_, hm5, hm, h5, hu, _⟩ := shareB_iff.1 h
  intro x hx
  obtain ⟨i, hi, rfl⟩ := List.getElem_of_mem hx
  have a := hu i hi
  rw [nth_at hi] at a
  have b := hm s.m[i] (List.getElem_mem (by omega : i < s.m.length))
  rw [nth_at (by omega : i < s.m.length)] at a
  omega
theorem give_sum {s : Shr} {o d : Int} (h : giveB s o d = true) : sm (giveS s o d).h = sm s.h + d ∧ -100000000 ≤ sm s.h ∧ sm s.h ≤ 20 := by
  obtain ⟨h1, ⟨h2, h2'⟩, h3⟩ := giveB_iff.1 h
  obtain ⟨⟨t0, t1⟩, _, _, h5, _, h6⟩ := shareB_iff.1 h1
  have hb := sm_bound (share_range h1)
  rw [h5] at hb
  rw [giveS_yes h]
  refine ⟨?_, by omega, by omega⟩
  show sm (addO s.h o d) = _
  rw [addO_sm h2 (by omega)]
theorem share_zero {s : Shr} (h : shareB s = true) : shareB ⟨s.t, s.m, [0, 0, 0, 0, 0]⟩ = true ∧ sm s.h ≤ s.t := by
  obtain ⟨h1, h2, h3, h4, hu, h6⟩ := shareB_iff.1 h
  refine ⟨shareB_iff.2 ⟨h1, h2, h3, rfl, fun i hi => ?_, ?_⟩, h6⟩
  · have hi5 : i < 5 := hi
    have a : nth [0, 0, 0, 0, 0] (i : Nat) = 0 := by
      match i, hi5 with
      | 0, _ => rfl
      | 1, _ => rfl
      | 2, _ => rfl
      | 3, _ => rfl
      | 4, _ => rfl
    have hm : i < s.m.length := by omega
    have b := h3 s.m[i] (List.getElem_mem hm)
    show 0 ≤ nth [0, 0, 0, 0, 0] (i : Nat) ∧ nth [0, 0, 0, 0, 0] (i : Nat) ≤ nth s.m (i : Nat)
    rw [a, nth_at hm]
    omega
  · show sm [0, 0, 0, 0, 0] ≤ s.t
    have : sm [0, 0, 0, 0, 0] = 0 := rfl
    omega
theorem take_ok {s : Shr} (h : shareB s = true) {k : Nat} (hk : k < 5) (hl : k < s.h.length) : giveB s k (-1) = decide (0 < s.h[k]) ∧ 0 ≤ s.h[k] ∧ (giveB s k (-1) = true → shareB (giveS s k (-1)) = true) := by
  have hu := share_und h (o := (k : Int)) (by omega) (by omega)
  rw [nth_at hl] at hu
  refine ⟨?_, hu.1, fun e => by rw [giveS_yes e]; exact (giveB_iff.1 e).2.2⟩
  unfold giveB
  rw [h, okO_iff.2 ⟨by omega, by omega⟩, take_valid h (by omega) (by omega), nth_at hl]
  simp only [Bool.true_and]
  rw [Bool.eq_iff_iff, decide_eq_true_eq, decide_eq_true_eq]
  omega
theorem give_ok {s : Shr} (h : shareB s = true) {k : Nat} (hk : k < 5) (hl : k < s.h.length) (hm : k < s.m.length) : giveB s k 1 = decide (s.h[k] < s.m[k] ∧ sm s.h < s.t) := by
  unfold giveB
  rw [h, okO_iff.2 ⟨by omega, by omega⟩, give_valid h (by omega) (by omega), nth_at hl, nth_at hm]
  simp only [Bool.true_and]
theorem qEq_same (A B : Option Addr) (c d : Nat) (xs : List Int) (w : World) (h : Sees w w.heap.size A (ints xs)) (h' : Sees w w.heap.size B (ints xs)) (hn : xs.length ≤ 4194304) :
    Calls Try.prog 16 #[.slice A xs.length c, .slice B xs.length d] w fun e w' => e = .returned (.bool true) ∧ Below w.heap.size w w' := by
  have := equalInts_any A B c d xs xs w h h' (Nat.le_trans hn (by decide))
  rwa [eqB_iff.2 rfl] at this
set_option maxHeartbeats 1000000 in
theorem equalShare_same (A1 A2 B1 B2 : Option Addr) (c1 c2 d1 d2 : Nat) (s : Shr) (w : World) (h : SeesR w w.heap.size A1 A2 s) (h' : SeesR w w.heap.size B1 B2 s) (hn : s.m.length ≤ 4194304) (hm : s.h.length ≤ 4194304) :
    Calls Try.prog 7 #[.agg #[.int .i64 s.t, .slice A1 s.m.length c1, .slice A2 s.h.length c2], .agg #[.int .i64 s.t, .slice B1 s.m.length d1, .slice B2 s.h.length d2]] w fun e w' => e = .returned (.bool true) ∧ Below w.heap.size w w' := by
  have HN := hid hn
  have HM := hid hm
  clear hn hm
  have hb0 := (Below.refl w.heap.size w).alloc (Nat.le_refl _) (.cells #[.int .i64 s.t, .slice A1 s.m.length c1, .slice A2 s.h.length c2] 25)
  have hb := hb0.alloc hb0.size (.cells #[.int .i64 s.t, .slice B1 s.m.length d1, .slice B2 s.h.length d2] 25)
  have x0 := (At.new w 25 #[.int .i64 s.t, .slice A1 s.m.length c1, .slice A2 s.h.length c2]).alloc (.cells #[.int .i64 s.t, .slice B1 s.m.length d1, .slice B2 s.h.length d2] 25)
  have z0 : At ((w.alloc (.cells #[.int .i64 s.t, .slice A1 s.m.length c1, .slice A2 s.h.length c2] 25)).alloc (.cells #[.int .i64 s.t, .slice B1 s.m.length d1, .slice B2 s.h.length d2] 25)) (w.heap.size + 1) 25 #[.int .i64 s.t, .slice B1 s.m.length d1, .slice B2 s.h.length d2] := At.newAt _ _ (by simp)
  have hs := h.two (.cells #[.int .i64 s.t, .slice A1 s.m.length c1, .slice A2 s.h.length c2] 25) (.cells #[.int .i64 s.t, .slice B1 s.m.length d1, .slice B2 s.h.length d2] 25)
  have hs' := h'.two (.cells #[.int .i64 s.t, .slice A1 s.m.length c1, .slice A2 s.h.length c2] 25) (.cells #[.int .i64 s.t, .slice B1 s.m.length d1, .slice B2 s.h.length d2] 25)
  obtain ⟨p0, p1, p2, pl, pf⟩ := x0.three
  obtain ⟨q0, q1, q2, ql, qf⟩ := z0.three
  go_enter Try.func7, Try.ntmps7
  go_wp2_with fail
  with_reducible refine (qEq_same A1 B1 c1 d1 s.m _ hs.a hs'.a HN.out).mono ?_
  rintro e w1 ⟨rfl, hb1⟩
  have x1 := x0.below hb1 x0.lt
  have z1 := z0.below hb1 z0.lt
  have hs2 := (hs.b.below hb1).more hb1.size
  have hs2' := (hs'.b.below hb1).more hb1.size
  clear p0 p1 p2 pl pf q0 q1 q2 ql qf hs hs'
  obtain ⟨p0, p1, p2, pl, pf⟩ := x1.three
  obtain ⟨q0, q1, q2, ql, qf⟩ := z1.three
  go_wp2_with fail
  with_reducible refine (qEq_same A2 B2 c2 d2 s.h _ hs2 hs2' HM.out).mono ?_
  rintro e w2 ⟨rfl, hb2⟩
  go_wp2
  go_ret
  have hbx := hb.trans (hb1.mono hb.size)
  exact ⟨by simp, hbx.trans (hb2.mono hbx.size)⟩
end Go.Proofs.Ytmpiigjkmodekaa

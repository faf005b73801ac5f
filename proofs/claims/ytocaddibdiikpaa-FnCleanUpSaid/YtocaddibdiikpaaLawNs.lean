/-
  What the walks of the laws on states of transactions use. No condition.
-/
import Derived.Test.YtocaddibdiikpaaNsL
import Derived.Test.YtocaddibdiikpaaNsD
import Derived.Test.YtocaddibdiikpaaNsG
import Derived.Test.YtocaddibdiikpaaNsF
import Derived.Test.YtocaddibdiikpaaNsI
import Derived.Test.YtocaddibdiikpaaNsI
namespace Go.Proofs.Ytocaddibdiikpaa
open Go.RowKit Nes
theorem sees_zeroN (w : World) (B : Nat) : SeesM w B none zeroN := fun h => absurd rfl h
theorem iValidNest_zero (w : World) : Calls Try.prog 16 #[.agg #[.int .i64 0, .int .i64 0, .slice none 0 0, .bool false]] w fun e w' => e = .returned (.bool (nestB zeroN)) ∧ Below w.heap.size w w' :=
  iValidNest_any zeroN none 0 w (sees_zeroN _ _) (Nat.le_refl _) (Nat.zero_le _)
theorem nest_unbroken {n : Nst} (h : Ok n) : nestB ⟨n.d, n.w, n.m, false⟩ = true := by
  obtain ⟨a1, a2, a3, a4, a5, a6, a7⟩ := h
  exact nestB_iff.2 ⟨a1, a2, a3, a4, a5, a6, fun e => ⟨(a7 e).1, rfl⟩⟩
theorem equalIntsN_same (A B : Option Addr) (c d : Nat) (xs : List Int) (w : World) (h : Sees w w.heap.size A (ints xs)) (h' : Sees w w.heap.size B (ints xs)) (hn : xs.length ≤ 4194304) :
    Calls Try.prog 26 #[.slice A xs.length c, .slice B xs.length d] w fun e w' => e = .returned (.bool true) ∧ Below w.heap.size w w' := by
  have := equalInts_any A B c d xs xs w h h' (Nat.le_trans hn (by decide))
  rwa [eqB_iff.2 rfl] at this
set_option maxHeartbeats 1000000 in
theorem equalNest_same (A B : Option Addr) (c d : Nat) (s : Nst) (w : World) (h : SeesM w w.heap.size A s) (h' : SeesM w w.heap.size B s) (hn : s.m.length ≤ 4194304) :
    Calls Try.prog 15 #[.agg #[.int .i64 s.d, .int .i64 s.w, .slice A s.m.length c, .bool s.b], .agg #[.int .i64 s.d, .int .i64 s.w, .slice B s.m.length d, .bool s.b]] w fun e w' => e = .returned (.bool true) ∧ Below w.heap.size w w' := by
  have HN := hid hn
  clear hn
  have hb0 := (Below.refl w.heap.size w).alloc (Nat.le_refl _) (.cells #[.int .i64 s.d, .int .i64 s.w, .slice A s.m.length c, .bool s.b] 25)
  have hb := hb0.alloc hb0.size (.cells #[.int .i64 s.d, .int .i64 s.w, .slice B s.m.length d, .bool s.b] 25)
  have x0 := (At.new w 25 #[.int .i64 s.d, .int .i64 s.w, .slice A s.m.length c, .bool s.b]).alloc (.cells #[.int .i64 s.d, .int .i64 s.w, .slice B s.m.length d, .bool s.b] 25)
  have z0 : At ((w.alloc (.cells #[.int .i64 s.d, .int .i64 s.w, .slice A s.m.length c, .bool s.b] 25)).alloc (.cells #[.int .i64 s.d, .int .i64 s.w, .slice B s.m.length d, .bool s.b] 25)) (w.heap.size + 1) 25 #[.int .i64 s.d, .int .i64 s.w, .slice B s.m.length d, .bool s.b] := At.newAt _ _ (by simp)
  have hs := h.on hb
  have hs' := h'.on hb
  obtain ⟨p0, p1, p2, p3, pl, pf⟩ := x0.four
  obtain ⟨q0, q1, q2, q3, ql, qf⟩ := z0.four
  go_enter Try.func15, Try.ntmps15
  go_wp2_with fail
  with_reducible refine (equalIntsN_same A B c d s.m _ hs.marks hs'.marks HN.out).mono ?_
  rintro e w1 ⟨rfl, hb1⟩
  have x1 := x0.below hb1 x0.lt
  have z1 := z0.below hb1 z0.lt
  clear p0 p1 p2 p3 pl pf q0 q1 q2 q3 ql qf
  obtain ⟨p0, p1, p2, p3, pl, pf⟩ := x1.four
  obtain ⟨q0, q1, q2, q3, ql, qf⟩ := z1.four
  go_wp2
  go_ret
  exact ⟨by simp, hb.trans (hb1.mono hb.size)⟩

end Go.Proofs.Ytocaddibdiikpaa

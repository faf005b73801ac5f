/-
  What the helpers of the exact laws answer on lines: szLine, toLine, eqLine. Condition: the list lies in memory and is at most 2^22 long.
-/
import Derived.Test.YtcfijijpcafncacExA
import Derived.Test.YtcfijijpcafncacLineB
namespace Go.Proofs.Ytcfijijpcafncac
open Go.RowKit

set_option maxHeartbeats 400000 in
theorem szLine_any (A : Option Addr) (m c : Nat) (s n : Int) (w : World) (hm : m ≤ maxLen) :
    Calls Try.prog 9 #[.agg #[.int .i64 s, .int .i64 n, .slice A m c], .int .i64 1048576] w fun e w' => e = .returned (.int .i64 (if 1048576 < m then -1 else 1048576 - m)) ∧ Below w.heap.size w w' := by
  have HM := hid hm
  clear hm
  by_cases h : 1048576 < m
  · have E : Hid ((if 1048576 < m then (-1 : Int) else 1048576 - m) = -1) := hid (if_pos h)
    rw [if_pos h]
    go_enter Try.func9, Try.ntmps9
    go_wp2_with fail
    refine (szIntS_any A m c _ HM.out).mono ?_
    rintro e w1 ⟨he, rfl⟩
    rw [E.out] at he
    subst he
    go_wp2
    go_ret
    exact ⟨rfl, (Below.refl _ _).alloc (Nat.le_refl _) _⟩
  · have E : Hid ((if 1048576 < m then (-1 : Int) else 1048576 - m) = 1048576 - m) := hid (if_neg h)
    have h1 : ¬ (1048576 : Int) - (m : Int) < 0 := by omega
    rw [if_neg h]
    go_enter Try.func9, Try.ntmps9
    go_wp2_with fail
    refine (szIntS_any A m c _ HM.out).mono ?_
    rintro e w1 ⟨he, rfl⟩
    rw [E.out] at he
    subst he
    go_wp2
    go_ret
    exact ⟨rfl, (Below.refl _ _).alloc (Nat.le_refl _) _⟩

set_option maxHeartbeats 1000000 in
theorem toLine_any (A : Option Addr) (c : Nat) (s n : Int) (xs : List Int) (w : World) (h : Sees w w.heap.size A (ints xs)) (hn : xs.length ≤ 4194304) :
    Calls Try.prog 11 #[.agg #[.int .i64 s, .int .i64 n, .slice A xs.length c]] w fun e w' => ∃ v, e = .returned (.agg #[.int .i64 s, .int .i64 n, v]) ∧ Own w' w.heap.size v xs ∧ Below w.heap.size w w' := by
  have HN := hid hn
  clear hn
  go_enter Try.func11, Try.ntmps11
  go_wp2_with fail
  refine (toIntS_any A c xs _ ((((h.alloc (Nat.le_refl _) _).alloc (by simp) _).alloc (by simp; omega) _).more (by simp; omega)) HN.out).mono ?_
  rintro e w1 ⟨v1, rfl, ho1, hb1⟩
  obtain ⟨A1, c1, rfl, _⟩ := ho1.form
  have b1 : At w1 (w.heap.size + 1) 27 #[.int .i64 0, .int .i64 0, .slice none 0 0] := by
    have := ((At.new (w.alloc (.cells #[.int .i64 s, .int .i64 n, .slice A xs.length c] 24)) 27 #[.int .i64 0, .int .i64 0, .slice none 0 0]).alloc (.cells #[.int .i64 s, .int .i64 n, .slice none 0 0] 27)).below hb1 (by simp)
    simpa using this
  have b2 : At w1 (w.heap.size + 1 + 1) 27 #[.int .i64 s, .int .i64 n, .slice none 0 0] := by
    have := (At.new ((w.alloc (.cells #[.int .i64 s, .int .i64 n, .slice A xs.length c] 24)).alloc (.cells #[.int .i64 0, .int .i64 0, .slice none 0 0] 27)) 27 #[.int .i64 s, .int .i64 n, .slice none 0 0]).below hb1 (by simp)
    simpa using this
  have d1 := b1.cell
  have f1 := b1.frozen
  have d2 := b2.cell
  have f2 := b2.frozen
  have hbs : Below w.heap.size w w1 := ((((Below.refl _ _).alloc (Nat.le_refl _) _).alloc (by simp) _).alloc (by simp; omega) _).trans (hb1.mono (by simp; omega))
  have hz : w.heap.size + 1 + 1 < w1.heap.size := b2.lt
  go_wp2
  refine bodyPost_ret (v := .agg #[.int .i64 s, .int .i64 n, .slice A1 xs.length c1]) (by simp [results, Try.results11, go_sem, d1]) rfl ⟨_, rfl, ?_, ?_⟩
  · exact ((((ho1.setCell (by simp) _).setCell (by simp) _).setCell (by simp) _).setCell (by simp) _).mono (by simp; omega)
  · exact (((hbs.setCell (by simp; omega) _).setCell (by simp) _).setCell (by simp) _).setCell (by simp) _

set_option maxHeartbeats 1000000 in
theorem eqLine_same (A A' : Option Addr) (c c' : Nat) (s n : Int) (xs : List Int) (w : World) (h : Sees w w.heap.size A (ints xs)) (h' : Sees w w.heap.size A' (ints xs)) (hn : xs.length ≤ 4194304) :
    Calls Try.prog 13 #[.agg #[.int .i64 s, .int .i64 n, .slice A xs.length c], .agg #[.int .i64 s, .int .i64 n, .slice A' xs.length c']] w fun e w' => e = .returned (.bool true) ∧ Below w.heap.size w w' := by
  have HN := hid hn; clear hn
  have E : Hid (eqB xs xs = true) := hid (eqB_iff.2 rfl)
  go_enter Try.func13, Try.ntmps13
  go_wp2_with fail
  refine (eqIntS_any _ _ _ _ _ _ _ (((h.alloc (Nat.le_refl _) _).alloc (by simp) _).more (by simp; omega)) (((h'.alloc (Nat.le_refl _) _).alloc (by simp) _).more (by simp; omega)) (Nat.le_trans HN.out (by decide))).mono ?_
  rintro e w1 ⟨he, hb1⟩
  rw [E.out] at he
  subst he
  go_wp2
  go_ret
  exact ⟨rfl, (((Below.refl _ _).alloc (Nat.le_refl _) _).alloc (by simp) _).trans (hb1.mono (by simp; omega))⟩
end Go.Proofs.Ytcfijijpcafncac

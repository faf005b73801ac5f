/-
  The model's generator of checks: its list lies at an address, also when it is empty. Condition: the code is at most 2^20 bytes.
-/
import Derived.Test.YthghmpcfiakjgacChkGen
namespace Go.Proofs.Ythghmpcfiakjgac
open Go.RowKit

def ChkAns2 (w : World) (g p : Nat) (e : Ending) (w' : World) : Prop := ∃ (A : Option Addr) (c : Nat) (l : List Bool) (q : Nat), e = .returned (.slice A l.length c) ∧ GT w w' g q (.slice A l.length c) l ∧ l.length ≤ 13 ∧ q ≤ p + 30 ∧ A ≠ none
set_option maxHeartbeats 4000000 in
theorem someChecks2_any (g p : Nat) (w : World) (h : Rd w g p) (hp : p < 1000) :
    Calls Try.prog 23 #[.pointer (some ⟨g, 0, none⟩)] w (ChkAns2 w g p) := by
  have hg := h.lt
  obtain ⟨i0, hi0, hz0, hz1, hz2⟩ := info_parts booInfo
  have gl0 : GT w (w.alloc (.cells #[] 4)) g p (.slice (some ⟨w.heap.size, 0, none⟩) 0 0) [] :=
    ⟨OwnT.made w w.heap.size (Nat.le_refl _), h.alloc _, grown_of_below ((Below.refl _ _).alloc (Nat.le_refl _) _) _, hg⟩
  go_enter Try.func23, Try.ntmps23
  go_wp2_with fail
  refine (one_any g p _ 7 _ [6, 8, 12, 4, 1, 0, 13] _ (gl0.alloc _).rd (by omega) (At.newAt 3 _ (by simp)) (by rfl) (by omega) (by rfl) (by omega) (by omega)).mono ?_
  rintro e w1 ⟨n0, rfl, hn0, hg1, hr1⟩
  have hn0' : ∃ k : Nat, n0 = k ∧ k ≤ 13 := ⟨n0.toNat, by simp at hn0; omega, by simp at hn0; omega⟩
  obtain ⟨k0, rfl, hk0⟩ := hn0'
  clear hn0
  have gl1 := (gl0.alloc _).pick hg1 hr1
  clear hg1 hr1 gl0
  go_wp2_with fail
  go_loopw [3, 4, 5] (fun v b i wr => ∃ (k q : Nat) (A : Option Addr) (c : Nat) (l : List Bool) (x : Bool), i = .int .i64 k ∧ l.length + k ≤ 13 ∧ q + k ≤ p + 20 ∧ v = .slice A l.length c ∧ b = .bool x ∧ GT w wr g q (.slice A l.length c) l ∧ A ≠ none) (fun _ _ i _ => (intOf i).toNat)
  case atStart => exact ⟨k0, p + 1, _, _, [], true, rfl, by simp; omega, by omega, rfl, rfl, gl1, by simp⟩
  case round =>
    clear gl1
    obtain ⟨k, q, A, c, l, x, rfl, hk, hq, rfl, rfl, gl, hA⟩ := hrel
    obtain ⟨z1, z2, z3⟩ := gl.lt
    by_cases hk0 : 0 < k
    · have hki : (0 : Int) < (k : Int) := by omega
      go_wp2_with fail
      refine (pick_any g q 3 _ gl.rd (by omega)).mono ?_
      rintro e w2 ⟨f, rfl, hf0, hf1, hg2, hr2⟩
      have gl2 := gl.pick hg2 hr2
      clear hg2 hr2 hf1 gl
      rcases hf : (f == 0) with _ | _
      · go_wp2_with (at_builtin; refine wpList_append_own _ rfl _ _ 23 rfl w.heap.size 4 i0 (.bool false) 1 1 Try.underlying23 hi0 hz0 hz1 hz2 rfl (by decide) _ _ _ rfl (gl2.alloc _).own.out ⟨w2.heap.size, 0, none⟩ 1 1 [.bool x] rfl rfl (by simpa using cells_new w2 [.bool x] _) ?c2 ?c3 ?c4 ?c5 ?_)
        case c2 => simp [Value.oneCell']
        case c3 => unfold maxLen; omega
        case c4 => omega
        case c5 => have := gl2.lt; simp; omega
        case _ =>
          intro v1 w5 h1 hg5 _
          have gl5 := gl2.snoc (x := x) h1 hg5
          obtain ⟨A5, c5, rfl, _, _, hs5⟩ := OwnT.form gl5.own
          have e5 : (l ++ [x]).length = l.length + 1 := by simp
          clear h1 hg5 gl2
          rw [e5] at gl5
          have hA5 : A5 ≠ none := fun e => by subst e; have hq := hs5.none_nil; simp [boos] at hq
          go_wp2
          go_roundw
          case rel => exact ⟨k - 1, q + 1, A5, c5, l ++ [x], x, by go_num, by rw [e5]; omega, by omega, by rw [e5], rfl, by rw [e5]; exact gl5, hA5⟩
          case measure => simp [intOf]; omega
      · go_wp2_with (at_builtin; refine wpList_append_own _ rfl _ _ 23 rfl w.heap.size 4 i0 (.bool false) 1 1 Try.underlying23 hi0 hz0 hz1 hz2 rfl (by decide) _ _ _ rfl (gl2.alloc _).own.out ⟨w2.heap.size, 0, none⟩ 1 1 [.bool (!x)] rfl rfl (by simpa using cells_new w2 [.bool (!x)] _) ?c2 ?c3 ?c4 ?c5 ?_)
        case c2 => simp [Value.oneCell']
        case c3 => unfold maxLen; omega
        case c4 => omega
        case c5 => have := gl2.lt; simp; omega
        case _ =>
          intro v1 w5 h1 hg5 _
          have gl5 := gl2.snoc (x := !x) h1 hg5
          obtain ⟨A5, c5, rfl, _, _, hs5⟩ := OwnT.form gl5.own
          have e5 : (l ++ [!x]).length = l.length + 1 := by simp
          clear h1 hg5 gl2
          rw [e5] at gl5
          have hA5 : A5 ≠ none := fun e => by subst e; have hq := hs5.none_nil; simp [boos] at hq
          go_wp2
          go_roundw
          case rel => exact ⟨k - 1, q + 1, A5, c5, l ++ [!x], !x, by go_num, by rw [e5]; omega, by omega, by rw [e5], rfl, by rw [e5]; exact gl5, hA5⟩
          case measure => simp [intOf]; omega
    · have hki : ¬ (0 : Int) < (k : Int) := by omega
      go_wp2
      go_ret
      exact ⟨A, c, l, q, rfl, gl, by omega, by omega, hA⟩

def ChD02 (w : World) (e : Ending) (w' : World) : Prop := ∃ A c l, e = .returned (.slice A (List.length l) c) ∧ DT w w' A c l ∧ A ≠ none
set_option maxHeartbeats 1000000 in
theorem drawGoodShare2_any (A : Option Addr) (n c : Nat) (zs : List Int) (w : World) (h : Sees w w.heap.size A (byts zs)) (hz : ∀ z ∈ zs, 0 ≤ z ∧ z ≤ 255) (hn : zs.length = n) (hc : n ≤ c) (hm : n ≤ 1048576) (hcc : c ≤ maxLen) :
    Calls Try.prog 13 #[.slice A n c] w (ChD02 w) := by
  have HZ := hid hz
  have HE := hid hn
  have HC := hid hcc
  clear hz hn hcc
  go_enter Try.func13, Try.ntmps13
  go_wp2_with fail
  refine (newReader_any A n c zs _ h HZ.out HE.out hc hm HC.out).mono ?_
  rintro e w1 ⟨rfl, hb1, hr1⟩
  go_wp2_with fail
  refine (someChecks2_any w.heap.size 0 _ hr1 (by omega)).mono ?_
  rintro e w2 ⟨A2, c2, l, q, rfl, gl, hl, hq, hA⟩
  go_wp2
  go_ret
  exact ⟨A2, c2, l, rfl, DT.of_gt hb1 gl (Nat.le_refl _) hl, hA⟩

end Go.Proofs.Ythghmpcfiakjgac

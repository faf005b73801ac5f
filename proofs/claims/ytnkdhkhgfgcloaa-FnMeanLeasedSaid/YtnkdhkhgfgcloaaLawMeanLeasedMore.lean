/-
  The walk of the law FnMeanLeasedMore: at every code it returns true and changes nothing that was there. Conditions: none.
-/
import Derived.Test.YtnkdhkhgfgcloaaSzB
import Derived.Test.YtnkdhkhgfgcloaaLsDraw
import Derived.Test.YtnkdhkhgfgcloaaLawFrame
import Derived.BigQuiet
namespace Go.Proofs.Ytnkdhkhgfgcloaa
open Go.RowKit Lse

theorem mean_pos {l : List L} {u : Int} (h : 0 ≤ meanOf l u) : validB l = true ∧ inB u 1 1000 = true := by
  rcases hb : meanB l u with _ | _
  · rw [mean_no hb] at h; omega
  · unfold meanB at hb; rw [Bool.and_eq_true] at hb; exact hb
theorem aheads_le {l : List L} (hv : ∀ x ∈ l, x.ok = true) (u : Int) (k : Nat) : aheads (l.take k) u ≤ aheads l u := by
  have e : aheads l u = aheads (l.take k) u + aheads (l.drop k) u := by
    have : aheads (l.take k ++ l.drop k) u = aheads (l.take k) u + aheads (l.drop k) u := by simp only [aheads, List.map_append, List.sum_append]
    rwa [List.take_append_drop] at this
  have := (aheads_bd (l := l.drop k) (fun x hx => hv x (List.mem_of_mem_drop hx)) u).1
  omega
theorem mean_take {l : List L} {u : Int} (h : 0 ≤ meanOf l u) (k : Nat) : meanOf (l.take k) u ≤ meanOf l u ∧ meanOf [] u = 0 := by
  obtain ⟨h1, h2⟩ := mean_pos h
  obtain ⟨u1, u2⟩ := inB_iff.1 h2
  have hn : validB ([] : List L) = true := validB_iff.2 ⟨by simp, Fine.nil⟩
  rw [mean_yes h1 h2, mean_yes (valid_sub h1 (List.take_sublist k l)) h2, mean_yes hn h2]
  refine ⟨Int.ediv_le_ediv (by omega) (by have := aheads_le (validB_iff.1 h1).2.1 u k; omega), by simp [aheads]⟩
theorem iMeanLeased_len {A : Option Addr} {n c : Nat} {l : List L} {u : Int} {w : World} (hl : l.length = n) (h : Sees w w.heap.size A (lvals l)) (hc : l.length ≤ c) (hn : l.length ≤ 4194304) :
    Calls Try.prog 24 #[.slice A n c, .int .i64 u] w fun e w' => e = .returned (.int .i64 (meanOf l u)) ∧ Below w.heap.size w w' := by
  subst hl; exact iMeanLeased_any A c l u w h hc hn
set_option maxHeartbeats 1000000 in
theorem drawMeanLeased_any (A : Option Addr) (n c : Nat) (zs : List Int) (w : World) (h : Sees w w.heap.size A (byts zs)) (hz : ∀ z ∈ zs, 0 ≤ z ∧ z ≤ 255) (hn : zs.length = n) (hc : n ≤ c) (hm : n ≤ 1048576) (hcc : c ≤ maxLen) :
    Calls Try.prog 23 #[.slice A n c] w (Draw1 w) := by
  have HZ := hid hz
  have HE := hid hn
  have HC := hid hcc
  clear hz hn hcc
  go_enter Try.func23, Try.ntmps23
  go_wp2_with fail
  refine (newReader_any A n c zs _ h HZ.out HE.out hc hm HC.out).mono ?_
  rintro e w1 ⟨rfl, hb1, hr1⟩
  go_wp2_with fail
  refine (anyLeases_any w.heap.size 0 _ hr1 (by omega)).mono ?_
  rintro e w2 ⟨A2, c2, l, q, rfl, ho, hl, hg2, hr2, hq⟩
  have gl : GL w1 w2 w.heap.size q (.slice A2 l.length c2) l := ⟨ho, hr2, hg2, hr1.lt⟩
  clear ho hg2 hr2
  obtain ⟨_, z2, z3⟩ := gl.lt
  go_wp2_with fail
  refine (one_any w.heap.size q _ 8 _ [100, 50, 10, 1000, 1, 0, 1001, 30] _ (gl.alloc _).2.1 (by omega) (At.new w2 3 _) (by rfl) (by omega) (by rfl) (by omega) (by omega)).mono ?_
  rintro e w3 ⟨x, rfl, _, hg3, hr3⟩
  have gl3 := (gl.alloc _).pick hg3 hr3
  clear gl hg3 hr3
  go_wp2
  go_ret2
  exact ⟨A2, c2, l, x, rfl, DL.of_gl hb1 gl3 hl⟩

end Go.Proofs.Ytnkdhkhgfgcloaa

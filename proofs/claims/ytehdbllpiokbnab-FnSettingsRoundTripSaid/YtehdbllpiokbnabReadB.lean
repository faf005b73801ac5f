/-
  What one and newReader answer. Conditions: the reader stands at a place below 100000; the list is a literal of the caller; the bytes are at most 2^20.
-/
import Derived.Test.YtehdbllpiokbnabReadA

namespace Go.Proofs.Ytehdbllpiokbnab
open Go.RowKit

/-- What one answers: one of the numbers; only the reader's block has changed, and it is one place further. -/
def OneAns (xs : List Int) (w : World) (g p : Nat) (e : Ending) (w' : World) : Prop :=
  ∃ x : Int, e = .returned (.int .i64 x) ∧ x ∈ xs ∧ w.grownBy w' (some g) ∧ Rd w' g (p + 1)

set_option maxHeartbeats 1000000 in
theorem one_any (g p b n c : Nat) (xs : List Int) (w : World) (h : Rd w g p) (hp : p < 100000) {cs : Array Value} (hb : At w b 3 cs) (hcs : cs = (ints xs).toArray) (hne : b ≠ g) (hn : n = xs.length) (h0 : 0 < n) (h1 : n < 1000) :
    Calls Try.prog 52 #[.pointer (some ⟨g, 0, none⟩), .slice (some ⟨b, 0, none⟩) n c] w (OneAns xs w g p) := by
  subst hcs
  have HE := hid hn
  clear hn
  go_enter Try.func52, Try.ntmps52
  go_wp2_with fail
  refine (pick_any g p _ w h hp).mono ?_
  rintro e w1 ⟨x, rfl, hx0, hx1, hg1, hr1⟩
  obtain ⟨k, rfl⟩ : ∃ k : Nat, x = k := ⟨x.toNat, by omega⟩
  have hk : (k : Int) < (n : Int) := hx1 (by omega)
  have hk' : k < xs.length := by have := HE.out; omega
  have hc : w1.cell? ⟨b, k, none⟩ = some (.int .i64 xs[k]) := by
    rw [(hb.past hg1 hne).cell k]
    simp [ints, hk']
  clear hx1
  go_wp2
  go_ret
  exact ⟨_, rfl, List.getElem_mem hk', hg1, hr1⟩

set_option maxHeartbeats 1000000 in
theorem newReader_any (A : Option Addr) (n c : Nat) (zs : List Int) (w : World) (h : Sees w w.heap.size A (byts zs)) (hz : ∀ z ∈ zs, 0 ≤ z ∧ z ≤ 255) (hn : zs.length = n) (hc : n ≤ c) (hm : n ≤ 1048576) (hcc : c ≤ maxLen) :
    Calls Try.prog 23 #[.slice A n c] w fun e w' => e = .returned (.pointer (some ⟨w.heap.size, 0, none⟩)) ∧ Below w.heap.size w w' ∧ Rd w' w.heap.size 0 := by
  have HE := hid hn
  have HC := hid hcc
  clear hn hcc
  by_cases hbig : 2000 < n
  · have hne : ¬ c = 0 := by omega
    go_enter Try.func23, Try.ntmps23
    go_wp2
    go_ret
    refine ⟨rfl, (Below.refl _ _).alloc (Nat.le_refl _) _, A, zs.take 2000, c, ?_, ?_, fun z hm => hz z (List.mem_of_mem_take hm), ?_, by omega⟩
    · have e : (zs.take 2000).length = 2000 := by have := HE.out; rw [List.length_take]; omega
      rw [e]; exact At.new _ _ _
    · have e : byts (zs.take 2000) = (byts zs).take 2000 := by simp [byts]
      rw [e]; exact (h.take 2000).alloc (Nat.le_refl _) _
    · rw [List.length_take]; omega
  · go_enter Try.func23, Try.ntmps23
    go_wp2
    go_ret
    refine ⟨rfl, (Below.refl _ _).alloc (Nat.le_refl _) _, A, zs, c, ?_, h.alloc (Nat.le_refl _) _, hz, ?_, by omega⟩
    · rw [HE.out]; exact At.new _ _ _
    · rw [HE.out]; omega
end Go.Proofs.Ytehdbllpiokbnab

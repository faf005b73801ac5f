/-
  Words for the walks of the drawn laws on one cache. Condition: the lists lie in memory.
-/
import Derived.Test.YtgliijkpjncfnabCaC
import Derived.Test.YtgliijkpjncfnabCaH
import Derived.Test.YtgliijkpjncfnabCaD
import Derived.Test.YtgliijkpjncfnabCacLawMath
namespace Go.Proofs.Ytgliijkpjncfnab
open Go.RowKit Cac

theorem sees_at {w : World} {g : Nat} {T : TypeId} {l : List Int} {cs : Array Value} (h : At w g T cs) (e : cs = (ints l).toArray) : Sees w w.heap.size (some ⟨g, 0, none⟩) (ints l) := by
  subst e
  exact fun _ => ⟨g, 0, rfl, h.lt, fun j u hu => by rw [Nat.zero_add, h.cell j]; simpa using hu⟩
theorem cEq_same (A B : Option Addr) (c d : Nat) (Q : List Int) (w : World) (h : Sees w w.heap.size A (ints Q)) (h' : Sees w w.heap.size B (ints Q)) (hn : Q.length ≤ 4194304) :
    Calls Try.prog 20 #[.slice A Q.length c, .slice B Q.length d] w fun e w' => e = .returned (.bool true) ∧ Below w.heap.size w w' := by
  refine (equalInts_any A B c d Q Q w h h' (Nat.le_trans hn (by decide))).mono ?_
  rintro e w' ⟨he, hb⟩
  exact ⟨by rw [he, eqB_iff.2 rfl], hb⟩
theorem cEq_len {A B : Option Addr} {n c d : Nat} {P Q : List Int} {w : World} (hl : P.length = n) (h : Sees w w.heap.size A (ints P)) (h' : Sees w w.heap.size B (ints Q)) (e : P = Q) (hn : Q.length ≤ 4194304) :
    Calls Try.prog 20 #[.slice A n c, .slice B Q.length d] w fun e w' => e = .returned (.bool true) ∧ Below w.heap.size w w' := by
  subst hl; subst e; exact cEq_same A B c d P w h h' hn
set_option maxHeartbeats 1000000 in
theorem equalCache_same (A B : Option Addr) (c d : Nat) (s : Cch) (w : World) (h : SeesN w w.heap.size A s) (h' : SeesN w w.heap.size B s) (hn : s.n.length ≤ 4194304) :
    Calls Try.prog 14 #[.agg #[.int .i64 s.r, .slice A s.n.length c], .agg #[.int .i64 s.r, .slice B s.n.length d]] w fun e w' => e = .returned (.bool true) ∧ Below w.heap.size w w' := by
  have HN := hid hn
  clear hn
  have hb0 := (Below.refl w.heap.size w).alloc (Nat.le_refl _) (.cells #[.int .i64 s.r, .slice A s.n.length c] 25)
  have hb := hb0.alloc hb0.size (.cells #[.int .i64 s.r, .slice B s.n.length d] 25)
  have x0 := (At.new w 25 #[.int .i64 s.r, .slice A s.n.length c]).alloc (.cells #[.int .i64 s.r, .slice B s.n.length d] 25)
  have z0 : At ((w.alloc (.cells #[.int .i64 s.r, .slice A s.n.length c] 25)).alloc (.cells #[.int .i64 s.r, .slice B s.n.length d] 25)) (w.heap.size + 1) 25 #[.int .i64 s.r, .slice B s.n.length d] := At.newAt _ _ (by simp)
  have hs := h.on hb
  have hs' := h'.on hb
  obtain ⟨p0, p1, pl, pf⟩ := x0.two
  obtain ⟨q0, q1, ql, qf⟩ := z0.two
  go_enter Try.func14, Try.ntmps14
  go_wp2_with fail
  refine (cEq_same A B c d s.n _ hs.names hs'.names HN.out).mono ?_
  rintro e w1 ⟨rfl, hb1⟩
  go_wp2
  go_ret
  exact ⟨rfl, hb.trans (hb1.mono hb.size)⟩

theorem iCountPrepares_len {s : Cch} {l : List Int} {n : Nat} {A1 A2 : Option Addr} {c1 c2 : Nat} {w : World} (hl : l.length = n) (h : SeesN w w.heap.size A1 s) (h2 : Sees w w.heap.size A2 (ints l)) (hc : s.n.length ≤ c1) (h1 : s.n.length ≤ 4194304) (h3 : l.length ≤ 4194304) :
    Calls Try.prog 23 #[.agg #[.int .i64 s.r, .slice A1 s.n.length c1], .slice A2 n c2] w fun e w' => e = .returned (.int .i64 (prepV s l)) ∧ Below w.heap.size w w' := by
  subst hl; exact iCountPrepares_any s l A1 A2 c1 c2 w h h2 hc h1 h3
theorem lisIn_qb {A : Option Addr} {c : Nat} {xs : List Int} {x : Int} {b : Bool} (hx : mem xs x = b) (w : World) (m : Nat) {B : Nat} (h : Sees w B A (ints xs)) (hn : xs.length ≤ 4194304) :
    Calls Try.prog 21 #[.slice A xs.length c, .int .i64 x] (w.drewN m) fun e w' => e = .returned (.bool b) ∧ ∃ k, w' = w.drewN k := by
  subst hx
  exact Calls.quiet_of_same ((lisIn_any A c xs x _ (h.drewN m) (Nat.le_trans hn (by decide))).mono fun _ _ ⟨he, hw⟩ => ⟨by rw [he, mem_memB], hw.symm⟩)
end Go.Proofs.Ytgliijkpjncfnab

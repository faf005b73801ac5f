/-
  States of transactions in memory; what the program's neverFalls answers. Condition: the list lies in memory and is at most 2^22 long.
-/
import Derived.Test.YtocaddibdiikpaaBase
import Derived.Test.YtocaddibdiikpaaCopyN
import Derived.Test.YtocaddibdiikpaaOwnX
import Derived.Test.YtocaddibdiikpaaNestMath
import Derived.Handy
namespace Go.Proofs.Ytocaddibdiikpaa
open Go.RowKit Nes

/-- The marks of a state, in memory below block B. -/
def SeesM (w : World) (B : Nat) (A1 : Option Addr) (s : Nst) : Prop := Sees w B A1 (ints s.m)
abbrev nscs (s : Nst) (A1 : Option Addr) (c1 : Nat) : Array Value := #[.int .i64 s.d, .int .i64 s.w, .slice A1 s.m.length c1, .bool s.b]
section
variable {w w' : World} {B B' : Nat} {A1 : Option Addr} {s : Nst}
theorem SeesM.marks (h : SeesM w B A1 s) : Sees w B A1 (ints s.m) := h
theorem SeesM.below (h : SeesM w B A1 s) (hb : Below B w w') : SeesM w' B A1 s := Sees.below h hb
theorem SeesM.more (h : SeesM w B A1 s) (hB : B ≤ B') : SeesM w B' A1 s := Sees.more h hB
theorem SeesM.on (h : SeesM w w.heap.size A1 s) (hb : Below w.heap.size w w') : SeesM w' w'.heap.size A1 s := (h.below hb).more hb.size
theorem SeesM.alloc (h : SeesM w w.heap.size A1 s) (o : Obj) : SeesM (w.alloc o) (w.alloc o).heap.size A1 s := h.on ((Below.refl _ _).alloc (Nat.le_refl _) o)
theorem SeesM.drew (h : SeesM w w.heap.size A1 s) : SeesM w.drew w.drew.heap.size A1 s := h.on (Below.refl _ _).drew
theorem SeesM.drewN (h : SeesM w w.heap.size A1 s) (n : Nat) : SeesM (w.drewN n) (w.drewN n).heap.size A1 s := h.on (below_drewN (Below.refl _ _) n)
end
theorem Sees.on4 {w w' : World} {A : Option Addr} {xs : List Value} (h : Sees w w.heap.size A xs) (hb : Below w.heap.size w w') : Sees w' w'.heap.size A xs := (h.below hb).more hb.size
theorem At.four {w : World} {g : Nat} {t : TypeId} {a b c d : Value} (h : At w g t #[a, b, c, d]) : w.cell? ⟨g, 0, none⟩ = some a ∧ w.cell? ⟨g, 1, none⟩ = some b ∧ w.cell? ⟨g, 2, none⟩ = some c ∧ w.cell? ⟨g, 3, none⟩ = some d ∧ g < w.heap.size ∧ ∀ i, w.frozen? ⟨g, i, none⟩ = false :=
  ⟨h.cell 0, h.cell 1, h.cell 2, h.cell 3, h.lt, h.frozen⟩
/-- The four cells of a block are written. -/
theorem four_put {w : World} {g : Nat} {T : TypeId} {cs : Array Value} (u0 u1 u2 u3 : Value) (h : At w g T cs) (hc : cs.size = 4) :
    At ((((w.setCell ⟨g, 0, none⟩ u0).setCell ⟨g, 1, none⟩ u1).setCell ⟨g, 2, none⟩ u2).setCell ⟨g, 3, none⟩ u3) g T #[u0, u1, u2, u3] ∧
    w.grownBy ((((w.setCell ⟨g, 0, none⟩ u0).setCell ⟨g, 1, none⟩ u1).setCell ⟨g, 2, none⟩ u2).setCell ⟨g, 3, none⟩ u3) (some g) := by
  refine ⟨?_, grown_trans (grown_trans (grown_trans (grown_set _ _ _ _) (grown_set _ _ _ _)) (grown_set _ _ _ _)) (grown_set _ _ _ _)⟩
  have := (((h.set 0 u0).set 1 u1).set 2 u2).set 3 u3
  obtain ⟨l⟩ := cs
  match l, hc with
  | [a, b, c, d], _ => simpa using this
/-- The marks of a state, in a list that the call itself made. -/
def OwnM (w : World) (base : Nat) (A1 : Option Addr) (c1 : Nat) (s : Nst) : Prop := Own w base (.slice A1 s.m.length c1) s.m
section
variable {w w' : World} {base base' : Nat} {A1 : Option Addr} {c1 : Nat} {s : Nst}
theorem OwnM.own (h : OwnM w base A1 c1 s) : Own w base (.slice A1 s.m.length c1) s.m := h
theorem OwnM.below (h : OwnM w base A1 c1 s) (hb : Below w.heap.size w w') : OwnM w' base A1 c1 s := Own.below h hb
theorem OwnM.mono (h : OwnM w base A1 c1 s) (hb : base' ≤ base) : OwnM w base' A1 c1 s := Own.mono h hb
theorem OwnM.alloc (h : OwnM w base A1 c1 s) (o : Obj) : OwnM (w.alloc o) base A1 c1 s := h.below ((Below.refl _ _).alloc (Nat.le_refl _) o)
theorem OwnM.drew (h : OwnM w base A1 c1 s) : OwnM w.drew base A1 c1 s := h.below (Below.refl _ _).drew
theorem OwnM.drewN (h : OwnM w base A1 c1 s) (n : Nat) : OwnM (w.drewN n) base A1 c1 s := h.below (below_drewN (Below.refl _ _) n)
theorem OwnM.sees (h : OwnM w base A1 c1 s) : SeesM w w.heap.size A1 s := Sees.of_own h.own.out
theorem OwnM.zero (w : World) (base : Nat) : OwnM w base none 0 zeroN := Own.none_ _ _
theorem OwnM.past (h : OwnM w base A1 c1 s) {g : Nat} {t : TypeId} {cs : Array Value} (ha : At w g t cs) (ht : t ≠ 3) (hg : w.grownBy w' (some g)) : OwnM w' base A1 c1 s := row_past h.own.out ha ht hg
theorem OwnM.cap (h : OwnM w base A1 c1 s) : s.m.length ≤ c1 := by
  obtain ⟨_, _, e, q, _⟩ := own_form h.own.out
  injection e with _ _ e; omega
theorem OwnM.capm (h : OwnM w base A1 c1 s) : c1 ≤ maxLen := by
  obtain ⟨_, _, e, _, q⟩ := own_form h.own.out
  injection e with _ _ e; omega
end
/-- A state that a call made, and a truth value. -/
def NesAns (s : Nst) (b : Bool) (w : World) (e : Ending) (w' : World) : Prop :=
  ∃ A1 c1, e = .returned (.tuple #[.agg #[.int .i64 s.d, .int .i64 s.w, .slice A1 s.m.length c1, .bool s.b], .bool b]) ∧ OwnM w' w.heap.size A1 c1 s ∧ Below w.heap.size w w'
theorem nofall_noN {ts : List Int} {k : Nat} (hk : k + 1 < ts.length) (h : ts[k + 1] < ts[k]) : Brk.nofall ts = false := by
  refine Bool.eq_false_iff.2 fun e => ?_
  have := Brk.nofall_iff.1 e k hk
  rw [getD_get hk, getD_get (by omega : k < ts.length)] at this
  omega
theorem nofall_nextN {ts : List Int} {k : Nat} (hk : k + 1 < ts.length) (h : ¬ ts[k + 1] < ts[k]) (ha : ∀ j, j + 1 < k + 1 → ts.getD j 0 ≤ ts.getD (j + 1) 0) : ∀ j, j + 1 < k + 1 + 1 → ts.getD j 0 ≤ ts.getD (j + 1) 0 := by
  intro j hj
  rcases Nat.lt_or_ge j k with e | e
  · exact ha j (by omega)
  · have : j = k := by omega
    subst this
    rw [getD_get hk, getD_get (by omega : j < ts.length)]
    omega
set_option maxHeartbeats 1000000 in
theorem neverFallsN_any (A : Option Addr) (c : Nat) (ts : List Int) (w : World) {B : Nat} (h : Sees w B A (ints ts)) (hn : ts.length ≤ 4194304) :
    Calls Try.prog 36 #[.slice A ts.length c] w fun e w' => e = .returned (.bool (Brk.nofall ts)) ∧ ∃ q, w' = w.drewN q := by
  have HN := hid hn; clear hn
  go_enter Try.func36, Try.ntmps36
  go_wp2
  go_loopw [6] (fun i wr => ∃ k : Nat, k ≤ ts.length ∧ i = .int .i64 k ∧ Hid (∃ q, wr = w.drewN q) ∧ Sees wr B A (ints ts) ∧ Hid (∀ j, j + 1 < k → ts.getD j 0 ≤ ts.getD (j + 1) 0)) (fun i _ => ts.length - (intOf i).toNat)
  case atStart => exact ⟨0, Nat.zero_le _, rfl, hid ⟨0, rfl⟩, h, hid (by omega)⟩
  case round =>
    obtain ⟨k, hk, rfl, HD, hs, HA⟩ := hrel
    have hn := HN.out
    have HQ := hid (fun q : Nat => (show ∃ p, wr.drewN q = w.drewN p by obtain ⟨n, e⟩ := HD.out; rw [e]; exact ⟨_, World.drewN_drewN _ _ _⟩))
    by_cases hlt : k < ts.length
    · have hi : (k : Int) < (ts.length : Int) := by omega
      cases k with
      | zero =>
        have HX := hid (show ∀ j, j + 1 < 0 + 1 → ts.getD j 0 ≤ ts.getD (j + 1) 0 by omega)
        go_wp2
        go_quiet (fail)
        go_wp2
        go_roundw
        case rel => exact ⟨0 + 1, by omega, by go_num, hid (HQ.out _), hs, HX⟩
        case measure => simp [intOf]; omega
      | succ k =>
        obtain ⟨b, o, rfl, _, hc1⟩ := hs.int hlt
        obtain ⟨b', o', e1, _, hc2⟩ := hs.int (show k < ts.length by omega)
        injection e1 with e1
        injection e1 with e1 e2
        subst e1 e2
        have HS := hid (fun (hh : ts[k + 1] < ts[k]) => nofall_noN hlt hh)
        have HM := hid (fun (hh : ¬ ts[k + 1] < ts[k]) => nofall_nextN hlt hh HA.out)
        obtain ⟨x, hx⟩ : ∃ x, x = ts[k + 1] := ⟨_, rfl⟩
        obtain ⟨y, hy⟩ : ∃ y, y = ts[k] := ⟨_, rfl⟩
        rw [← hx] at hc1 HS HM
        rw [← hy] at hc2 HS HM
        clear hx hy HA
        have hk1 : (k : Int) < (ts.length : Int) := by omega
        have hk0 : (0 : Int) < ((k + 1 : Nat) : Int) := by omega
        have hw1 : IntKind.i64.wrap (((k + 1 : Nat) : Int) - 1) = (k : Int) := by rw [IntKind.wrap_i64]; omega
        by_cases hxy : x < y
        · have HX := hid (HS.out hxy)
          go_wp2
          go_quiet (fail)
          go_wp2
          go_ret
          exact ⟨ret_bool HX.out.symm, HQ.out _⟩
        · have HX := hid (HM.out hxy)
          go_wp2
          go_quiet (fail)
          go_wp2
          go_roundw
          case rel => exact ⟨k + 1 + 1, by omega, by go_num, hid (HQ.out _), hs, HX⟩
          case measure => simp [intOf]; omega
    · have hi : ¬ (k : Int) < (ts.length : Int) := by omega
      have HX := hid (show Brk.nofall ts = true from Brk.nofall_iff.2 fun j hj => HA.out j (by omega))
      go_wp2
      go_ret
      exact ⟨ret_bool HX.out.symm, by obtain ⟨n, e⟩ := HD.out; exact ⟨n, e⟩⟩
theorem neverFallsN_q (A : Option Addr) (c : Nat) (ts : List Int) (w : World) (m : Nat) {B : Nat} (h : Sees w B A (ints ts)) (hn : ts.length ≤ 4194304) :
    Calls Try.prog 36 #[.slice A ts.length c] (w.drewN m) fun e w' => e = .returned (.bool (Brk.nofall ts)) ∧ ∃ q, w' = w.drewN q :=
  Calls.quiet_of ((neverFallsN_any A c ts _ (h.drewN m) hn))

end Go.Proofs.Ytocaddibdiikpaa

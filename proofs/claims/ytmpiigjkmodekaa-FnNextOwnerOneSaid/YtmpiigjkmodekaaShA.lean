/-
  Shares in memory. No condition.
-/
import Derived.Test.YtmpiigjkmodekaaStrip
import Derived.Test.YtmpiigjkmodekaaOwnI
import Derived.Test.YtmpiigjkmodekaaCopyN
import Derived.Test.YtmpiigjkmodekaaOwnX
import Derived.Test.YtmpiigjkmodekaaShareMath
namespace Go.Proofs.Ytmpiigjkmodekaa
open Go.RowKit Sha

/-- The two lists of shares, in memory below block B. -/
def SeesR (w : World) (B : Nat) (A1 A2 : Option Addr) (s : Shr) : Prop := Sees w B A1 (ints s.m) ∧ Sees w B A2 (ints s.h)
/-- The cells of shares: their lists lie at these addresses. -/
abbrev scs (s : Shr) (A1 A2 : Option Addr) (c1 c2 : Nat) : Array Value := #[.int .i64 s.t, .slice A1 s.m.length c1, .slice A2 s.h.length c2]
section
variable {w w' : World} {B B' : Nat} {A1 A2 : Option Addr} {s : Shr}
theorem SeesR.most (h : SeesR w B A1 A2 s) : Sees w B A1 (ints s.m) := h.1
theorem SeesR.has (h : SeesR w B A1 A2 s) : Sees w B A2 (ints s.h) := h.2
theorem SeesR.below (h : SeesR w B A1 A2 s) (hb : Below B w w') : SeesR w' B A1 A2 s := ⟨h.1.below hb, h.2.below hb⟩
theorem SeesR.more (h : SeesR w B A1 A2 s) (hB : B ≤ B') : SeesR w B' A1 A2 s := ⟨h.1.more hB, h.2.more hB⟩
theorem SeesR.on (h : SeesR w w.heap.size A1 A2 s) (hb : Below w.heap.size w w') : SeesR w' w'.heap.size A1 A2 s := (h.below hb).more hb.size
theorem SeesR.alloc (h : SeesR w w.heap.size A1 A2 s) (o : Obj) : SeesR (w.alloc o) (w.alloc o).heap.size A1 A2 s := h.on ((Below.refl _ _).alloc (Nat.le_refl _) o)
theorem SeesR.drew (h : SeesR w w.heap.size A1 A2 s) : SeesR w.drew w.drew.heap.size A1 A2 s := h.on (Below.refl _ _).drew
end
theorem SeesR.drewN {w : World} {A1 A2 : Option Addr} {s : Shr} (h : SeesR w w.heap.size A1 A2 s) (n : Nat) : SeesR (w.drewN n) (w.drewN n).heap.size A1 A2 s := h.on (below_drewN (Below.refl _ _) n)
/-- The three cells of a block. -/
theorem At.three {w : World} {g : Nat} {t : TypeId} {a b c : Value} (h : At w g t #[a, b, c]) : w.cell? ⟨g, 0, none⟩ = some a ∧ w.cell? ⟨g, 1, none⟩ = some b ∧ w.cell? ⟨g, 2, none⟩ = some c ∧ g < w.heap.size ∧ ∀ i, w.frozen? ⟨g, i, none⟩ = false :=
  ⟨h.cell 0, h.cell 1, h.cell 2, h.lt, h.frozen⟩
/-- The three cells of a block are written. -/
theorem three_put {w : World} {g : Nat} {T : TypeId} {cs : Array Value} (u0 u1 u2 : Value) (h : At w g T cs) (hc : cs.size = 3) :
    At (((w.setCell ⟨g, 0, none⟩ u0).setCell ⟨g, 1, none⟩ u1).setCell ⟨g, 2, none⟩ u2) g T #[u0, u1, u2] ∧
    w.grownBy (((w.setCell ⟨g, 0, none⟩ u0).setCell ⟨g, 1, none⟩ u1).setCell ⟨g, 2, none⟩ u2) (some g) := by
  refine ⟨?_, grown_trans (grown_trans (grown_set _ _ _ _) (grown_set _ _ _ _)) (grown_set _ _ _ _)⟩
  have := ((h.set 0 u0).set 1 u1).set 2 u2
  obtain ⟨l⟩ := cs
  match l, hc with
  | [a, b, c], _ => simpa using this
/-- Two values lie in different blocks. -/
def Afar (v v' : Value) : Prop := ∀ k, v.ownBlock = some k → v'.ownBlock ≠ some k
theorem afar_of {v v' : Value} {a b c d : Nat} (ha : ∀ k, v.ownBlock = some k → a ≤ k ∧ k < b) (hb : ∀ k, v'.ownBlock = some k → c ≤ k ∧ k < d) (h : b ≤ c ∨ d ≤ a) : Afar v v' := fun k h1 h2 => by
  have := ha k h1
  have := hb k h2
  omega
/-- The two lists of shares, which the call itself made: from block base on, not in one block. -/
def OwnR (w : World) (base : Nat) (A1 A2 : Option Addr) (c1 c2 : Nat) (s : Shr) : Prop :=
  Own w base (.slice A1 s.m.length c1) s.m ∧ Own w base (.slice A2 s.h.length c2) s.h ∧ Afar (.slice A1 s.m.length c1) (.slice A2 s.h.length c2)
section
variable {w w' : World} {base base' : Nat} {A1 A2 : Option Addr} {c1 c2 : Nat} {s : Shr}
theorem OwnR.below (h : OwnR w base A1 A2 c1 c2 s) (hb : Below w.heap.size w w') : OwnR w' base A1 A2 c1 c2 s := ⟨h.1.below hb, h.2.1.below hb, h.2.2⟩
theorem OwnR.mono (h : OwnR w base A1 A2 c1 c2 s) (hb : base' ≤ base) : OwnR w base' A1 A2 c1 c2 s := ⟨h.1.mono hb, h.2.1.mono hb, h.2.2⟩
theorem OwnR.alloc (h : OwnR w base A1 A2 c1 c2 s) (o : Obj) : OwnR (w.alloc o) base A1 A2 c1 c2 s := h.below ((Below.refl _ _).alloc (Nat.le_refl _) o)
theorem OwnR.drew (h : OwnR w base A1 A2 c1 c2 s) : OwnR w.drew base A1 A2 c1 c2 s := h.below (Below.refl _ _).drew
theorem OwnR.drewN (h : OwnR w base A1 A2 c1 c2 s) (n : Nat) : OwnR (w.drewN n) base A1 A2 c1 c2 s := h.below (below_drewN (Below.refl _ _) n)
theorem OwnR.sees (h : OwnR w base A1 A2 c1 c2 s) : SeesR w w.heap.size A1 A2 s := ⟨Sees.of_own h.1.out, Sees.of_own h.2.1.out⟩
theorem OwnR.zero (w : World) (base : Nat) : OwnR w base none none 0 0 zeroS := ⟨Own.none_ _ _, Own.none_ _ _, fun _ h => by cases h⟩
theorem OwnR.past (h : OwnR w base A1 A2 c1 c2 s) {g : Nat} {t : TypeId} {cs : Array Value} (ha : At w g t cs) (ht : t ≠ 3) (hg : w.grownBy w' (some g)) : OwnR w' base A1 A2 c1 c2 s :=
  ⟨row_past h.1.out ha ht hg, row_past h.2.1.out ha ht hg, h.2.2⟩
end
theorem sm_bound : ∀ {l : List Int} (_ : inR (-1000000) 1000000 l), -(1000000 * (l.length : Int)) ≤ sm l ∧ sm l ≤ 1000000 * (l.length : Int)
  | [], _ => by simp [sm]
  | x :: l, h => by
    have h1 := h x (by simp)
    have h2 := sm_bound (l := l) fun y hy => h y (by simp [hy])
    simp only [sm, List.length_cons]
    omega
theorem inR_wide {lo hi : Int} {l : List Int} (h : inR lo hi l) (h1 : -1000000 ≤ lo) (h2 : hi ≤ 1000000) : inR (-1000000) 1000000 l := fun x hx => by have := h x hx; omega
set_option maxHeartbeats 1000000 in
theorem sumOf_any (A : Option Addr) (c : Nat) (l : List Int) (w : World) {B : Nat} (h : Sees w B A (ints l)) (hn : l.length ≤ 100000) (hx : inR (-1000000) 1000000 l) :
    Calls Try.prog 25 #[.slice A l.length c] w fun e w' => e = .returned (.int .i64 (sm l)) ∧ w = w' := by
  have HN := hid hn; clear hn
  have HX := hid hx; clear hx
  go_enter Try.func25, Try.ntmps25
  go_wp2
  go_loop [3, 8] (fun s i => ∃ k : Nat, k ≤ l.length ∧ i = .int .i64 k ∧ s = .int .i64 (sm (l.take k))) (fun _ i => l.length - (intOf i).toNat)
  case atStart => exact ⟨0, Nat.zero_le _, rfl, rfl⟩
  case round =>
    obtain ⟨k, hk, rfl, rfl⟩ := hrel
    have hn := HN.out
    by_cases hlt : k < l.length
    · have hi' : (k : Int) < (l.length : Int) := by omega
      obtain ⟨b, o, rfl, _, hc⟩ := h.int hlt
      have hs := sm_succ hlt
      have hb := sm_bound (inR_take HX.out (k + 1))
      rw [List.length_take, Nat.min_eq_left (by omega)] at hb
      have hw : IntKind.i64.wrap (sm (l.take k) + l[k]) = sm (l.take k) + l[k] := by rw [IntKind.wrap_i64]; omega
      have HS := hid hs
      clear hs hb
      go_wp2
      go_round
      case rel => exact ⟨k + 1, by omega, by go_num, by rw [HS.out]⟩
      case measure => simp [intOf]; omega
    · have hi' : ¬ (k : Int) < (l.length : Int) := by omega
      rw [take_whole hlt]
      go_wp2
      go_ret
      exact ⟨rfl, rfl⟩

theorem sumOf_q (A : Option Addr) (c : Nat) (l : List Int) (w : World) (m : Nat) {B : Nat} (h : Sees w B A (ints l)) (hn : l.length ≤ 100000) (hx : inR (-1000000) 1000000 l) :
    Calls Try.prog 25 #[.slice A l.length c] (w.drewN m) fun e w' => e = .returned (.int .i64 (sm l)) ∧ ∃ k, w' = w.drewN k :=
  Calls.quiet_of_same ((sumOf_any A c l _ (h.drewN m) hn hx).mono fun _ _ ⟨he, hw⟩ => ⟨he, hw.symm⟩)

end Go.Proofs.Ytmpiigjkmodekaa

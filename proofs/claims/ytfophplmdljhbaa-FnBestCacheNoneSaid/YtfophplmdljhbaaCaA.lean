/-
  Caches of statements in memory; what the small functions on names answer. Condition: the list lies in memory and is at most 2^22 long.
-/
import Derived.Test.YtfophplmdljhbaaBase
import Derived.Test.YtfophplmdljhbaaWithin
import Derived.Test.YtfophplmdljhbaaCopyN
import Derived.Test.YtfophplmdljhbaaOwnX
import Derived.Test.YtfophplmdljhbaaCacMath
import Derived.Handy
namespace Go.Proofs.Ytfophplmdljhbaa
open Go.RowKit Cac Lea

/-- The names of a cache, in memory below block B. -/
def SeesN (w : World) (B : Nat) (A1 : Option Addr) (s : Cch) : Prop := Sees w B A1 (ints s.n)
abbrev ccs (s : Cch) (A1 : Option Addr) (c1 : Nat) : Array Value := #[.int .i64 s.r, .slice A1 s.n.length c1]
section
variable {w w' : World} {B B' : Nat} {A1 : Option Addr} {s : Cch}
theorem SeesN.names (h : SeesN w B A1 s) : Sees w B A1 (ints s.n) := h
theorem SeesN.of (h : Sees w B A1 (ints s.n)) : SeesN w B A1 s := h
theorem SeesN.below (h : SeesN w B A1 s) (hb : Below B w w') : SeesN w' B A1 s := Sees.below h hb
theorem SeesN.more (h : SeesN w B A1 s) (hB : B ≤ B') : SeesN w B' A1 s := Sees.more h hB
theorem SeesN.on (h : SeesN w w.heap.size A1 s) (hb : Below w.heap.size w w') : SeesN w' w'.heap.size A1 s := (h.below hb).more hb.size
theorem SeesN.alloc (h : SeesN w w.heap.size A1 s) (o : Obj) : SeesN (w.alloc o) (w.alloc o).heap.size A1 s := h.on ((Below.refl _ _).alloc (Nat.le_refl _) o)
theorem SeesN.drew (h : SeesN w w.heap.size A1 s) : SeesN w.drew w.drew.heap.size A1 s := h.on (Below.refl _ _).drew
theorem SeesN.drewN (h : SeesN w w.heap.size A1 s) (n : Nat) : SeesN (w.drewN n) (w.drewN n).heap.size A1 s := h.on (below_drewN (Below.refl _ _) n)
end
theorem Sees.on4 {w w' : World} {A : Option Addr} {xs : List Value} (h : Sees w w.heap.size A xs) (hb : Below w.heap.size w w') : Sees w' w'.heap.size A xs := (h.below hb).more hb.size
theorem At.two {w : World} {g : Nat} {t : TypeId} {a b : Value} (h : At w g t #[a, b]) : w.cell? ⟨g, 0, none⟩ = some a ∧ w.cell? ⟨g, 1, none⟩ = some b ∧ g < w.heap.size ∧ ∀ i, w.frozen? ⟨g, i, none⟩ = false :=
  ⟨h.cell 0, h.cell 1, h.lt, h.frozen⟩
/-- The two cells of a block are written. -/
theorem two_put {w : World} {g : Nat} {T : TypeId} {cs : Array Value} (u0 u1 : Value) (h : At w g T cs) (hc : cs.size = 2) :
    At ((w.setCell ⟨g, 0, none⟩ u0).setCell ⟨g, 1, none⟩ u1) g T #[u0, u1] ∧
    w.grownBy ((w.setCell ⟨g, 0, none⟩ u0).setCell ⟨g, 1, none⟩ u1) (some g) := by
  refine ⟨?_, grown_trans (grown_set _ _ _ _) (grown_set _ _ _ _)⟩
  have := (h.set 0 u0).set 1 u1
  obtain ⟨l⟩ := cs
  match l, hc with
  | [a, b], _ => simpa using this
/-- The names of a cache, in a list that the call itself made. -/
def OwnN (w : World) (base : Nat) (A1 : Option Addr) (c1 : Nat) (s : Cch) : Prop := Own w base (.slice A1 s.n.length c1) s.n
section
variable {w w' : World} {base base' : Nat} {A1 : Option Addr} {c1 : Nat} {s : Cch}
theorem OwnN.own (h : OwnN w base A1 c1 s) : Own w base (.slice A1 s.n.length c1) s.n := h
theorem OwnN.below (h : OwnN w base A1 c1 s) (hb : Below w.heap.size w w') : OwnN w' base A1 c1 s := Own.below h hb
theorem OwnN.mono (h : OwnN w base A1 c1 s) (hb : base' ≤ base) : OwnN w base' A1 c1 s := Own.mono h hb
theorem OwnN.alloc (h : OwnN w base A1 c1 s) (o : Obj) : OwnN (w.alloc o) base A1 c1 s := h.below ((Below.refl _ _).alloc (Nat.le_refl _) o)
theorem OwnN.drew (h : OwnN w base A1 c1 s) : OwnN w.drew base A1 c1 s := h.below (Below.refl _ _).drew
theorem OwnN.drewN (h : OwnN w base A1 c1 s) (n : Nat) : OwnN (w.drewN n) base A1 c1 s := h.below (below_drewN (Below.refl _ _) n)
theorem OwnN.sees (h : OwnN w base A1 c1 s) : SeesN w w.heap.size A1 s := Sees.of_own h.own.out
theorem OwnN.zero (w : World) (base : Nat) : OwnN w base none 0 zeroC := Own.none_ _ _
theorem OwnN.past (h : OwnN w base A1 c1 s) {g : Nat} {t : TypeId} {cs : Array Value} (ha : At w g t cs) (ht : t ≠ 3) (hg : w.grownBy w' (some g)) : OwnN w' base A1 c1 s := row_past h.own.out ha ht hg
theorem OwnN.cap (h : OwnN w base A1 c1 s) : s.n.length ≤ c1 := by
  obtain ⟨_, _, e, q, _⟩ := own_form h.own.out
  injection e with _ _ e; omega
end
/-- A cache that a call made, and a truth value. -/
def CacAns (s : Cch) (b : Bool) (w : World) (e : Ending) (w' : World) : Prop :=
  ∃ A1 c1, e = .returned (.tuple #[.agg #[.int .i64 s.r, .slice A1 s.n.length c1], .bool b]) ∧ OwnN w' w.heap.size A1 c1 s ∧ Below w.heap.size w w'
theorem place_in {l : List Int} {x : Int} : (Line.place l x != -1) = mem l x := by
  by_cases h : x ∈ l
  · have := Line.place_lt h
    rw [mem_iff.2 h]; simp; omega
  · rw [Line.place_no h, mem_no.2 h]; rfl
theorem mem_memB (l : List Int) (x : Int) : memB l x = mem l x := rfl
theorem inN_allB {l : List Int} : allB l 0 9 = true ↔ inN l := allB_iff
theorem inN_no {l : List Int} : allB l 0 9 = false ↔ ¬ inN l := by rw [← inN_allB]; simp
set_option maxHeartbeats 400000 in
theorem validNames_any (A : Option Addr) (c : Nat) (l : List Int) (w : World) {B : Nat} (h : Sees w B A (ints l)) (hn : l.length ≤ 4194304) :
    Calls Try.prog 22 #[.slice A l.length c] w fun e w' => e = .returned (.bool (namesB l)) ∧ w = w' := by
  by_cases h1 : (l.length : Int) ≤ 16
  · rcases hw : allB l 0 9 with _ | _
    · have E := hid (show namesB l = false from Bool.eq_false_iff.2 fun e => inN_no.1 hw (namesB_iff.1 e).2)
      have HW := hid hw
      have HN := hid hn
      clear hw hn
      go_enter Try.func22, Try.ntmps22
      go_wp2_with fail
      with_reducible refine (allWithin_any A c l 0 9 _ h HN.out).mono ?_
      rintro e w' ⟨he, rfl⟩
      rw [HW.out] at he
      subst he
      go_wp2
      go_ret
      exact ⟨ret_bool E.out.symm, rfl⟩
    · have E := hid (show namesB l = true from namesB_iff.2 ⟨by omega, inN_allB.1 hw⟩)
      have HW := hid hw
      have HN := hid hn
      clear hw hn
      go_enter Try.func22, Try.ntmps22
      go_wp2_with fail
      with_reducible refine (allWithin_any A c l 0 9 _ h HN.out).mono ?_
      rintro e w' ⟨he, rfl⟩
      rw [HW.out] at he
      subst he
      go_wp2
      go_ret
      exact ⟨ret_bool E.out.symm, rfl⟩
  · have E := hid (show namesB l = false from Bool.eq_false_iff.2 fun e => by have := (namesB_iff.1 e).1; omega)
    go_enter Try.func22, Try.ntmps22
    go_wp2
    go_ret
    exact ⟨ret_bool E.out.symm, rfl⟩

set_option maxHeartbeats 1000000 in
theorem leave_any (A : Option Addr) (c : Nat) (xs : List Int) (x : Int) (w : World) (h : Sees w w.heap.size A (ints xs)) (hn : xs.length ≤ 4194304) :
    Calls Try.prog 40 #[.slice A xs.length c, .int .i64 x] w fun e w' => ∃ v, e = .returned v ∧ Own w' w.heap.size v (wo xs x) ∧ Below w.heap.size w w' := by
  obtain ⟨i0, hi0, hz0, hz1, hz2⟩ := info_parts intInfo
  have HN := hid hn; clear hn
  have HS := hid (fun (k : Nat) (hk : k < xs.length) => (show wo (xs.take (k + 1)) x = wo (xs.take k) x ++ if (xs[k] == x) = true then [] else [xs[k]] by unfold wo; rw [filter_take_succ hk]; cases (xs[k] == x) <;> rfl))
  go_enter Try.func40, Try.ntmps40
  go_wp2
  go_loopw [5, 6] (fun v i wr => ∃ k : Nat, k ≤ xs.length ∧ i = .int .i64 k ∧ Own wr w.heap.size v (wo (xs.take k) x) ∧ Below w.heap.size w wr) (fun _ i _ => xs.length - (intOf i).toNat)
  case atStart => exact ⟨0, Nat.zero_le _, rfl, by simpa [wo] using Own.made w w.heap.size (Nat.le_refl _), (Below.refl _ _).alloc (Nat.le_refl _) _⟩
  case round =>
    obtain ⟨k, hk, rfl, ho, hb⟩ := hrel
    have hn := HN.out
    by_cases hlt : k < xs.length
    · obtain ⟨b, o, rfl, _, hc⟩ := (h.below hb).int hlt
      have hi : (k : Int) < (xs.length : Int) := by omega
      have HK := hid (HS.out k hlt)
      have hlen : (wo (xs.take k) x).length ≤ 4194304 := Nat.le_trans (wo_len _ _) (by simp; omega)
      obtain ⟨L, hL⟩ : ∃ L, L = wo (xs.take k) x := ⟨_, rfl⟩
      obtain ⟨y, hy⟩ : ∃ y, y = xs[k] := ⟨_, rfl⟩
      rw [← hL, ← hy] at HK
      rw [← hL] at ho hlen
      rw [← hy] at hc
      clear hL hy
      rcases hx : (y == x) with _ | _
      · have hx' : (y != x) = true := by simpa using hx
        have HX := hid hx
        clear hx
        go_wp2_with (at_builtin; refine wpList_append_own _ rfl _ _ 23 rfl w.heap.size 3 i0 (.int .i64 0) 1 8 Try.underlying23 hi0 hz0 hz1 hz2 rfl (by decide) _ _ _ rfl (ho.out.alloc _) ⟨wr.heap.size, 0, none⟩ 1 1 [.int .i64 y] rfl rfl (cell_one_new _ _ _) ?c2 ?c3 ?c4 ?c5 ?_)
        case c2 => simp [Value.oneCell']
        case c3 => unfold maxLen; omega
        case c4 => omega
        case c5 => have := hb.size; simp; omega
        case _ =>
          intro v1 w1 h1 hg1 _
          obtain ⟨ho1, hb1⟩ := ho.snoc hb (Nat.le_refl _) h1 hg1
          clear h1 hg1
          go_wp2
          go_roundw
          case rel =>
            refine ⟨k + 1, by omega, by go_num, ?_, hb1⟩
            rw [HK.out, HX.out]; exact ho1
          case measure => simp [intOf]; omega
      · have hx' : (y != x) = false := by simpa using hx
        have HX := hid hx
        clear hx
        go_wp2
        go_roundw
        case rel =>
          refine ⟨k + 1, by omega, by go_num, ?_, hb⟩
          rw [HK.out, HX.out, if_pos rfl, List.append_nil]; exact ho
        case measure => simp [intOf]; omega
    · have hi : ¬ (k : Int) < (xs.length : Int) := by omega
      rw [take_whole hlt] at ho
      go_wp2
      go_ret
      exact ⟨_, rfl, ho, hb⟩

theorem sees_add {w : World} {B : Nat} {A : Option Addr} {l : List Int} (h : Sees w B A (ints l)) (k : Nat) : Sees w B (Option.map (fun x => x.add k) A) (ints (l.drop k)) := by
  have e : ints (l.drop k) = (ints l).drop k := by simp [ints]
  rw [e]
  intro hx
  obtain ⟨b, o, e1, _⟩ := h (by intro e2; rw [e2] at hx; simp at hx)
  have h2 := h.drop (k := k) e1
  have hadd : (⟨b, o, none⟩ : Addr).add k = ⟨b, o + k, none⟩ := by unfold Addr.add; split <;> simp_all
  have h3 : Option.map (fun x => x.add k) A = some ⟨b, o + k, none⟩ := by rw [e1]; simp only [Option.map_some, hadd]
  rw [h3]
  exact h2 hx
theorem scopyInts_len {A : Option Addr} {n c : Nat} {l : List Int} {w : World} (hl : l.length = n) (h : Sees w w.heap.size A (ints l)) (hn : l.length ≤ 4194304) :
    Calls Try.prog 38 #[.slice A n c] w fun e w' => ∃ v, e = .returned v ∧ Own w' w.heap.size v l ∧ Below w.heap.size w w' := by
  subst hl; exact copyInts_any A c l w h hn
end Go.Proofs.Ytfophplmdljhbaa

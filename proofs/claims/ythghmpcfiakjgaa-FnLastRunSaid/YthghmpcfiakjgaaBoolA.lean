/-
  Lists of truth values: in memory; of the call's own; what the exact laws' helpers answer on them. Condition: the list lies in memory and is at most 2^22 long.
-/
import Derived.Test.YthghmpcfiakjgaaOwnB
import Derived.Test.YthghmpcfiakjgaaBase
import Derived.OwnWalk
import Derived.Test.YthghmpcfiakjgaaStrip
namespace Go.Proofs.Ythghmpcfiakjgaa
open Go.RowKit

def boos (xs : List Bool) : List Value := xs.map Value.bool
theorem boos_len (xs : List Bool) : (boos xs).length = xs.length := by simp [boos]
theorem boos_at {xs : List Bool} {k : Nat} (hk : k < xs.length) : (boos xs)[k]? = some (.bool xs[k]) := by simp [boos, hk]
theorem boos_app (xs ys : List Bool) : boos (xs ++ ys) = boos xs ++ boos ys := by simp [boos]
theorem boos_one (xs : List Bool) : ∀ u ∈ boos xs, u.oneCell' = true := by
  intro u hu
  obtain ⟨x, _, rfl⟩ := List.mem_map.1 hu
  rfl
/-- A truth value of a row. -/
theorem Sees.boo {w : World} {B : Nat} {A : Option Addr} {l : List Bool} (h : Sees w B A (boos l)) {k : Nat} (hk : k < l.length) : ∃ b o, A = some ⟨b, o, none⟩ ∧ b < B ∧ w.cell? ⟨b, o + k, none⟩ = some (.bool l[k]) := by
  obtain ⟨b, o, e, hb, hc⟩ := h (by intro e; have := boos_len l; rw [e] at this; simp at this; omega)
  exact ⟨b, o, e, hb, hc k _ (boos_at hk)⟩
theorem Sees.btake {w : World} {B : Nat} {A : Option Addr} {l : List Bool} (h : Sees w B A (boos l)) (k : Nat) : Sees w B A (boos (l.take k)) := by
  have e : boos (l.take k) = (boos l).take k := by simp [boos]
  rw [e]; exact h.take k
theorem booInfo : (Try.prog.info? 4).map (fun i => (i.zero, i.size, i.bytes)) = some (some (.bool false), 1, 1) := by kernel_rfl
/-- The value v is a slice of the truth values ys, which the call itself made: all of it lies from block base on. -/
def OwnT (w : World) (base : Nat) (v : Value) (ys : List Bool) : Prop := w.ownsRow base 4 1 v ys.length (boos ys)
section
variable {w w' : World} {base base' : Nat} {v : Value} {ys : List Bool}
theorem OwnT.out (h : OwnT w base v ys) : w.ownsRow base 4 1 v ys.length (boos ys) := h
theorem OwnT.none_ (w : World) (base : Nat) : OwnT w base (.slice none 0 0) [] := World.ownsRow_nil w base _ 1
theorem OwnT.made (w : World) (base : Nat) (hb : base ≤ w.heap.size) : OwnT (w.alloc (.cells #[] 4)) base (.slice (some ⟨w.heap.size, 0, none⟩) 0 0) [] :=
  World.ownsRow_made w #[] 0 hb (Nat.zero_le _) rfl
theorem OwnT.form (h : OwnT w base v ys) : ∃ A c, v = .slice A ys.length c ∧ ys.length ≤ c ∧ c ≤ maxLen ∧ Sees w w.heap.size A (boos ys) := by
  obtain ⟨A, c, rfl, h1, h2⟩ := own_form h.out
  exact ⟨A, c, rfl, h1, h2, Sees.of_own h.out⟩
theorem OwnT.sees {A : Option Addr} {n c : Nat} (h : OwnT w base (.slice A n c) ys) : Sees w w.heap.size A (boos ys) := by
  obtain ⟨A', c', e, _, _, hs⟩ := h.form
  injection e with e1 e2 e3
  rw [e1]; exact hs
theorem OwnT.below (h : OwnT w base v ys) (hb : Below w.heap.size w w') : OwnT w' base v ys := own_below h hb
theorem OwnT.mono (h : OwnT w base v ys) (hb : base' ≤ base) : OwnT w base' v ys := own_mono h hb
theorem OwnT.lt (h : OwnT w base v ys) : ∀ k, v.ownBlock = some k → base ≤ k ∧ k < w.heap.size := fun k hk => h.out.lt k hk
theorem OwnT.drew (h : OwnT w base v ys) : OwnT w.drew base v ys := h.below ((Below.refl _ _).drew)
theorem OwnT.kept (h : OwnT w base v ys) {row : Option Nat} (hg : w.grownBy w' row) (hr : ∀ k, v.ownBlock = some k → row ≠ some k) : OwnT w' base v ys := row_kept h hg hr
theorem OwnT.snoc {W wr w1 : World} {v v' : Value} {x : Bool} {o : Obj} (ho : OwnT wr base v ys) (hb : Below base W wr) (hs : base ≤ W.heap.size)
    (h' : w1.ownsRow base 4 1 v' (ys.length + 1) (boos ys ++ [.bool x])) (hg : (wr.alloc o).grownBy w1 v.ownBlock) : OwnT w1 base v' (ys ++ [x]) ∧ Below base W w1 := by
  refine ⟨?_, ?_⟩
  · unfold OwnT
    rw [boos_app, List.length_append]
    exact h'
  · have hz := hb.size
    exact (hb.alloc (by omega) o).grown hg (by simp; omega) fun k hk => (ho.out.lt k hk).1
end
theorem boos_set (xs : List Bool) (k : Nat) (x : Bool) : boos (xs.set k x) = (boos xs).set k (.bool x) := by simp [boos, List.map_set]
/-- A store into a list of the call's own. -/
theorem boo_put {w : World} {base g n c : Nat} {ys : List Bool} (h : w.ownsRow base 4 1 (.slice (some ⟨g, 0, none⟩) n c) n (boos ys)) (k : Nat) (x : Bool) :
    (w.setCell ⟨g, k, none⟩ (.bool x)).ownsRow base 4 1 (.slice (some ⟨g, 0, none⟩) n c) n (boos (ys.set k x)) := by
  rw [boos_set]; exact row_put h _ _
theorem boo_at {w : World} {base g n c : Nat} {ys : List Bool} (h : w.ownsRow base 4 1 (.slice (some ⟨g, 0, none⟩) n c) n (boos ys)) {k : Nat} (hk : k < ys.length) : w.cell? ⟨g, k, none⟩ = some (.bool ys[k]) := by
  obtain ⟨b, o, e, _, hc⟩ := (Sees.of_own h).boo hk
  injection e with e
  injection e with e1 e2
  subst e1 e2
  simpa using hc
theorem made_boos (n : Nat) : (madeCells #[Value.bool false] n).toList = boos (List.replicate n false) := by
  simp [madeCells, boos, Nat.mod_one, List.map_const']
theorem boo_fill {xs : List Bool} {k : Nat} (hlt : k < xs.length) : (xs.take k ++ List.replicate (xs.length - k) false).set k xs[k] = xs.take (k + 1) ++ List.replicate (xs.length - (k + 1)) false := by
  rw [List.set_append_right _ _ (by simp; omega)]
  have e1 : xs.length - k = (xs.length - (k + 1)) + 1 := by omega
  rw [e1, List.replicate_succ]
  simp only [List.length_take, Nat.min_eq_left (Nat.le_of_lt hlt), Nat.sub_self, List.set_cons_zero]
  rw [List.take_succ_eq_append_getElem hlt, List.append_assoc]
  rfl
set_option maxHeartbeats 1000000 in
theorem toBoolS_any (A : Option Addr) (c : Nat) (xs : List Bool) (w : World) (h : Sees w w.heap.size A (boos xs)) (hn : xs.length ≤ 4194304) :
    Calls Try.prog 9 #[.slice A xs.length c] w fun e w' => ∃ v, e = .returned v ∧ OwnT w' w.heap.size v xs ∧ Below w.heap.size w w' := by
  obtain ⟨i0, hi0, hz0, hz1, hz2⟩ := info_parts booInfo
  have HN := hid hn; clear hn
  go_enter Try.func9, Try.ntmps9
  go_wp2_with (refine wpList_make_full _ rfl _ _ 22 rfl w.heap.size 4 i0 (.bool false) 1 Try.underlying22 hi0 hz0 hz1 .i64 .i64 xs.length xs.length xs.length rfl rfl rfl rfl (by rw [hz2]; have := HN.out; omega) (by have := HN.out; unfold maxLen; omega) (Nat.le_refl _) ?_)
  case _ =>
    intro w1 h1 hg1
    have ho1 : w1.ownsRow w.heap.size 4 1 (.slice (some ⟨w.heap.size, 0, none⟩) xs.length xs.length) xs.length (boos (xs.take 0 ++ List.replicate (xs.length - 0) false)) := by
      simp only [List.take_zero, List.nil_append, Nat.sub_zero]
      rw [← made_boos]; simpa using h1
    have hb1 : Below w.heap.size w w1 := (Below.refl _ _).grown hg1 (Nat.le_refl _) (fun k hk => by cases hk)
    clear h1 hg1
    go_wp2
    go_loopw [4] (fun i wr => ∃ k : Nat, k ≤ xs.length ∧ i = .int .i64 k ∧ wr.ownsRow w.heap.size 4 1 (.slice (some ⟨w.heap.size, 0, none⟩) xs.length xs.length) xs.length (boos (xs.take k ++ List.replicate (xs.length - k) false)) ∧ Below w.heap.size w wr) (fun i _ => xs.length - (intOf i).toNat)
    case atStart => exact ⟨0, Nat.zero_le _, rfl, ho1, hb1⟩
    case round =>
      clear ho1
      obtain ⟨k, hk, rfl, ho, hb⟩ := hrel
      have hn := HN.out
      by_cases hlt : k < xs.length
      · obtain ⟨b, o, rfl, hbl, hc⟩ := (h.below hb).boo hlt
        have hi : (k : Int) < (xs.length : Int) := by omega
        have hlen : k < (xs.take k ++ List.replicate (xs.length - k) false).length := by simp; omega
        have HS := hid (boo_fill hlt)
        obtain ⟨x, hx⟩ : ∃ x, x = xs[k] := ⟨_, rfl⟩
        rw [← hx] at hc HS
        clear hx
        obtain ⟨hgl, hgw⟩ := row_base ho
        have u0 := boo_at ho hlen
        have hfr := row_thaw ho
        have hput := boo_put ho k x
        rw [HS.out] at hput
        have HP := hid hput
        clear hput
        go_wp2
        go_roundw
        case rel => exact ⟨k + 1, by omega, by go_num, HP.out, hb.setCell (Nat.le_refl _) _⟩
        case measure => simp [intOf]; omega
      · have hi : ¬ (k : Int) < (xs.length : Int) := by omega
        go_wp2
        go_ret
        refine ⟨_, rfl, ?_, hb⟩
        have hk0 : xs.length - k = 0 := by omega
        rw [hk0, take_whole hlt] at ho
        simpa [OwnT] using ho

set_option maxHeartbeats 1000000 in
theorem eqBoolS_same (A B : Option Addr) (c d : Nat) (xs : List Bool) (w : World) (h : Sees w w.heap.size A (boos xs)) (h' : Sees w w.heap.size B (boos xs)) (hn : xs.length ≤ 4194304) :
    Calls Try.prog 11 #[.slice A xs.length c, .slice B xs.length d] w fun e w' => e = .returned (.bool true) ∧ Below w.heap.size w w' := by
  have HN := hid hn; clear hn
  go_enter Try.func11, Try.ntmps11
  go_wp2
  go_loopw [5] (fun i wr => ∃ k : Nat, k ≤ xs.length ∧ i = .int .i64 k ∧ Below w.heap.size w wr) (fun i _ => xs.length - (intOf i).toNat)
  case atStart => exact ⟨0, Nat.zero_le _, rfl, Below.refl _ _⟩
  case round =>
    obtain ⟨k, hk, rfl, hb⟩ := hrel
    have hn := HN.out
    by_cases hlt : k < xs.length
    · have hi : (k : Int) < (xs.length : Int) := by omega
      obtain ⟨b, o, rfl, hbl, hc⟩ := (h.below hb).boo hlt
      obtain ⟨b', o', rfl, hbl', hc'⟩ := (h'.below hb).boo hlt
      obtain ⟨x, hx⟩ : ∃ x, x = xs[k] := ⟨_, rfl⟩
      rw [← hx] at hc hc'
      clear hx
      have hxx : (x != x) = false := by simp
      go_wp2
      go_quiet (fail)
      go_wp2
      go_round
      case rel => exact ⟨k + 1, by omega, by go_num, below_drewN hb _⟩
      case measure => simp [intOf]; omega
    · have hi : ¬ (k : Int) < (xs.length : Int) := by omega
      go_wp2
      go_ret
      exact ⟨rfl, hb⟩

set_option maxHeartbeats 1000000 in
theorem markBoolS_g (k0 base : Nat) (A : Option Addr) (c : Nat) (ys : List Bool) (w : World) (h : OwnT w base (.slice A ys.length c) ys) (hn : ys.length ≤ 4194304) (hk0 : k0 ≤ 1073741824) :
    Calls Try.prog 17 #[.slice A ys.length c, .int .i64 k0] w fun e w' => e = .returned (.int .i64 ((k0 : Int) + ys.length)) ∧ w.grownBy w' (Value.slice A ys.length c).ownBlock := by
  have HN := hid hn; clear hn
  have HK := hid hk0; clear hk0
  rcases hv : A with _ | ⟨g, o, spot⟩
  · subst hv
    have hl : ys.length = 0 := by
      rcases h.2 with ⟨_, e⟩ | ⟨_, _, _, e, _⟩
      · exact e
      · cases e
    have hys : ys = [] := List.eq_nil_of_length_eq_zero hl
    subst hys
    go_enter Try.func17, Try.ntmps17
    go_wp2
    go_loopw [1, 5] (fun m i wr => m = .int .i64 k0 ∧ i = .int .i64 0 ∧ wr = w) (fun _ _ _ => 0)
    case atStart => exact ⟨rfl, rfl, rfl⟩
    case round =>
      obtain ⟨rfl, rfl, rfl⟩ := hrel
      go_wp2
      go_ret
      exact ⟨by simp, grown_refl _ _⟩
  · have ho0 : o = 0 ∧ spot = none := by
      rcases h.2 with ⟨e, _⟩ | ⟨g', cap, cur, e, _⟩
      · rw [hv] at e; cases e
      · rw [hv] at e
        injection e with e1 e2 e3
        injection e1 with e1
        injection e1 with e1 e4 e5
        exact ⟨e4, e5⟩
    obtain ⟨rfl, rfl⟩ := ho0
    subst hv
    go_enter Try.func17, Try.ntmps17
    go_wp2
    go_loopw [1, 5] (fun m i wr => ∃ (k : Nat) (zs : List Bool), k ≤ ys.length ∧ m = .int .i64 ((k0 : Int) + k) ∧ i = .int .i64 k ∧ zs.length = ys.length ∧ wr.ownsRow base 4 1 (.slice (some ⟨g, 0, none⟩) ys.length c) ys.length (boos zs) ∧ w.grownBy wr (some g)) (fun _ i _ => ys.length - (intOf i).toNat)
    case atStart => exact ⟨0, ys, Nat.zero_le _, by simp, rfl, rfl, h, grown_refl _ _⟩
    case round =>
      obtain ⟨k, zs, hk, rfl, rfl, hzl, ho, hg⟩ := hrel
      have hn := HN.out
      have hk0 := HK.out
      by_cases hlt : k < ys.length
      · have hi : (k : Int) < (ys.length : Int) := by omega
        have hlen : k < zs.length := by omega
        have u0 := boo_at ho hlen
        have hfr := row_thaw ho
        have hput := fun x => boo_put ho k x
        have HP := hid hput
        clear hput
        have hw1 : IntKind.i64.wrap ((k0 : Int) + (k : Int) + 1) = (k0 : Int) + ((k + 1 : Nat) : Int) := by rw [IntKind.wrap_i64]; omega
        go_wp2
        go_roundw
        case rel => exact ⟨k + 1, _, by omega, by go_num, by go_num, by rw [List.length_set]; exact hzl, HP.out _, grown_trans hg (grown_set _ _ _ _)⟩
        case measure => simp [intOf]; omega
      · have hi : ¬ (k : Int) < (ys.length : Int) := by omega
        have hke : (k : Int) = (ys.length : Int) := by omega
        go_wp2
        go_ret
        exact ⟨by simp, hg⟩

end Go.Proofs.Ythghmpcfiakjgaa

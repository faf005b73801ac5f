/-
  What the program's ApplySettings answers, and the functions that it calls. Condition: the lists lie in memory.
-/
import Derived.Test.YtfnjphhanehoeaaStA
import Derived.Test.YtfnjphhanehoeaaSetMathB
import Derived.Test.YtfnjphhanehoeaaApp
import Derived.Test.YtfnjphhanehoeaaOwnX
namespace Go.Proofs.Ytfnjphhanehoeaa
open Go.RowKit Stt

abbrev OwnG := OwnS (α := Stg) 41 2 stcl
theorem stgInfo : (Try.prog.info? 41).map (fun i => (i.zero, i.size, i.bytes)) = some (some (.agg #[.int .i64 0, .int .i64 0]), 2, 16) := by kernel_rfl
def low (l : List Stg) (c : Stg) : List Stg := l.filter fun x => decide (x.n < c.n)
def high (l : List Stg) (c : Stg) : List Stg := l.filter fun x => decide (x.n > c.n)
def midl (c : Stg) : List Stg := if c.v = -1 then [] else [c]
theorem put_parts (l : List Stg) (c : Stg) : put l c = (low l c ++ midl c) ++ high l c := by unfold put low high midl; rw [List.append_assoc]
theorem low_len (l : List Stg) (c : Stg) : (low l c).length ≤ l.length := List.length_filter_le _ _
theorem high_len (l : List Stg) (c : Stg) : (high l c).length ≤ l.length := List.length_filter_le _ _
theorem midl_len (c : Stg) : (midl c).length ≤ 1 := by unfold midl; split <;> simp
theorem low_yes {l : List Stg} {c : Stg} {k : Nat} (hk : k < l.length) (h : l[k].n < c.n) : low (l.take (k + 1)) c = low (l.take k) c ++ [l[k]] := by
  unfold low; rw [filter_take_succ hk, if_pos (by simpa using h)]
theorem low_no {l : List Stg} {c : Stg} {k : Nat} (hk : k < l.length) (h : ¬ l[k].n < c.n) : low (l.take (k + 1)) c = low (l.take k) c := by
  unfold low; rw [filter_take_succ hk, if_neg (by simpa using h), List.append_nil]
theorem high_yes {l : List Stg} {c : Stg} {k : Nat} (hk : k < l.length) (h : l[k].n > c.n) : high (l.take (k + 1)) c = high (l.take k) c ++ [l[k]] := by
  unfold high; rw [filter_take_succ hk, if_pos (by simpa using h)]
theorem high_no {l : List Stg} {c : Stg} {k : Nat} (hk : k < l.length) (h : ¬ l[k].n > c.n) : high (l.take (k + 1)) c = high (l.take k) c := by
  unfold high; rw [filter_take_succ hk, if_neg (by simpa using h), List.append_nil]
set_option maxHeartbeats 2000000 in
theorem settingAt_any (A : Option Addr) (c : Nat) (l : List Stg) (k : Nat) (w : World) {B : Nat} (h : Sees w B A (strip stcl l)) (hB : B ≤ w.heap.size) (_hn : l.length ≤ 4194304) (_hk : k ≤ 4194304) :
    Calls Try.prog 27 #[.slice A l.length c, .int .i64 k] w fun e w' => e = .returned (.agg #[.int .i64 (atS l k).n, .int .i64 (atS l k).v]) ∧ Below w.heap.size w w' := by
  have pr := At.new w 41 #[.int .i64 0, .int .i64 0]
  have hB0 := (Below.refl w.heap.size w).alloc (Nat.le_refl _) (.cells #[.int .i64 0, .int .i64 0] 41)
  have hs := h.alloc hB (.cells #[.int .i64 0, .int .i64 0] 41)
  obtain ⟨q0, q1⟩ := (show _ ∧ _ from ⟨pr.cell 0, pr.cell 1⟩)
  have ql := pr.lt
  have qf := pr.frozen
  by_cases hlt : k < l.length
  · have hi : (k : Int) < (l.length : Int) := by omega
    have hi0 : (0 : Int) ≤ (k : Int) := by omega
    have hnk : ¬ (k : Int) ≥ (l.length : Int) := by omega
    obtain ⟨b, o, rfl, hbl, e0, e1⟩ := hs.stg hlt
    have E := hid (show l[k] = atS l k from (dif_pos hlt).symm)
    obtain ⟨y, hy⟩ : ∃ y, y = l[k] := ⟨_, rfl⟩
    rw [← hy] at e0 e1 E
    clear hy
    have pt := At.new w 41 #[.int .i64 y.n, .int .i64 y.v]
    have hBz := (Below.refl w.heap.size w).alloc (Nat.le_refl _) (.cells #[.int .i64 y.n, .int .i64 y.v] 41)
    go_enter Try.func27, Try.ntmps27
    go_wp2
    refine bodyPost_ret (v := .agg #[.int .i64 y.n, .int .i64 y.v]) (by simp [results, Try.results27, go_sem, pt.cell]) rfl ?_
    exact ⟨by rw [E.out], hBz⟩
  · have hnk : (k : Int) ≥ (l.length : Int) := by omega
    have E := hid (show (⟨10, -1⟩ : Stg) = atS l k by unfold atS; rw [dif_neg hlt])
    have pt := At.new w 41 #[.int .i64 10, .int .i64 (-1)]
    have hBz := (Below.refl w.heap.size w).alloc (Nat.le_refl _) (.cells #[.int .i64 10, .int .i64 (-1)] 41)
    go_enter Try.func27, Try.ntmps27
    go_wp2
    refine bodyPost_ret (v := .agg #[.int .i64 10, .int .i64 (-1)]) (by simp [results, Try.results27, go_sem, pt.cell]) rfl ?_
    exact ⟨by rw [← E.out], hBz⟩

end Go.Proofs.Ytfnjphhanehoeaa

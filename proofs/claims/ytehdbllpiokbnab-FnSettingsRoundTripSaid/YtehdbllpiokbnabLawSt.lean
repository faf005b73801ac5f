/-
  Words for the walks of the drawn laws on settings: lists are compared; contracts at a length of another name. Condition: the lists lie in memory.
-/
import Derived.Test.YtehdbllpiokbnabStD
import Derived.Test.YtehdbllpiokbnabStG
import Derived.Test.YtehdbllpiokbnabSetLawMath
import Derived.BigQuiet

namespace Go.Proofs.Ytehdbllpiokbnab
open Go.RowKit Stt

theorem DLs.nT {w w' : World} {A : Option Addr} {c : Nat} {l : List Stg} (h : DTs w w' A c l) : l.length ≤ 4194304 := h.n4 (by decide)
theorem stcl_take {w : World} {B : Nat} {A : Option Addr} {l : List Stg} (h : Sees w B A (strip stcl l)) (k : Nat) : Sees w B A (strip stcl (l.take k)) := h.stake stcl_len k
theorem OwnS.drewT {α : Type} {t : TypeId} {s : Nat} {f : α → List Value} {w : World} {base : Nat} {v : Value} {l : List α} (h : OwnS t s f w base v l) (n : Nat) : OwnS t s f (w.drewN n) base v l := h.below (below_drewN (Below.refl _ _) n)
theorem iValidSettings_len {A : Option Addr} {n c : Nat} {l : List Stg} {w : World} (hl : l.length = n) (h : Sees w w.heap.size A (strip stcl l)) (hn : l.length ≤ 4194304) :
    Calls Try.prog 19 #[.slice A n c] w fun e w' => e = .returned (.bool (setsB l)) ∧ Below w.heap.size w w' := by
  subst hl; exact iValidSettings_any A c l w h hn
set_option maxHeartbeats 4000000 in
theorem equalSettings_any (A B : Option Addr) (c d : Nat) (l m : List Stg) (w : World) (h : Sees w w.heap.size A (strip stcl l)) (h' : Sees w w.heap.size B (strip stcl m)) (hn : l.length ≤ 4194304) :
    Calls Try.prog 21 #[.slice A l.length c, .slice B m.length d] w fun e w' => e = .returned (.bool (eqT l m)) ∧ Below w.heap.size w w' := by
  rcases hlm : ((l.length : Int) != (m.length : Int)) with _ | _
  rotate_left
  · have E := hid (eqT_no (l := l) (m := m) (fun e => by subst e; simp at hlm))
    go_enter Try.func21, Try.ntmps21
    go_wp2
    go_ret
    exact ⟨ret_bool E.out.symm, Below.refl _ _⟩
  have hlm' : l.length = m.length := by simp at hlm; omega
  have HN := hid hn
  have HM := hid hlm'
  clear hn hlm'
  go_enter Try.func21, Try.ntmps21
  go_wp2
  go_loopw [5] (fun i wr => ∃ k : Nat, k ≤ l.length ∧ i = .int .i64 k ∧ Hid (l.take k = m.take k) ∧ Below w.heap.size w wr) (fun i _ => l.length - (intOf i).toNat)
  case atStart => exact ⟨0, Nat.zero_le _, rfl, hid (by simp), Below.refl _ _⟩
  case round =>
    obtain ⟨k, hk, rfl, HK, hb⟩ := hrel
    have hn := HN.out
    by_cases hlt : k < l.length
    · have hkm : k < m.length := by have := HM.out; omega
      have hi : (k : Int) < (l.length : Int) := by omega
      have hi2 : (k : Int) < (m.length : Int) := by omega
      obtain ⟨b, o, rfl, hbl, e0, e1⟩ := (h.below hb).stg hlt
      obtain ⟨b', o', rfl, hbl', f0, f1⟩ := (h'.below hb).stg hkm
      have HS := hid (fun (hh : l[k] = m[k]) => (show l.take (k + 1) = m.take (k + 1) by rw [List.take_succ_eq_append_getElem hlt, List.take_succ_eq_append_getElem hkm, HK.out, hh]))
      have HNO := hid (fun (hh : l[k] ≠ m[k]) => (show eqT l m = false from eqT_no (fun e => hh (by subst e; rfl))))
      obtain ⟨x, hx⟩ : ∃ x, x = l[k] := ⟨_, rfl⟩
      obtain ⟨y, hy⟩ : ∃ y, y = m[k] := ⟨_, rfl⟩
      rw [← hx] at e0 e1
      rw [← hy] at f0 f1
      rw [← hx, ← hy] at HS
      rw [← hx, ← hy] at HNO
      clear hx hy hkm
      rcases h1 : (x.n == y.n) with _ | _
      · have HX := hid (HNO.out (fun e => by subst e; simp at h1))
        have hne : ¬ x.n = y.n := by simpa using h1
        go_wp2
        go_quiet (fail)
        go_wp2
        go_ret
        exact ⟨ret_bool HX.out.symm, below_drewN hb _⟩
      · have he : x.n = y.n := by simpa using h1
        rcases h2 : (x.v == y.v) with _ | _
        · have HX := hid (HNO.out (fun e => by subst e; simp at h2))
          have hne : ¬ x.v = y.v := by simpa using h2
          go_wp2
          go_quiet (fail)
          go_wp2
          go_ret
          exact ⟨ret_bool HX.out.symm, below_drewN hb _⟩
        · have he2 : x.v = y.v := by simpa using h2
          have HX := hid (HS.out (show (⟨x.n, x.v⟩ : Stg) = ⟨y.n, y.v⟩ by rw [he, he2]))
          go_wp2
          go_quiet (fail)
          go_wp2
          go_roundw
          case rel => exact ⟨k + 1, by omega, by go_num, HX, below_drewN hb _⟩
          case measure => simp [intOf]; omega
    · have hi : ¬ (k : Int) < (l.length : Int) := by omega
      have HX := hid (show eqT l m = true from eqT_iff.2 (by have := HK.out; rw [take_whole hlt, take_whole (by have := HM.out; omega)] at this; exact this))
      go_wp2
      go_ret
      exact ⟨ret_bool HX.out.symm, hb⟩

theorem equalSettings_same (A B : Option Addr) (c d : Nat) (l : List Stg) (w : World) (h : Sees w w.heap.size A (strip stcl l)) (h' : Sees w w.heap.size B (strip stcl l)) (hn : l.length ≤ 4194304) :
    Calls Try.prog 21 #[.slice A l.length c, .slice B l.length d] w fun e w' => e = .returned (.bool true) ∧ Below w.heap.size w w' :=
  (equalSettings_any A B c d l l w h h' hn).mono fun _ _ ⟨he, hb⟩ => ⟨by rw [he, eqT_self], hb⟩
end Go.Proofs.Ytehdbllpiokbnab

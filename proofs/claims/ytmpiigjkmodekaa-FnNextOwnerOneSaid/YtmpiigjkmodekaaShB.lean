/-
  What the program's ValidShare answers. Condition: the lists lie in memory.
-/
import Derived.Test.YtmpiigjkmodekaaShA
import Derived.Test.YtmpiigjkmodekaaWithin
import Derived.Handy
namespace Go.Proofs.Ytmpiigjkmodekaa
open Go.RowKit Sha

theorem share_no {s : Shr} (h : ¬ ((0 ≤ s.t ∧ s.t ≤ 20) ∧ s.m.length = 5 ∧ inR 0 20 s.m ∧ s.h.length = 5 ∧ Und s.m s.h ∧ sm s.h ≤ s.t)) : shareB s = false := Bool.eq_false_iff.2 fun e => h (shareB_iff.1 e)
/-- The first k have not more than most. -/
def UndK (m h : List Int) (k : Nat) : Prop := ∀ i, i < k → 0 ≤ nth h (i : Nat) ∧ nth h (i : Nat) ≤ nth m (i : Nat)
theorem und_succ {m h : List Int} {k : Nat} (hk : UndK m h k) (h1 : 0 ≤ nth h (k : Nat)) (h2 : nth h (k : Nat) ≤ nth m (k : Nat)) : UndK m h (k + 1) := fun i hi => by
  rcases Nat.lt_or_ge i k with e | e
  · exact hk i e
  · rw [show i = k by omega]; exact ⟨h1, h2⟩
theorem und_wide {s : Shr} (hm : inR 0 20 s.m) (hml : s.m.length = 5) (hhl : s.h.length = 5) (hu : Und s.m s.h) : inR (-1000000) 1000000 s.h := fun x hx => by
  obtain ⟨i, hi, rfl⟩ := List.getElem_of_mem hx
  have h1 := hu i hi
  have h2 := hm s.m[i] (List.getElem_mem (by omega))
  rw [nth_at hi, nth_at (show i < s.m.length by omega)] at h1
  omega
set_option maxHeartbeats 4000000 in
theorem iValidShare_any (s : Shr) (A1 A2 : Option Addr) (c1 c2 : Nat) (w : World) (h : SeesR w w.heap.size A1 A2 s) (h1 : s.m.length ≤ 4194304) (h2 : s.h.length ≤ 4194304) :
    Calls Try.prog 21 #[.agg #[.int .i64 s.t, .slice A1 s.m.length c1, .slice A2 s.h.length c2]] w fun e w' => e = .returned (.bool (shareB s)) ∧ Below w.heap.size w w' := by
  have H1 := hid h1
  have H2 := hid h2
  have px0 := At.new w 25 #[.int .i64 s.t, .slice A1 s.m.length c1, .slice A2 s.h.length c2]
  have hB0 := (Below.refl w.heap.size w).alloc (Nat.le_refl _) (.cells #[.int .i64 s.t, .slice A1 s.m.length c1, .slice A2 s.h.length c2] 25)
  have hs0 := h.on hB0
  obtain ⟨p0, p1, p2, pl, pf⟩ := px0.three
  clear h1 h2
  by_cases x1 : s.t < 0
  · have E := hid (show shareB s = false from share_no fun h => by have := h.1.1; omega)
    go_enter Try.func21, Try.ntmps21
    go_wp2
    go_ret
    exact ⟨ret_bool E.out.symm, hB0⟩
  by_cases x2 : s.t > 20
  · have E := hid (show shareB s = false from share_no fun h => by have := h.1.2; omega)
    go_enter Try.func21, Try.ntmps21
    go_wp2
    go_ret
    exact ⟨ret_bool E.out.symm, hB0⟩
  rcases x3 : ((s.m.length : Int) != 5) with _ | _
  rotate_left
  · have E := hid (show shareB s = false from share_no fun h => by have := h.2.1; simp [this] at x3)
    go_enter Try.func21, Try.ntmps21
    go_wp2
    go_ret
    exact ⟨ret_bool E.out.symm, hB0⟩
  rcases x4 : ((s.h.length : Int) != 5) with _ | _
  rotate_left
  · have E := hid (show shareB s = false from share_no fun h => by have := h.2.2.2.1; simp [this] at x4)
    go_enter Try.func21, Try.ntmps21
    go_wp2
    go_ret
    exact ⟨ret_bool E.out.symm, hB0⟩
  have hml : s.m.length = 5 := by simp at x3; omega
  have hhl : s.h.length = 5 := by simp at x4; omega
  have HM := hid hml
  have HH := hid hhl
  have HT := hid (show 0 ≤ s.t ∧ s.t ≤ 20 by omega)
  clear hml hhl
  rcases hw : allB s.m 0 20 with _ | _
  · have E := hid (show shareB s = false from share_no fun h => by rw [allB_iff.2 h.2.2.1] at hw; cases hw)
    have HW := hid hw
    clear hw
    go_enter Try.func21, Try.ntmps21
    go_wp2_with fail
    with_reducible refine (allWithin_any A1 c1 s.m 0 20 _ hs0.most H1.out).mono ?_
    rintro e w' ⟨he, rfl⟩
    rw [HW.out] at he
    subst he
    go_wp2
    go_ret
    exact ⟨ret_bool E.out.symm, hB0⟩
  have HW := hid hw
  have HR := hid (show inR 0 20 s.m from allB_iff.1 hw)
  clear hw
  go_enter Try.func21, Try.ntmps21
  go_wp2_with fail
  with_reducible refine (allWithin_any A1 c1 s.m 0 20 _ hs0.most H1.out).mono ?_
  rintro e w' ⟨he, rfl⟩
  rw [HW.out] at he
  subst he
  clear x3 x4
  go_wp2
  go_loop [32] (fun i => ∃ k : Nat, k ≤ s.h.length ∧ i = .int .i64 k ∧ Hid (UndK s.m s.h k)) (fun i => s.h.length - (intOf i).toNat)
  case atStart => exact ⟨0, Nat.zero_le _, rfl, hid (fun i hi => by omega)⟩
  case round =>
    obtain ⟨k, hk, rfl, HU⟩ := hrel
    have hn := H2.out
    by_cases hlt : k < s.h.length
    · have hi : (k : Int) < (s.h.length : Int) := by omega
      have hkm : k < s.m.length := by have := HH.out; have := HM.out; omega
      have hi2 : (k : Int) < (s.m.length : Int) := by omega
      have hi0 : (0 : Int) ≤ (k : Int) := by omega
      obtain ⟨b, o, rfl, _, e1⟩ := hs0.most.int hkm
      obtain ⟨b', o', rfl, _, e2⟩ := hs0.has.int hlt
      have HS := hid (fun a b => und_succ HU.out a b)
      have HNO := hid (fun (hh : ¬ (0 ≤ nth s.h (k : Nat) ∧ nth s.h (k : Nat) ≤ nth s.m (k : Nat))) => (show shareB s = false from share_no fun h => hh (h.2.2.2.2.1 k hlt)))
      rw [← nth_at hkm] at e1
      rw [← nth_at hlt] at e2
      obtain ⟨x, hx⟩ : ∃ x, x = nth s.h (k : Nat) := ⟨_, rfl⟩
      obtain ⟨y, hy⟩ : ∃ y, y = nth s.m (k : Nat) := ⟨_, rfl⟩
      rw [← hx] at e2 HS HNO
      rw [← hy] at e1 HS HNO
      clear hx hy hs0 px0
      by_cases h1 : x < 0
      · have HX := hid (HNO.out (by omega))
        go_wp2
        go_ret
        exact ⟨ret_bool HX.out.symm, hB0⟩
      · by_cases h2 : x > y
        · have HX := hid (HNO.out (by omega))
          go_wp2
          go_ret
          exact ⟨ret_bool HX.out.symm, hB0⟩
        · have HX := hid (HS.out (by omega) (by omega))
          go_wp2
          go_round
          case rel => exact ⟨k + 1, by omega, by go_num, HX⟩
          case measure => simp [intOf]; omega
    · have hi : ¬ (k : Int) < (s.h.length : Int) := by omega
      have hhl := HH.out
      have hml := HM.out
      have hu : Und s.m s.h := fun j hj => HU.out j (by omega)
      have hbo := und_wide HR.out hml hhl hu
      have HV := hid (show shareB s = decide (sm s.h ≤ s.t) by
        rw [Bool.eq_iff_iff, shareB_iff, decide_eq_true_eq]
        exact ⟨fun h => h.2.2.2.2.2, fun h => ⟨HT.out, hml, HR.out, hhl, hu, h⟩⟩)
      have HBO := hid hbo
      have HLL := hid (show s.h.length ≤ 100000 by omega)
      have HS := hid hs0
      clear hu hbo hs0 px0 hhl hml
      go_wp2
      go_quiet ((go_at_call 25; (with_reducible refine sumOf_q A2 c2 s.h _ _ HS.out.has HLL.out HBO.out)))
      go_wp2
      go_ret
      exact ⟨ret_bool HV.out.symm, below_drewN hB0 _⟩

theorem iValidShare_len {s : Shr} {A1 A2 : Option Addr} {t : Int} {n1 n2 c1 c2 : Nat} {w : World} (ht : s.t = t) (e1 : s.m.length = n1) (e2 : s.h.length = n2) (h : SeesR w w.heap.size A1 A2 s) (h1 : s.m.length ≤ 4194304) (h2 : s.h.length ≤ 4194304) :
    Calls Try.prog 21 #[.agg #[.int .i64 t, .slice A1 n1 c1, .slice A2 n2 c2]] w fun e w' => e = .returned (.bool (shareB s)) ∧ Below w.heap.size w w' := by
  subst ht e1 e2; exact iValidShare_any s A1 A2 c1 c2 w h h1 h2

end Go.Proofs.Ytmpiigjkmodekaa

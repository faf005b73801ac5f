/-
  What the model's validShare, total and poorest answer. Condition: the lists lie in memory.
-/
import Derived.Test.YtmpiigjkmodekaaShC
import Derived.BigQuiet
namespace Go.Proofs.Ytmpiigjkmodekaa
open Go.RowKit Sha

theorem und_sm {m h : List Int} (hm : inR 0 20 m) (hml : m.length = 5) (hhl : h.length = 5) : ∀ {k : Nat}, k ≤ 5 → UndK m h k → 0 ≤ sm (h.take k) ∧ sm (h.take k) ≤ 20 * (k : Int)
  | 0, _, _ => by simp [sm]
  | k + 1, hk, hu => by
    have ih := und_sm (k := k) hm hml hhl (by omega) (fun i hi => hu i (by omega))
    have hkl : k < h.length := by omega
    have h1 := hu k (by omega)
    have h2 := nth_mem hm (o := k) (by omega) (by omega)
    rw [sm_succ hkl, ← nth_at hkl]
    omega
theorem AtS.drewN {w : World} {g : Nat} {t : TypeId} {cs : Array Value} (h : At w g t cs) (n : Nat) : At (w.drewN n) g t cs := h
set_option maxHeartbeats 8000000 in
theorem svalidShare_any (s : Shr) (A1 A2 : Option Addr) (c1 c2 : Nat) (w : World) (h : SeesR w w.heap.size A1 A2 s) (h1 : s.m.length ≤ 4194304) (h2 : s.h.length ≤ 4194304) :
    Calls Try.prog 13 #[.agg #[.int .i64 s.t, .slice A1 s.m.length c1, .slice A2 s.h.length c2]] w fun e w' => e = .returned (.bool (shareB s)) ∧ Below w.heap.size w w' := by
  have H1 := hid h1
  have H2 := hid h2
  have px0 := At.new w 25 #[.int .i64 s.t, .slice A1 s.m.length c1, .slice A2 s.h.length c2]
  have hB0 := (Below.refl w.heap.size w).alloc (Nat.le_refl _) (.cells #[.int .i64 s.t, .slice A1 s.m.length c1, .slice A2 s.h.length c2] 25)
  have hs0 := h.on hB0
  obtain ⟨p0, p1, p2, pl, pf⟩ := px0.three
  clear h1 h2
  rcases x1 : inB s.t 0 20 with _ | _
  · have E := hid (show shareB s = false from share_no fun h => by rw [inB_iff.2 h.1] at x1; cases x1)
    have X1 := hid x1
    clear x1
    go_enter Try.func13, Try.ntmps13
    go_wp2_with (go_at_call 14; refine (inRange_any _ _ _ _).mono ?_; rintro e w' ⟨he, rfl⟩; rw [X1.out] at he; subst he)
    go_ret
    exact ⟨ret_bool E.out.symm, hB0⟩
  have X1 := hid x1
  have HT := hid (inB_iff.1 x1)
  clear x1
  rcases x3 : ((s.m.length : Int) != 5) with _ | _
  rotate_left
  · have E := hid (show shareB s = false from share_no fun h => by have := h.2.1; simp [this] at x3)
    go_enter Try.func13, Try.ntmps13
    go_wp2_with (go_at_call 14; refine (inRange_any _ _ _ _).mono ?_; rintro e w' ⟨he, rfl⟩; rw [X1.out] at he; subst he)
    go_ret
    exact ⟨ret_bool E.out.symm, hB0⟩
  have hml : s.m.length = 5 := by simp at x3; omega
  have HM := hid hml
  clear hml
  rcases hw : allB s.m 0 20 with _ | _
  · have E := hid (show shareB s = false from share_no fun h => by rw [allB_iff.2 h.2.2.1] at hw; cases hw)
    have HW := hid hw
    clear hw
    go_enter Try.func13, Try.ntmps13
    go_wp2_with fail
    with_reducible refine (inRange_any _ _ _ _).mono ?_
    rintro e w' ⟨he, rfl⟩
    rw [X1.out] at he
    subst he
    go_wp2_with fail
    with_reducible refine (allIn_any A1 c1 s.m 0 20 _ hs0.most (Nat.le_trans H1.out (by decide))).mono ?_
    rintro e w' ⟨he, rfl⟩
    rw [HW.out] at he
    subst he
    go_wp2
    go_ret
    exact ⟨ret_bool E.out.symm, hB0⟩
  have HW := hid hw
  have HR := hid (show inR 0 20 s.m from allB_iff.1 hw)
  clear hw
  rcases x4 : ((s.h.length : Int) != 5) with _ | _
  rotate_left
  · have E := hid (show shareB s = false from share_no fun h => by have := h.2.2.2.1; simp [this] at x4)
    go_enter Try.func13, Try.ntmps13
    go_wp2_with fail
    with_reducible refine (inRange_any _ _ _ _).mono ?_
    rintro e w' ⟨he, rfl⟩
    rw [X1.out] at he
    subst he
    go_wp2_with fail
    with_reducible refine (allIn_any A1 c1 s.m 0 20 _ hs0.most (Nat.le_trans H1.out (by decide))).mono ?_
    rintro e w' ⟨he, rfl⟩
    rw [HW.out] at he
    subst he
    go_wp2
    go_ret
    exact ⟨ret_bool E.out.symm, hB0⟩
  have hhl : s.h.length = 5 := by simp at x4; omega
  have HH := hid hhl
  clear hhl
  go_enter Try.func13, Try.ntmps13
  go_wp2_with fail
  with_reducible refine (inRange_any _ _ _ _).mono ?_
  rintro e w' ⟨he, rfl⟩
  rw [X1.out] at he
  subst he
  go_wp2_with fail
  with_reducible refine (allIn_any A1 c1 s.m 0 20 _ hs0.most (Nat.le_trans H1.out (by decide))).mono ?_
  rintro e w' ⟨he, rfl⟩
  rw [HW.out] at he
  subst he
  clear x3
  go_wp2
  clear x4
  go_loopw [3, 4] (fun n i wr => ∃ k : Nat, k ≤ 5 ∧ i = .int .i64 k ∧ n = .int .i64 (sm (s.h.take k)) ∧ Hid (UndK s.m s.h k) ∧ At wr w.heap.size 25 #[.int .i64 s.t, .slice A1 s.m.length c1, .slice A2 s.h.length c2] ∧ Below w.heap.size w wr) (fun _ i _ => 5 - (intOf i).toNat)
  case atStart => exact ⟨0, Nat.zero_le _, rfl, rfl, hid (fun i hi => by omega), px0, hB0⟩
  case round =>
    clear p0 p1 p2 pl pf px0 hs0 hB0
    obtain ⟨k, hk, rfl, rfl, HU, px, hb⟩ := hrel
    obtain ⟨p0, p1, p2, pl, pf⟩ := px.three
    have hs := h.on hb
    by_cases hlt : k < 5
    · have hi : (k : Int) < 5 := by omega
      have hkm : k < s.m.length := by have := HM.out; omega
      have hkh : k < s.h.length := by have := HH.out; omega
      have hi2 : (k : Int) < (s.m.length : Int) := by omega
      have hi3 : (k : Int) < (s.h.length : Int) := by omega
      have hi0 : (0 : Int) ≤ (k : Int) := by omega
      obtain ⟨b, o, rfl, _, e1⟩ := hs.most.int hkm
      obtain ⟨b', o', rfl, _, e2⟩ := hs.has.int hkh
      have HS := hid (fun a b => und_succ HU.out a b)
      have HNO := hid (fun (hh : ¬ (0 ≤ nth s.h (k : Nat) ∧ nth s.h (k : Nat) ≤ nth s.m (k : Nat))) => (show shareB s = false from share_no fun h => hh (h.2.2.2.2.1 k hkh)))
      have hsb := und_sm HR.out HM.out HH.out hk HU.out
      have hm20 := nth_mem HR.out (o := k) (by omega) (by omega)
      have HSM := hid (sm_succ hkh)
      rw [← nth_at hkh] at HSM
      rw [← nth_at hkm] at e1
      rw [← nth_at hkh] at e2
      obtain ⟨x, hx⟩ : ∃ x, x = nth s.h (k : Nat) := ⟨_, rfl⟩
      obtain ⟨y, hy⟩ : ∃ y, y = nth s.m (k : Nat) := ⟨_, rfl⟩
      rw [← hx] at e2 HS HNO HSM
      rw [← hy] at e1 HS HNO hm20
      obtain ⟨z, hz⟩ : ∃ z, z = sm (s.h.take k) := ⟨_, rfl⟩
      rw [← hz] at hsb HSM ⊢
      clear hx hy hz hs HU
      rcases hr : inB x 0 y with _ | _
      · have HX := hid (HNO.out (fun hh => by rw [inB_iff.2 hh] at hr; cases hr))
        have HR2 := hid hr
        clear hr
        go_wp2
        go_quiet ((go_at_call 14; exact Calls.quiet_of_same ((inRange_any _ _ _ _).mono fun _ _ ⟨he, hw⟩ => ⟨by rw [he, HR2.out], hw.symm⟩)))
        go_wp2
        go_ret
        exact ⟨ret_bool HX.out.symm, below_drewN hb _⟩
      · have hxy := inB_iff.1 hr
        have HX := hid (HS.out hxy.1 hxy.2)
        have HR2 := hid hr
        have hw : IntKind.i64.wrap (z + x) = z + x := by rw [IntKind.wrap_i64]; omega
        clear hr
        go_wp2
        go_quiet ((go_at_call 14; exact Calls.quiet_of_same ((inRange_any _ _ _ _).mono fun _ _ ⟨he, hw⟩ => ⟨by rw [he, HR2.out], hw.symm⟩)))
        go_wp2
        go_roundw
        case rel => exact ⟨k + 1, by omega, by go_num, by rw [HSM.out], HX, AtS.drewN px _, below_drewN hb _⟩
        case measure => simp [intOf]; omega
    · have hi : ¬ (k : Int) < 5 := by omega
      have hk5 : k = 5 := by omega
      subst hk5
      have hu : Und s.m s.h := fun j hj => HU.out j (by have := HH.out; omega)
      have hte : s.h.take 5 = s.h := List.take_of_length_le (by have := HH.out; omega)
      have HV := hid (show shareB s = decide (sm s.h ≤ s.t) by
        rw [Bool.eq_iff_iff, shareB_iff, decide_eq_true_eq]
        exact ⟨fun h => h.2.2.2.2.2, fun h => ⟨HT.out, HM.out, HR.out, HH.out, hu, h⟩⟩)
      rw [hte]
      clear hte hu
      go_wp2
      go_ret
      exact ⟨ret_bool HV.out.symm, hb⟩

theorem svalidShare_len {s : Shr} {A1 A2 : Option Addr} {t : Int} {n1 n2 c1 c2 : Nat} {w : World} (ht : s.t = t) (e1 : s.m.length = n1) (e2 : s.h.length = n2) (h : SeesR w w.heap.size A1 A2 s) (h1 : s.m.length ≤ 4194304) (h2 : s.h.length ≤ 4194304) :
    Calls Try.prog 13 #[.agg #[.int .i64 t, .slice A1 n1 c1, .slice A2 n2 c2]] w fun e w' => e = .returned (.bool (shareB s)) ∧ Below w.heap.size w w' := by
  subst ht e1 e2; exact svalidShare_any s A1 A2 c1 c2 w h h1 h2

end Go.Proofs.Ytmpiigjkmodekaa

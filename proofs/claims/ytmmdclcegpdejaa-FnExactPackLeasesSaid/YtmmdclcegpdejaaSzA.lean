/-
  What SizeFor answers, the program's and the model's; what draws its arguments. No condition.
-/
import Derived.Test.YtmmdclcegpdejaaBase
import Derived.Test.YtmmdclcegpdejaaOwnI
import Derived.Test.YtmmdclcegpdejaaReadB
import Derived.Handy
namespace Go.Proofs.Ytmmdclcegpdejaa
open Go.RowKit

def sizeV (m s : Int) : Int := max 1 ((m + 99) / 100 + s)
def sizeB (m s : Int) : Bool := inB m 0 600 && inB s 0 6
def sizeFor (m s : Int) : Int := if sizeB m s = true then (if 6 < sizeV m s then -1 else sizeV m s) else -1
theorem sizeB_iff {m s : Int} : sizeB m s = true ↔ (0 ≤ m ∧ m ≤ 600) ∧ 0 ≤ s ∧ s ≤ 6 := by unfold sizeB; rw [Bool.and_eq_true, inB_iff, inB_iff]
theorem size_no {m s : Int} (h : ¬ ((0 ≤ m ∧ m ≤ 600) ∧ 0 ≤ s ∧ s ≤ 6)) : sizeFor m s = -1 := by unfold sizeFor; rw [if_neg (fun e => h (sizeB_iff.1 e))]
theorem size_yes {m s : Int} (h1 : 0 ≤ m) (h2 : m ≤ 600) (h3 : 0 ≤ s) (h4 : s ≤ 6) : sizeFor m s = if 6 < sizeV m s then -1 else sizeV m s := by unfold sizeFor; rw [if_pos (sizeB_iff.2 ⟨⟨h1, h2⟩, h3, h4⟩)]
set_option maxHeartbeats 400000 in
theorem wGreater_any (a b : Int) (w : World) :
    Calls Try.prog 35 #[.int .i64 a, .int .i64 b] w fun e w' => e = .returned (.int .i64 (max a b)) ∧ w = w' := by
  obtain ⟨M, hM⟩ : ∃ M, M = max a b := ⟨_, rfl⟩
  rw [← hM]
  by_cases h1 : a > b
  · have E := hid (show M = a by omega)
    clear hM
    go_enter Try.func35, Try.ntmps35
    go_wp2
    go_ret
    exact ⟨ret_int E.out.symm, rfl⟩
  · have E := hid (show M = b by omega)
    clear hM
    go_enter Try.func35, Try.ntmps35
    go_wp2
    go_ret
    exact ⟨ret_int E.out.symm, rfl⟩

set_option maxHeartbeats 2000000 in
theorem iSizeFor_any (m s : Int) (w : World) :
    Calls Try.prog 22 #[.int .i64 m, .int .i64 s] w fun e w' => e = .returned (.int .i64 (sizeFor m s)) ∧ w = w' := by
  by_cases h1 : m < 0
  · have E := hid (size_no (m := m) (s := s) (by omega))
    go_enter Try.func22, Try.ntmps22
    go_wp2
    go_ret
    exact ⟨ret_int E.out.symm, rfl⟩
  · by_cases h2 : m > 600
    · have E := hid (size_no (m := m) (s := s) (by omega))
      go_enter Try.func22, Try.ntmps22
      go_wp2
      go_ret
      exact ⟨ret_int E.out.symm, rfl⟩
    · by_cases h3 : s < 0
      · have E := hid (size_no (m := m) (s := s) (by omega))
        go_enter Try.func22, Try.ntmps22
        go_wp2
        go_ret
        exact ⟨ret_int E.out.symm, rfl⟩
      · by_cases h4 : s > 6
        · have E := hid (size_no (m := m) (s := s) (by omega))
          go_enter Try.func22, Try.ntmps22
          go_wp2
          go_ret
          exact ⟨ret_int E.out.symm, rfl⟩
        · skip
          have E := hid (size_yes (m := m) (s := s) (by omega) (by omega) (by omega) (by omega))
          have q0 : 0 ≤ (m + 99) / 100 := by omega
          have q1 : (m + 99) / 100 ≤ 6 := by omega
          have w1 : IntKind.i64.wrap (m + 99) = m + 99 := by rw [IntKind.wrap_i64]; omega
          have w2 : IntKind.i64.wrap ((m + 99) / 100 + s) = (m + 99) / 100 + s := by rw [IntKind.wrap_i64]; omega
          have w3 : IntKind.i64.wrap ((m + 99) / 100) = (m + 99) / 100 := by rw [IntKind.wrap_i64]; omega
          have w4 : (m + 99).tdiv 100 = (m + 99) / 100 := Int.tdiv_eq_ediv_of_nonneg (by omega)
          obtain ⟨V, hV⟩ : ∃ V, V = sizeV m s := ⟨_, rfl⟩
          have HV : Hid (max 1 ((m + 99) / 100 + s) = V) := hid (by rw [hV]; rfl)
          rw [← hV] at E
          clear hV
          by_cases h6 : V > 6
          · have HX := hid (E.out.trans (by rw [if_pos (by omega)]))
            go_enter Try.func22, Try.ntmps22
            go_wp2_with fail
            refine (wGreater_any _ _ _).mono ?_
            rintro e w9 ⟨he, rfl⟩
            rw [HV.out] at he
            subst he
            go_wp2
            go_ret
            exact ⟨ret_int HX.out.symm, rfl⟩
          · have HX := hid (E.out.trans (by rw [if_neg (by omega)]))
            go_enter Try.func22, Try.ntmps22
            go_wp2_with fail
            refine (wGreater_any _ _ _).mono ?_
            rintro e w9 ⟨he, rfl⟩
            rw [HV.out] at he
            subst he
            go_wp2
            go_ret
            exact ⟨ret_int HX.out.symm, rfl⟩

set_option maxHeartbeats 2000000 in
theorem sSizeFor_any (m s : Int) (w : World) :
    Calls Try.prog 21 #[.int .i64 m, .int .i64 s] w fun e w' => e = .returned (.int .i64 (sizeFor m s)) ∧ w = w' := by
  rcases d1 : inB m 0 600 with _ | _
  · have E := hid (size_no (m := m) (s := s) (fun hh => by rw [inB_iff.2 hh.1] at d1; cases d1))
    have D1 := hid d1
    clear d1
    go_enter Try.func21, Try.ntmps21
    go_wp2_with (go_at_call 31; (with_reducible refine (inRange_any _ _ _ _).mono ?_); rintro e w' ⟨he, rfl⟩; rw [D1.out] at he; subst he)
    go_ret
    exact ⟨ret_int E.out.symm, rfl⟩
  · rcases d2 : inB s 0 6 with _ | _
    · have E := hid (size_no (m := m) (s := s) (fun hh => by rw [inB_iff.2 hh.2] at d2; cases d2))
      have D1 := hid d1
      have D2 := hid d2
      clear d1 d2
      go_enter Try.func21, Try.ntmps21
      go_wp2_with (go_at_call 31; (with_reducible refine (inRange_any _ _ _ _).mono ?_); rintro e w' ⟨he, rfl⟩; first | (rw [D1.out] at he; subst he) | (rw [D2.out] at he; subst he))
      go_ret
      exact ⟨ret_int E.out.symm, rfl⟩
    · obtain ⟨h1, h2⟩ := inB_iff.1 d1
      obtain ⟨h3, h4⟩ := inB_iff.1 d2
      have D1 := hid d1
      have D2 := hid d2
      clear d1 d2
      have E := hid (size_yes (m := m) (s := s) (by omega) (by omega) (by omega) (by omega))
      have q0 : 0 ≤ (m + 99) / 100 := by omega
      have q1 : (m + 99) / 100 ≤ 6 := by omega
      have w1 : IntKind.i64.wrap (m + 99) = m + 99 := by rw [IntKind.wrap_i64]; omega
      have w2 : IntKind.i64.wrap ((m + 99) / 100 + s) = (m + 99) / 100 + s := by rw [IntKind.wrap_i64]; omega
      have w3 : IntKind.i64.wrap ((m + 99) / 100) = (m + 99) / 100 := by rw [IntKind.wrap_i64]; omega
      have w4 : (m + 99).tdiv 100 = (m + 99) / 100 := Int.tdiv_eq_ediv_of_nonneg (by omega)
      obtain ⟨V, hV⟩ : ∃ V, V = sizeV m s := ⟨_, rfl⟩
      have HV : Hid (max 1 ((m + 99) / 100 + s) = V) := hid (by rw [hV]; rfl)
      rw [← hV] at E
      clear hV
      have hc : 1 < (m + 99) / 100 + s ∨ 1 = (m + 99) / 100 + s ∨ (m + 99) / 100 + s < 1 := by omega
      rcases hc with hc | hc | hc
      · have HZ := hid (show V = (m + 99) / 100 + s by have := HV.out; omega)
        by_cases h6 : (m + 99) / 100 + s > 6
        · have HX := hid (E.out.trans (by rw [if_pos (by rw [HZ.out]; omega)]))
          go_enter Try.func21, Try.ntmps21
          go_wp2_with (go_at_call 31; (with_reducible refine (inRange_any _ _ _ _).mono ?_); rintro e w' ⟨he, rfl⟩; first | (rw [D1.out] at he; subst he) | (rw [D2.out] at he; subst he))
          go_ret
          exact ⟨ret_int (by rw [HX.out]), rfl⟩
        · have HX := hid (E.out.trans (by rw [if_neg (by rw [HZ.out]; omega)]))
          go_enter Try.func21, Try.ntmps21
          go_wp2_with (go_at_call 31; (with_reducible refine (inRange_any _ _ _ _).mono ?_); rintro e w' ⟨he, rfl⟩; first | (rw [D1.out] at he; subst he) | (rw [D2.out] at he; subst he))
          go_ret
          exact ⟨ret_int (by rw [HX.out]; exact HZ.out.symm), rfl⟩
      · have HZ := hid (show V = 1 by have := HV.out; omega)
        have hc1 : (m + 99) / 100 + s = 1 := hc.symm
        clear hc
        have HX := hid (E.out.trans (by rw [if_neg (by rw [HZ.out]; omega)]))
        go_enter Try.func21, Try.ntmps21
        go_wp2_with (go_at_call 31; (with_reducible refine (inRange_any _ _ _ _).mono ?_); rintro e w' ⟨he, rfl⟩; first | (rw [D1.out] at he; subst he) | (rw [D2.out] at he; subst he))
        go_ret
        exact ⟨ret_int (by rw [HX.out]; exact HZ.out.symm), rfl⟩
      · have HZ := hid (show V = 1 by have := HV.out; omega)
        have HX := hid (E.out.trans (by rw [if_neg (by rw [HZ.out]; omega)]))
        go_enter Try.func21, Try.ntmps21
        go_wp2_with (go_at_call 31; (with_reducible refine (inRange_any _ _ _ _).mono ?_); rintro e w' ⟨he, rfl⟩; first | (rw [D1.out] at he; subst he) | (rw [D2.out] at he; subst he))
        go_ret
        exact ⟨ret_int (by rw [HX.out]; exact HZ.out.symm), rfl⟩

def PairZ (w : World) (e : Ending) (w' : World) : Prop := ∃ i j : Int, e = .returned (.tuple #[.int .i64 i, .int .i64 j]) ∧ Below w.heap.size w w' ∧ -1 ≤ i ∧ i ≤ 601 ∧ -1 ≤ j ∧ j ≤ 7
set_option maxHeartbeats 2000000 in
theorem drawSizeFor_any (A : Option Addr) (n c : Nat) (zs : List Int) (w : World) (h : Sees w w.heap.size A (byts zs)) (hz : ∀ z ∈ zs, 0 ≤ z ∧ z ≤ 255) (hn : zs.length = n) (hc : n ≤ c) (hm : n ≤ 1048576) (hcc : c ≤ maxLen) :
    Calls Try.prog 23 #[.slice A n c] w (PairZ w) := by
  have HZ := hid hz
  have HE := hid hn
  have HC := hid hcc
  clear hz hn hcc
  go_enter Try.func23, Try.ntmps23
  go_wp2_with fail
  refine (newReader_any A n c zs _ h HZ.out HE.out hc hm HC.out).mono ?_
  rintro e w1 ⟨rfl, hb1, hr1⟩
  have hz1 := hr1.lt
  go_wp2_with fail
  refine (pick_any w.heap.size 0 250 _ hr1 (by omega)).mono ?_
  rintro e w2 ⟨x, rfl, lx, ux, hg2, hr2⟩
  have bx := ux (by omega)
  have hz2 := hg2.size
  have hw : IntKind.i64.wrap (2 * x) = 2 * x := by rw [IntKind.wrap_i64]; omega
  have hbb2 := hb1.trans (below_of_grown hg2 (Nat.le_refl _) (Nat.le_of_lt hz1))
  clear ux hg2 hr1
  go_wp2_with fail
  refine (one_any w.heap.size (0 + 1) _ 9 _ [0, 1, 100, 150, 250, 600, 601, -1, 2 * x] _ (hr2.alloc _) (by omega) (At.new _ 3 _) (by rfl) (by omega) (by rfl) (by omega) (by omega)).mono ?_
  rintro e w3 ⟨y, rfl, my, hg3, hr3⟩
  have my2 : -1 ≤ y ∧ y ≤ 601 := by simp at my; omega
  have hz3 := hg3.size
  simp only [World.size_alloc] at hz3
  have hbb3 := (hbb2.alloc hbb2.size (.cells #[.int .i64 0, .int .i64 1, .int .i64 100, .int .i64 150, .int .i64 250, .int .i64 600, .int .i64 601, .int .i64 (-1), .int .i64 (2 * x)] 3)).trans (below_of_grown hg3 (Nat.le_refl _) (by simp; omega))
  obtain ⟨my3, my4⟩ := my2
  clear my hg3 hr2 hbb2
  go_wp2_with fail
  refine (one_any w.heap.size (0 + 1 + 1) _ 6 _ [0, 1, 2, 6, 7, -1] _ (hr3.alloc _) (by omega) (At.new _ 3 _) (by rfl) (by omega) (by rfl) (by omega) (by omega)).mono ?_
  rintro e w4 ⟨z, rfl, mz, hg4, hr4⟩
  have mz2 : -1 ≤ z ∧ z ≤ 7 := by simp at mz; omega
  have hbb4 := (hbb3.alloc hbb3.size (.cells #[.int .i64 0, .int .i64 1, .int .i64 2, .int .i64 6, .int .i64 7, .int .i64 (-1)] 3)).trans (below_of_grown hg4 (Nat.le_refl _) (by simp; omega))
  clear mz
  go_wp2
  go_ret2
  exact ⟨y, z, rfl, hbb4, my3, my4, mz2.1, mz2.2⟩

end Go.Proofs.Ytmmdclcegpdejaa

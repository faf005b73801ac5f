/-
  The walk of the law FnGoodShare: at every code it returns true and changes nothing that was there. Conditions: none.
-/
import Derived.Test.YthghmpcfiakjgacChkGen
import Derived.Test.YthghmpcfiakjgacChkD
import Derived.Test.YthghmpcfiakjgacLawFrame
import Derived.Test.YthghmpcfiakjgacChkLawMath
namespace Go.Proofs.Ythghmpcfiakjgac
open Go.RowKit Chk

set_option maxHeartbeats 4000000 in
theorem walkGoodShare (a : Option Addr) (len cap : Nat) (zs : List Int) (w : World) (hn : zs.length = len) (hc : len ≤ cap) (hcc : cap ≤ maxLen) (h : Sees w w.heap.size a (byts zs)) (hz : ∀ y ∈ zs, 0 ≤ y ∧ y ≤ 255) :
    Calls Try.prog 6 #[.slice a len cap] w fun e w' => e = .returned (.bool true) ∧ Below w.heap.size w w' := by
  have HE := hid hn
  have HC := hid hcc
  have HZ := hid hz
  clear hn hcc hz
  by_cases hbig : 1048576 < len
  · go_enter Try.func6, Try.ntmps6
    go_wp2
    go_ret
    exact ⟨rfl, Below.refl _ _⟩
  · go_enter Try.func6, Try.ntmps6
    go_wp2_with fail
    refine (drawGoodShare_any _ _ _ _ _ h HZ.out HE.out hc (by omega) HC.out).mono ?_
    rintro e w1 ⟨A, c, l, rfl, dl⟩
    clear h hbig
    have HCAP := hid dl.cap
    have HLEN := hid dl.len
    obtain ⟨V, hV⟩ : ∃ V, V = share l := ⟨_, rfl⟩
    have HV : Hid (share l = V) := hid hV.symm
    have hcs := share_cases l
    rw [← hV] at hcs
    clear hV
    go_wp2_with fail
    refine (iGoodShare_any A _ c l _ rfl dl.sees dl.n4).mono ?_
    rintro e w' ⟨he, rfl⟩
    rw [HV.out] at he
    subst he
    go_wp2_with fail
    refine (sGoodShare_any A _ c l _ rfl dl.sees dl.n4).mono ?_
    rintro e w' ⟨he, rfl⟩
    rw [HV.out] at he
    subst he
    by_cases h1 : V < 0
    · skip
      go_wp2_with fail
      refine (sGoodShare_any A _ c l _ rfl dl.sees dl.n4).mono ?_
      rintro e w' ⟨he, rfl⟩
      rw [HV.out] at he
      subst he
      go_wp2
      go_ret
      exact ⟨by first | rfl | (simp; done) | (simp; omega), dl.bel⟩
    · skip
      obtain ⟨h12, s1, s2, s3⟩ := hcs (by omega)
      have HS3 := hid s3
      have HS2 := hid s2
      clear s2 s3 hcs
      have d1 : decide (V < 0) = false := decide_eq_false h1
      go_wp2
      go_loopw [5, 6] (fun v i wr => ∃ j : Nat, j ≤ l.length ∧ i = .int .i64 j ∧ v = .int .i64 ((cnt (l.take j) : Nat) : Int) ∧ DT w wr A c l) (fun _ i _ => l.length - (intOf i).toNat)
      case atStart => exact ⟨0, Nat.zero_le _, rfl, rfl, dl⟩
      case round =>
        clear dl
        obtain ⟨j, hj, rfl, rfl, dl⟩ := hrel
        have hC := cnt_le (l.take j)
        rw [List.length_take] at hC
        by_cases hlt : j < l.length
        · skip
          have hi : (j : Int) < (l.length : Int) := by omega
          obtain ⟨b, o, rfl, _, e1⟩ := dl.sees.boo hlt
          have HT := hid (cnt_step hlt)
          obtain ⟨x, hx⟩ : ∃ x, x = l[j] := ⟨_, rfl⟩
          rw [← hx] at e1 HT
          obtain ⟨C, hCC⟩ : ∃ C, C = cnt (l.take j) := ⟨_, rfl⟩
          rw [← hCC] at HT hC ⊢
          clear hx hCC
          cases x
          · skip
            go_wp2
            go_roundw
            case rel => exact ⟨j + 1, by omega, by go_num, by rw [HT.out]; first | (simp [bit]; done) | (simp [bit]; go_num), dl⟩
            case measure => simp [intOf]; omega
          · skip
            go_wp2
            go_roundw
            case rel => exact ⟨j + 1, by omega, by go_num, by rw [HT.out]; first | (simp [bit]; done) | (simp [bit]; go_num), dl⟩
            case measure => simp [intOf]; omega
        · skip
          have hi : ¬ (j : Int) < (l.length : Int) := by omega
          rw [take_whole hlt] at hC ⊢
          obtain ⟨C, hCC⟩ : ∃ C, C = cnt l := ⟨_, rfl⟩
          rw [← hCC] at hC HS2 HS3 ⊢
          clear hCC
          have s2 := HS2.out
          have s3 := HS3.out
          by_cases t1 : V = 100
          · skip
            have c1 := s2.1 t1
            by_cases t2 : V = 0
            · skip
              omega
            · skip
              have c2 : ¬ (C = 0 ∧ 0 < l.length) := fun e => t2 (s3.2 e)
              have x1 := beq_t4 t1
              have x2 := beq_f4 t2
              have x3 := beq_t4 (show (C : Int) = (l.length : Int) by omega)
              by_cases t3 : C = 0
              · skip
                have x4 := beq_t4 (show (C : Int) = 0 by omega)
                have x5 : ¬ (l.length : Int) > 0 := by omega
                clear t1 t2 s2 s3 c1 c2 t3
                go_wp2
                go_ret
                exact ⟨by first | rfl | (simp; exact List.eq_nil_of_length_eq_zero (by omega)), dl.bel⟩
              · skip
                have x4 := beq_f4 (show ¬ (C : Int) = 0 by omega)
                clear t1 t2 s2 s3 c1 c2
                go_wp2
                go_ret
                exact ⟨by first | rfl | (simp; done) | (simp; omega), dl.bel⟩
          · skip
            have c1 : ¬ C = l.length := fun e => t1 (s2.2 e)
            have x1 := beq_f4 t1
            have x3 := beq_f4 (show ¬ (C : Int) = (l.length : Int) by omega)
            by_cases t2 : V = 0
            · skip
              obtain ⟨c2, c3⟩ := s3.1 t2
              have x2 := beq_t4 t2
              have x4 := beq_t4 (show (C : Int) = 0 by omega)
              have x5 : (l.length : Int) > 0 := by omega
              clear t1 s2 s3 c1 t2 c2
              go_wp2
              go_ret
              exact ⟨by first | rfl | (simp; done) | (simp; omega), dl.bel⟩
            · skip
              have c2 : ¬ (C = 0 ∧ 0 < l.length) := fun e => t2 (s3.2 e)
              have x2 := beq_f4 t2
              have x4 := beq_f4 (show ¬ (C : Int) = 0 by omega)
              clear t1 t2 s2 s3 c2
              go_wp2
              go_ret
              exact ⟨by first | rfl | (simp; done) | (simp; omega), dl.bel⟩
end Go.Proofs.Ythghmpcfiakjgac

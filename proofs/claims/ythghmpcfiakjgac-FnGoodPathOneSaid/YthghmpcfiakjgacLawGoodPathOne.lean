/-
  The walk of the law FnGoodPathOne: at every code it returns true and changes nothing that was there. Conditions: none.
-/
import Derived.Test.YthghmpcfiakjgacChkGen
import Derived.Test.YthghmpcfiakjgacChkD
import Derived.Test.YthghmpcfiakjgacLawFrame
import Derived.Test.YthghmpcfiakjgacChkLawMath
import Derived.Test.YthghmpcfiakjgacXGen
namespace Go.Proofs.Ythghmpcfiakjgac
open Go.RowKit Chk

set_option maxHeartbeats 4000000 in
theorem walkGoodPathOne (a : Option Addr) (len cap : Nat) (zs : List Int) (w : World) (hn : zs.length = len) (hc : len ≤ cap) (hcc : cap ≤ maxLen) (h : Sees w w.heap.size a (byts zs)) (hz : ∀ y ∈ zs, 0 ≤ y ∧ y ≤ 255) :
    Calls Try.prog 4 #[.slice a len cap] w fun e w' => e = .returned (.bool true) ∧ Below w.heap.size w w' := by
  have HE := hid hn
  have HC := hid hcc
  have HZ := hid hz
  clear hn hcc hz
  by_cases hbig : 1048576 < len
  · go_enter Try.func4, Try.ntmps4
    go_wp2
    go_ret
    exact ⟨rfl, Below.refl _ _⟩
  · go_enter Try.func4, Try.ntmps4
    go_wp2_with fail
    refine (drawGoodPath_any _ _ _ _ _ h HZ.out HE.out hc (by omega) HC.out).mono ?_
    rintro e w1 ⟨A, c, l, f, g, rfl, dl⟩
    clear h hbig
    have HCAP := hid dl.cap
    have HLEN := hid dl.len
    obtain ⟨P, hP⟩ : ∃ P, P = path l f g := ⟨_, rfl⟩
    have HP : Hid (path l f g = P) := hid hP.symm
    have hcs := path_cases l f g
    rw [← hP] at hcs
    have HPN := hid (show P.length ≤ 12 by rw [hP]; exact path_len l f g)
    have HEQ : Hid (eqB P P = true) := hid (eqB_iff.2 rfl)
    clear hP
    go_wp2_with fail
    refine (iGoodPath_any A _ c l f g _ rfl dl.sees HCAP.out dl.n4).mono ?_
    rintro e w2 ⟨v1, rfl, ho, hb⟩
    rw [HP.out] at ho
    replace dl := dl.below hb
    obtain ⟨A1, c1, rfl, hc1, _, _⟩ := ho.form4
    have o1 := ho.mono (Nat.zero_le _)
    clear ho hb
    go_wp2_with fail
    refine (sGoodPath_any A _ c l f g _ rfl dl.sees HCAP.out).mono ?_
    rintro e w2 ⟨v2, rfl, ho, hb⟩
    rw [HP.out] at ho
    replace dl := dl.below hb
    replace o1 := o1.below hb
    obtain ⟨A2, c2, rfl, hc2, _, _⟩ := ho.form4
    have o2 := ho.mono (Nat.zero_le _)
    clear ho hb
    go_wp2_with fail
    refine (equalInts_any A1 A2 c1 c2 P P _ o1.sees4 o2.sees4 (Nat.le_trans HPN.out (by decide))).mono ?_
    rintro e w2 ⟨he, hb⟩
    rw [HEQ.out] at he
    subst he
    replace dl := dl.below hb
    replace o1 := o1.below hb
    replace o2 := o2.below hb
    clear hb
    clear o2
    by_cases h0 : P.length = 0
    · skip
      have hP0 : P = [] := List.eq_nil_of_length_eq_zero h0
      have hi0 : ((P.length : Int) == 0) = true := by simp [h0]
      have HI := hid h0
      clear hcs h0 hP0
      go_wp2_with fail
      refine (sGoodPath_any A _ c l f g _ rfl dl.sees HCAP.out).mono ?_
      rintro e w2 ⟨v3, rfl, ho, hb⟩
      rw [HP.out] at ho
      replace dl := dl.below hb
      replace o1 := o1.below hb
      obtain ⟨A3, c3, rfl, hc3, _, _⟩ := ho.form4
      have o3 := ho.mono (Nat.zero_le _)
      clear ho hb
      go_wp2_with fail
      refine (equalInts_any A1 A3 c1 c3 P P _ o1.sees4 o3.sees4 (Nat.le_trans HPN.out (by decide))).mono ?_
      rintro e w2 ⟨he, hb⟩
      rw [HEQ.out] at he
      subst he
      replace dl := dl.below hb
      replace o1 := o1.below hb
      replace o3 := o3.below hb
      clear hb
      go_wp2
      go_ret
      exact ⟨by first | rfl | (simp; done) | (simp; omega), dl.bel⟩
    · skip
      have hi0 : ((P.length : Int) == 0) = false := by rw [beq_eq_false_iff_ne]; omega
      obtain ⟨hck, hpl, hpa⟩ := hcs (by omega)
      have h12 := (chkB_iff.1 hck).1
      have hq := one_path h12
      clear hck hpa h0 hpl
      obtain ⟨Q, hQ⟩ : ∃ Q, Q = path l 1 1 := ⟨_, rfl⟩
      have HQ : Hid (path l 1 1 = Q) := hid hQ.symm
      rw [← hQ] at hq
      obtain ⟨hql, hqa⟩ := hq
      have HQL := hid hql
      have HQA := hid hqa
      clear hQ hql hqa
      go_wp2_with fail
      refine (iGoodPath_any A _ c l 1 1 _ rfl dl.sees HCAP.out dl.n4).mono ?_
      rintro e w2 ⟨v4, rfl, ho, hb⟩
      rw [HQ.out] at ho
      replace dl := dl.below hb
      replace o1 := o1.below hb
      obtain ⟨A4, c4, rfl, hc4, _, _⟩ := ho.form4
      have o4 := ho.mono (Nat.zero_le _)
      clear ho hb
      go_wp2
      go_loopw [8] (fun i wr => ∃ j : Nat, j ≤ l.length ∧ i = .int .i64 j ∧ DT w wr A c l ∧ Own wr 0 (.slice A4 Q.length c4) Q) (fun i _ => l.length - (intOf i).toNat)
      case atStart => exact ⟨0, Nat.zero_le _, rfl, dl, o4⟩
      case round =>
        clear dl o4 o1
        obtain ⟨j, hj, rfl, dl, o4⟩ := hrel
        by_cases hlt : j < l.length
        · skip
          have hi : (j : Int) < (l.length : Int) := by omega
          have hjp : j < Q.length := by have := HQL.out; omega
          have hi2 : (j : Int) < (Q.length : Int) := by omega
          obtain ⟨b1, k1, rfl, _, e1⟩ := o4.sees4.int hjp
          obtain ⟨b, o, rfl, _, e2⟩ := dl.sees.boo hlt
          rw [HQA.out j hjp hlt] at e1
          obtain ⟨x, hx⟩ : ∃ x, x = l[j] := ⟨_, rfl⟩
          rw [← hx] at e1 e2
          clear hx
          cases x
          · skip
            simp only [bit, Bool.false_eq_true, if_false] at e1
            go_wp2
            go_quiet (fail)
            go_wp2
            go_roundw
            case rel => exact ⟨j + 1, by omega, by go_num, dl.drewN _, own_drewN o4 _⟩
            case measure => simp [intOf]; omega
          · skip
            simp only [bit, if_true] at e1
            go_wp2
            go_quiet (fail)
            go_wp2
            go_roundw
            case rel => exact ⟨j + 1, by omega, by go_num, dl.drewN _, own_drewN o4 _⟩
            case measure => simp [intOf]; omega
        · skip
          have hi : ¬ (j : Int) < (l.length : Int) := by omega
          have hpe : ((Q.length : Int) == (l.length : Int)) = true := by have := HQL.out; simp [this]
          go_wp2
          go_ret
          exact ⟨by first | rfl | (simp; done) | (simp; omega), dl.bel⟩
end Go.Proofs.Ythghmpcfiakjgac

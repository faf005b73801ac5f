/-
  The walk of the law FnGoodPath: at every code it returns true and changes nothing that was there. Conditions: none.
-/
import Derived.Test.YthghmpcfiakjgacChkGen
import Derived.Test.YthghmpcfiakjgacChkD
import Derived.Test.YthghmpcfiakjgacLawFrame
import Derived.Test.YthghmpcfiakjgacChkLawMath
import Derived.Test.YthghmpcfiakjgacXGen
namespace Go.Proofs.Ythghmpcfiakjgac
open Go.RowKit Chk

set_option maxHeartbeats 4000000 in
theorem walkGoodPath (a : Option Addr) (len cap : Nat) (zs : List Int) (w : World) (hn : zs.length = len) (hc : len ≤ cap) (hcc : cap ≤ maxLen) (h : Sees w w.heap.size a (byts zs)) (hz : ∀ y ∈ zs, 0 ≤ y ∧ y ≤ 255) :
    Calls Try.prog 3 #[.slice a len cap] w fun e w' => e = .returned (.bool true) ∧ Below w.heap.size w w' := by
  have HE := hid hn
  have HC := hid hcc
  have HZ := hid hz
  clear hn hcc hz
  by_cases hbig : 1048576 < len
  · go_enter Try.func3, Try.ntmps3
    go_wp2
    go_ret
    exact ⟨rfl, Below.refl _ _⟩
  · go_enter Try.func3, Try.ntmps3
    go_wp2_with fail
    refine (drawGoodPath_any _ _ _ _ _ h HZ.out HE.out hc (by omega) HC.out).mono ?_
    rintro e w1 ⟨A, c, l, f, g, rfl, dl⟩
    clear h hbig
    have HCAP := hid dl.cap
    have HLEN := hid dl.len
    obtain ⟨P, hP⟩ : ∃ P, P = path l f g := ⟨_, rfl⟩
    have HP : Hid (path l f g = P) := hid hP.symm
    have hcs := path_cases l f g
    rw [← hP] at hcs
    have HPN := hid (show P.length ≤ 12 by rw [hP]; exact path_len l f g)
    have HEQ : Hid (eqB P P = true) := hid (eqB_iff.2 rfl)
    clear hP
    go_wp2_with fail
    refine (iGoodPath_any A _ c l f g _ rfl dl.sees HCAP.out dl.n4).mono ?_
    rintro e w2 ⟨v1, rfl, ho, hb⟩
    rw [HP.out] at ho
    replace dl := dl.below hb
    obtain ⟨A1, c1, rfl, hc1, _, _⟩ := ho.form4
    have o1 := ho.mono (Nat.zero_le _)
    clear ho hb
    go_wp2_with fail
    refine (sGoodPath_any A _ c l f g _ rfl dl.sees HCAP.out).mono ?_
    rintro e w2 ⟨v2, rfl, ho, hb⟩
    rw [HP.out] at ho
    replace dl := dl.below hb
    replace o1 := o1.below hb
    obtain ⟨A2, c2, rfl, hc2, _, _⟩ := ho.form4
    have o2 := ho.mono (Nat.zero_le _)
    clear ho hb
    go_wp2_with fail
    refine (equalInts_any A1 A2 c1 c2 P P _ o1.sees4 o2.sees4 (Nat.le_trans HPN.out (by decide))).mono ?_
    rintro e w2 ⟨he, hb⟩
    rw [HEQ.out] at he
    subst he
    replace dl := dl.below hb
    replace o1 := o1.below hb
    replace o2 := o2.below hb
    clear hb
    clear o2
    by_cases h0 : P.length = 0
    · skip
      have hP0 : P = [] := List.eq_nil_of_length_eq_zero h0
      have hi0 : ((P.length : Int) == 0) = true := by simp [h0]
      have HI := hid h0
      clear hcs h0 hP0
      go_wp2_with fail
      refine (sGoodPath_any A _ c l f g _ rfl dl.sees HCAP.out).mono ?_
      rintro e w2 ⟨v3, rfl, ho, hb⟩
      rw [HP.out] at ho
      replace dl := dl.below hb
      replace o1 := o1.below hb
      obtain ⟨A3, c3, rfl, hc3, _, _⟩ := ho.form4
      have o3 := ho.mono (Nat.zero_le _)
      clear ho hb
      go_wp2_with fail
      refine (equalInts_any A1 A3 c1 c3 P P _ o1.sees4 o3.sees4 (Nat.le_trans HPN.out (by decide))).mono ?_
      rintro e w2 ⟨he, hb⟩
      rw [HEQ.out] at he
      subst he
      replace dl := dl.below hb
      replace o1 := o1.below hb
      replace o3 := o3.below hb
      clear hb
      go_wp2
      go_ret
      exact ⟨by first | rfl | (simp; done) | (simp; omega), dl.bel⟩
    · skip
      have hi0 : ((P.length : Int) == 0) = false := by rw [beq_eq_false_iff_ne]; omega
      obtain ⟨hck, hpl, hpa⟩ := hcs (by omega)
      have h12 := (chkB_iff.1 hck).1
      have HPA := hid hpa
      have HG := hid (fun (k : Nat) (hk : k ≤ l.length) => goodB_take hck hk)
      have HPL := hid hpl
      clear hck hpa h0 hpl
      have hcap := HCAP.out
      go_wp2
      go_loopw [7] (fun i wr => ∃ j : Nat, j ≤ l.length ∧ i = .int .i64 j ∧ DT w wr A c l ∧ Own wr 0 (.slice A1 P.length c1) P) (fun i _ => l.length - (intOf i).toNat)
      case atStart => exact ⟨0, Nat.zero_le _, rfl, dl, o1⟩
      case round =>
        clear dl o1
        obtain ⟨j, hj, rfl, dl, o1⟩ := hrel
        by_cases hlt : j < l.length
        · skip
          have hi : (j : Int) < (l.length : Int) := by omega
          have hjp : j < P.length := by have := HPL.out; omega
          have hi2 : (j : Int) < (P.length : Int) := by omega
          obtain ⟨b1, k1, rfl, _, e1⟩ := o1.sees4.int hjp
          obtain ⟨b, o, rfl, _, _⟩ := dl.sees.boo hlt
          have hst := dl.sees.btake (j + 1)
          have HTL := hid (show (l.take (j + 1)).length = j + 1 by rw [List.length_take]; omega)
          have HGG := hid (HG.out (j + 1) (by omega))
          rw [HPA.out j hjp] at e1
          obtain ⟨G, hG⟩ : ∃ G, G = gst l f g (j + 1) := ⟨_, rfl⟩
          rw [← hG] at HGG e1
          clear hG
          have q1 : (j : Int) + 1 ≤ (l.length : Int) := by omega
          have q2 : (l.length : Int) ≤ (c : Int) := by omega
          have q3 : (j : Int) + 1 ≤ 13 := by omega
          have q0 : (0 : Int) ≤ (j : Int) + 1 := by omega
          have q4 : IntKind.i64.wrap ((j : Int) + 1) = (j : Int) + 1 := by rw [IntKind.wrap_i64]; omega
          have q5 : ((j : Int) + 1).toNat = j + 1 := by omega
          have q6 : (j : Int) + 1 ≤ (c : Int) := by omega
          have q7 : decide ((P.length : Int) ≤ (j : Int)) = false := decide_eq_false (by omega)
          have q8 : decide (P.length ≤ j) = false := decide_eq_false (by omega)
          cases G
          · skip
            simp only [bit, Bool.false_eq_true, if_false] at e1
            go_wp2
            go_quiet ((go_at_call 12; exact Calls.quiet_of_same (v := .bool false) ((iIsGood_any (some ⟨b, o, none⟩) _ c _ f g _ HTL.out (hst.drewN _) (by rw [HTL.out]; omega) (by rw [HTL.out]; omega)).mono fun _ _ ⟨he, hw⟩ => ⟨by rw [he, HGG.out], hw.symm⟩)))
            go_wp2
            go_roundw
            case rel => exact ⟨j + 1, by omega, by go_num, dl.drewN _, own_drewN o1 _⟩
            case measure => simp [intOf]; omega
          · skip
            simp only [bit, if_true] at e1
            go_wp2
            go_quiet ((go_at_call 12; exact Calls.quiet_of_same (v := .bool true) ((iIsGood_any (some ⟨b, o, none⟩) _ c _ f g _ HTL.out (hst.drewN _) (by rw [HTL.out]; omega) (by rw [HTL.out]; omega)).mono fun _ _ ⟨he, hw⟩ => ⟨by rw [he, HGG.out], hw.symm⟩)))
            go_wp2
            go_roundw
            case rel => exact ⟨j + 1, by omega, by go_num, dl.drewN _, own_drewN o1 _⟩
            case measure => simp [intOf]; omega
        · skip
          have hi : ¬ (j : Int) < (l.length : Int) := by omega
          have hpe : ((P.length : Int) == (l.length : Int)) = true := by have := HPL.out; simp [this]
          go_wp2
          go_ret
          exact ⟨by first | rfl | (simp; done) | (simp; omega), dl.bel⟩
end Go.Proofs.Ythghmpcfiakjgac

/-
  The walk of the law FnGoodPathShort: at every code it returns true and changes nothing that was there. Conditions: none.
-/
import Derived.Test.YthghmpcfiakjgacChkGen
import Derived.Test.YthghmpcfiakjgacChkD
import Derived.Test.YthghmpcfiakjgacLawFrame
import Derived.Test.YthghmpcfiakjgacChkLawMath
import Derived.Test.YthghmpcfiakjgacXGen
import Derived.Deep.RegionHeld3
namespace Go.Proofs.Ythghmpcfiakjgac
open Go.RowKit Chk

set_option maxHeartbeats 4000000 in
theorem walkGoodPathShort (a : Option Addr) (len cap : Nat) (zs : List Int) (w : World) (hn : zs.length = len) (hc : len ≤ cap) (hcc : cap ≤ maxLen) (h : Sees w w.heap.size a (byts zs)) (hz : ∀ y ∈ zs, 0 ≤ y ∧ y ≤ 255) :
    Calls Try.prog 5 #[.slice a len cap] w fun e w' => e = .returned (.bool true) ∧ Below w.heap.size w w' := by
  have HE := hid hn
  have HC := hid hcc
  have HZ := hid hz
  clear hn hcc hz
  by_cases hbig : 1048576 < len
  · go_enter Try.func5, Try.ntmps5
    go_wp2
    go_ret
    exact ⟨rfl, Below.refl _ _⟩
  · go_enter Try.func5, Try.ntmps5
    go_wp2_with fail
    refine (drawGoodPath_any _ _ _ _ _ h HZ.out HE.out hc (by omega) HC.out).mono ?_
    rintro e w1 ⟨A, c, l, f, g, rfl, dl⟩
    clear h hbig
    have HCAP := hid dl.cap
    have HLEN := hid dl.len
    obtain ⟨P, hP⟩ : ∃ P, P = path l f g := ⟨_, rfl⟩
    have HP : Hid (path l f g = P) := hid hP.symm
    have hcs := path_cases l f g
    rw [← hP] at hcs
    have HPN := hid (show P.length ≤ 12 by rw [hP]; exact path_len l f g)
    have HEQ : Hid (eqB P P = true) := hid (eqB_iff.2 rfl)
    clear hP
    go_wp2_with fail
    refine (iGoodPath_any A _ c l f g _ rfl dl.sees HCAP.out dl.n4).mono ?_
    rintro e w2 ⟨v1, rfl, ho, hb⟩
    rw [HP.out] at ho
    replace dl := dl.below hb
    obtain ⟨A1, c1, rfl, hc1, _, _⟩ := ho.form4
    have o1 := ho.mono (Nat.zero_le _)
    clear ho hb
    go_wp2_with fail
    refine (sGoodPath_any A _ c l f g _ rfl dl.sees HCAP.out).mono ?_
    rintro e w2 ⟨v2, rfl, ho, hb⟩
    rw [HP.out] at ho
    replace dl := dl.below hb
    replace o1 := o1.below hb
    obtain ⟨A2, c2, rfl, hc2, _, _⟩ := ho.form4
    have o2 := ho.mono (Nat.zero_le _)
    clear ho hb
    go_wp2_with fail
    refine (equalInts_any A1 A2 c1 c2 P P _ o1.sees4 o2.sees4 (Nat.le_trans HPN.out (by decide))).mono ?_
    rintro e w2 ⟨he, hb⟩
    rw [HEQ.out] at he
    subst he
    replace dl := dl.below hb
    replace o1 := o1.below hb
    replace o2 := o2.below hb
    clear hb
    clear o2
    by_cases h0 : P.length = 0
    · skip
      have hP0 : P = [] := List.eq_nil_of_length_eq_zero h0
      have hi0 : ((P.length : Int) == 0) = true := by simp [h0]
      have HI := hid h0
      clear hcs h0 hP0
      go_wp2_with fail
      refine (sGoodPath_any A _ c l f g _ rfl dl.sees HCAP.out).mono ?_
      rintro e w2 ⟨v3, rfl, ho, hb⟩
      rw [HP.out] at ho
      replace dl := dl.below hb
      replace o1 := o1.below hb
      obtain ⟨A3, c3, rfl, hc3, _, _⟩ := ho.form4
      have o3 := ho.mono (Nat.zero_le _)
      clear ho hb
      go_wp2_with fail
      refine (equalInts_any A1 A3 c1 c3 P P _ o1.sees4 o3.sees4 (Nat.le_trans HPN.out (by decide))).mono ?_
      rintro e w2 ⟨he, hb⟩
      rw [HEQ.out] at he
      subst he
      replace dl := dl.below hb
      replace o1 := o1.below hb
      replace o3 := o3.below hb
      clear hb
      go_wp2
      go_ret
      exact ⟨by first | rfl | (simp; done) | (simp; omega), dl.bel⟩
    · skip
      have hi0 : ((P.length : Int) == 0) = false := by rw [beq_eq_false_iff_ne]; omega
      obtain ⟨hck, hpl, hpa⟩ := hcs (by omega)
      have h12 := (chkB_iff.1 hck).1
      have hl0 : 0 < l.length := by omega
      have HS := hid (short_path hck HP.out)
      have HPL := hid hpl
      clear hck hpa h0 hpl
      have hcap := HCAP.out
      have hst := dl.drew.sees.btake (l.length - 1)
      have HTL := hid (show (l.take (l.length - 1)).length = l.length - 1 by rw [List.length_take]; omega)
      have HT2 := hid (show (P.take (l.length - 1)).length = l.length - 1 by rw [List.length_take]; have := HPL.out; omega)
      have HQN := hid (show (P.take (l.length - 1)).length ≤ 4611686018427387904 by rw [HT2.out]; omega)
      have HE2 := hid (show eqB (P.take (l.length - 1)) (P.take (l.length - 1)) = true from eqB_iff.2 rfl)
      have q1 : (0 : Int) ≤ (l.length : Int) - 1 := by omega
      have q2 : (l.length : Int) - 1 ≤ (l.length : Int) := by omega
      have q3 : (l.length : Int) ≤ (c : Int) := by omega
      have q4 : ((l.length : Int) - 1).toNat = l.length - 1 := by omega
      have q5 : IntKind.i64.wrap ((l.length : Int) - 1) = (l.length : Int) - 1 := by rw [IntKind.wrap_i64]; omega
      have q6 : (l.length : Int) - 1 ≤ (P.length : Int) := by have := HPL.out; omega
      have q7 : (P.length : Int) ≤ (c1 : Int) := by omega
      have q8 : (l.length : Int) - 1 ≤ 12 := by omega
      have q9 : (1 : Int) ≤ (l.length : Int) := by omega
      have q10 : (l.length : Int) - 1 ≤ (c : Int) := by omega
      have q11 : (l.length : Int) - 1 ≤ (c1 : Int) := by omega
      have q12 : (1 : Int) ≤ (P.length : Int) := by have := HPL.out; omega
      obtain ⟨b, o, rfl, _, _⟩ := dl.sees.boo hl0
      obtain ⟨b1, k1, rfl, _, _⟩ := o1.sees4.int (show 0 < P.length by have := HPL.out; omega)
      have dl1 := dl.drew
      have o1d := o1.below (Below.refl _ _).drew
      go_wp2_with fail
      go_region_held3 (fun _ => True) (trivial)
        (first
          | (go_at_call 9; (with_reducible refine (iGoodPath_any _ _ c _ f g _ HTL.out hst (by rw [HTL.out]; omega) (by rw [HTL.out]; omega)).mono ?_); rintro e w3 ⟨v3, rfl, ho, hb⟩; rw [HS.out] at ho; obtain ⟨A3, c3, rfl, _, _, hs3⟩ := ho.form4; rw [HT2.out]; have dl2 := dl1.below hb; have o2 := o1d.below hb; have hs1 := take_sees o2 (l.length - 1))
          | (go_at_call 10; (with_reducible refine (equalInts_len HT2.out HT2.out hs3 hs1 HQN.out).mono ?_); rintro e w4 ⟨he, hb4⟩; rw [HE2.out] at he; subst he; have dl3 := dl2.below hb4)
          | fail)
      all_goals (go_wp2; go_ret; exact ⟨rfl, dl3.bel⟩)
end Go.Proofs.Ythghmpcfiakjgac

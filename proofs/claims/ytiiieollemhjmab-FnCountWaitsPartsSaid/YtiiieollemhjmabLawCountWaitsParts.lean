/-
  The walk of the law FnCountWaitsParts: at every code it returns true and changes nothing that was there. Conditions: none.
-/
import Derived.Test.YtiiieollemhjmabLawWtB
import Derived.Test.YtiiieollemhjmabLawFrame
import Derived.BigQuiet

namespace Go.Proofs.Ytiiieollemhjmab
open Go.RowKit Wt

set_option maxHeartbeats 8000000 in
theorem walkCountWaitsParts (a : Option Addr) (len cap : Nat) (zs : List Int) (w : World) (hn : zs.length = len) (hc : len ≤ cap) (hcc : cap ≤ maxLen) (h : Sees w w.heap.size a (byts zs)) (hz : ∀ y ∈ zs, 0 ≤ y ∧ y ≤ 255) :
    Calls Try.prog 6 #[.slice a len cap] w fun e w' => e = .returned (.bool true) ∧ Below w.heap.size w w' := by
  have HE := hid hn
  have HC := hid hcc
  have HZ := hid hz
  clear hn hcc hz
  by_cases hbig : 1048576 < len
  · go_enter Try.func6, Try.ntmps6
    go_wp2
    go_ret
    exact ⟨rfl, Below.refl _ _⟩
  · go_enter Try.func6, Try.ntmps6
    go_wp2_with fail
    refine (drawCountWaits_any _ _ _ _ _ h HZ.out HE.out hc (by omega) HC.out).mono ?_
    rintro e w2 ⟨A, c, l, rfl, dl⟩
    have HV8 := hid (Nat.le_trans (cntW_len l) (by decide) : (cntW l).length ≤ 4194304)
    have HW8 := hid (fun (K : waitsB l = true) => waits_empty K)
    have HW0 := hid (fun (K : waitsB l = false) => waits_none K)
    have HYS := hid (fun (K : waitsB l = true) => cntW_yes K)
    have HVL := hid (fun (K : waitsB l = true) => cntW_valid K)
    have HPA := hid (fun (K : waitsB l = true) => parts_add K (l.length / 2))
    obtain ⟨V, hV⟩ : ∃ V, V = cntW l := ⟨_, rfl⟩
    have EV : Hid (cntW l = V) := hid hV.symm
    rw [← hV] at HV8 HW8 HW0 HYS HVL HPA
    clear hV
    rcases hw : waitsB l with _ | _
    · skip
      have hl0 := HW0.out hw
      have hl0b : ((V.length : Int) == 0) = true := by simp [hl0]
      have HL0 := hid hl0
      clear hl0 hw
      go_wp2_with fail
      refine (iCountWaits_any A c l _ dl.sees dl.n4).mono ?_
      rintro e w3 he
      obtain ⟨A1, c1, he, ho1, hb⟩ := CwAns.get he
      rw [EV.out] at he ho1
      subst he
      replace dl := dl.below hb
      clear hb
      go_wp2_with fail
      refine (sCountWaits_any A c l _ dl.sees dl.n4).mono ?_
      rintro e w4 he
      obtain ⟨A2, c2, he, ho2, hb⟩ := CwAns.get he
      rw [EV.out] at he ho2
      subst he
      replace dl := dl.below hb
      replace ho1 := ho1.below hb
      clear hb
      go_wp2_with fail
      refine (equalInts_same A1 A2 c1 c2 V _ ho1.seesW ho2.seesW HV8.out).mono ?_
      rintro e w5 ⟨rfl, hb⟩
      replace dl := dl.below hb
      replace ho1 := ho1.below hb
      replace ho2 := ho2.below hb
      clear hb
      go_wp2_with fail
      refine (sCountWaits_any A c l _ dl.sees dl.n4).mono ?_
      rintro e w6 he
      obtain ⟨A3, c3, he, ho3, hb⟩ := CwAns.get he
      rw [EV.out] at he ho3
      subst he
      replace dl := dl.below hb
      replace ho1 := ho1.below hb
      replace ho2 := ho2.below hb
      clear hb
      go_wp2_with fail
      refine (equalInts_same A1 A3 c1 c3 V _ ho1.seesW ho3.seesW HV8.out).mono ?_
      rintro e w7 ⟨rfl, hb⟩
      replace dl := dl.below hb
      replace ho1 := ho1.below hb
      replace ho2 := ho2.below hb
      replace ho3 := ho3.below hb
      clear hb
      go_wp2
      go_ret
      exact ⟨by first | rfl | (simp; done) | (simp; omega), dl.bel⟩
    · skip
      have hl8 := HW8.out hw
      have hl0b : ((V.length : Int) == 0) = false := beq_eq_false_iff_ne.2 (by omega)
      have HL8 := hid hl8
      obtain ⟨p1, p2⟩ := HPA.out hw
      clear hl8 hw
      go_wp2_with fail
      refine (iCountWaits_any A c l _ dl.sees dl.n4).mono ?_
      rintro e w3 he
      obtain ⟨A1, c1, he, ho1, hb⟩ := CwAns.get he
      rw [EV.out] at he ho1
      subst he
      replace dl := dl.below hb
      clear hb
      go_wp2_with fail
      refine (sCountWaits_any A c l _ dl.sees dl.n4).mono ?_
      rintro e w4 he
      obtain ⟨A2, c2, he, ho2, hb⟩ := CwAns.get he
      rw [EV.out] at he ho2
      subst he
      replace dl := dl.below hb
      replace ho1 := ho1.below hb
      clear hb
      go_wp2_with fail
      refine (equalInts_same A1 A2 c1 c2 V _ ho1.seesW ho2.seesW HV8.out).mono ?_
      rintro e w5 ⟨rfl, hb⟩
      replace dl := dl.below hb
      replace ho1 := ho1.below hb
      replace ho2 := ho2.below hb
      clear hb
      clear ho2
      have h18 := dl.n18
      have hcap := dl.cap
      obtain ⟨m, hm⟩ : ∃ m : Nat, m = l.length / 2 := ⟨_, rfl⟩
      have hq : (l.length : Int) / 2 = (m : Int) := by omega
      have hml : m ≤ l.length := by omega
      have hmc : m ≤ c := by omega
      rw [← hm] at p1 p2
      have HT := hid (show (l.take m).length = m by rw [List.length_take]; omega)
      have HD := hid (show (l.drop m).length = l.length - m from List.length_drop)
      have e1 : (0 : Int) ≤ (m : Int) := by omega
      have e2 : (m : Int) ≤ (l.length : Int) := by omega
      have e3 : (m : Int) ≤ (c : Int) := by omega
      have e4 : (l.length : Int) ≤ (c : Int) := by omega
      have HM := hid hm
      clear hm
      have s1 := dl.sees.take m
      have s2 := sees_addW dl.sees m
      have S1 := hid (show Sees _ _ A (ints (l.take m)) by rw [show ints (l.take m) = (ints l).take m by simp [ints]]; exact s1)
      have S2 := hid s2
      clear s1 s2
      obtain ⟨P, hP⟩ : ∃ P, P = cntW (l.take m) := ⟨_, rfl⟩
      have EP : Hid (cntW (l.take m) = P) := hid hP.symm
      obtain ⟨Q, hQ⟩ : ∃ Q, Q = cntW (l.drop m) := ⟨_, rfl⟩
      have EQ : Hid (cntW (l.drop m) = Q) := hid hQ.symm
      have HP8 := hid (show P.length ≤ 4194304 by rw [hP]; exact Nat.le_trans (cntW_len _) (by decide))
      have HQ8 := hid (show Q.length ≤ 4194304 by rw [hQ]; exact Nat.le_trans (cntW_len _) (by decide))
      rw [← hP, ← hQ] at p1 p2
      have H1 := hid p1
      have H2 := hid p2
      clear hP hQ p1 p2
      have HTn := hid (show (l.take m).length ≤ 4194304 by rw [HT.out]; omega)
      have HDn := hid (show (l.drop m).length ≤ 4194304 by rw [HD.out]; omega)
      by_cases hmc2 : m = c
      · skip
        have hl0 : l.length = 0 := by omega
        have hc0 : c = 0 := by omega
        have hm0 : m = 0 := by omega
        obtain rfl : l = [] := List.eq_nil_of_length_eq_zero hl0
        subst hm0
        subst hc0
        have dld := dl.drew
        have ho1d := ho1.below (Below.refl _ _).drew
        have Z0 := hid (show ([] : List Int).length = 0 from rfl)
        have Z4 := hid (show ([] : List Int).length ≤ 4194304 by decide)
        have EQ2 : Hid (cntW [] = Q) := hid EQ.out
        have EP2 : Hid (cntW [] = P) := hid EP.out
        have HPQ : Hid (P = Q) := hid (EP2.out.symm.trans EQ2.out)
        go_wp2_with fail
        go_region_held3 (fun _ => True)
          (first | with_reducible exact trivial | go_keep)
          (first
            | (go_at_call 19; (with_reducible refine (iCountWaits_len (w := w5.drew) (l := []) (n := 0) Z0.out Sees.nil Z4.out).mono ?_); rintro e w7 he; obtain ⟨A7, c7, he, ho7, hb7⟩ := CwAns.get he; rw [EQ2.out] at he ho7; subst he; have dl7 := dld.below hb7; have ho17 := ho1d.below hb7)
            | (go_at_call 19; (with_reducible refine (iCountWaits_len (w := w7) (l := []) (n := 0) Z0.out Sees.nil Z4.out).mono ?_); rintro e w8 he; obtain ⟨A8, c8, he, ho8, hb8⟩ := CwAns.get he; rw [EQ2.out] at he ho8; subst he; have hoP := ho7.below hb8; have dl9 := dl7.below hb8; have ho19 := ho17.below hb8)
            | (go_at_call 23; (with_reducible refine (iAddCounts_any Q Q A7 A8 c7 c8 _ hoP.seesW ho8.seesW HQ8.out HQ8.out).mono ?_); rintro e w9 ⟨A9, c9, he, ho9, hb9⟩; have H1q := H1.out; have H2q := H2.out; rw [HPQ.out] at H1q H2q; rw [H1q, H2q] at he; rw [H2q] at ho9; subst he; have dlA := dl9.below hb9; have ho1A := ho19.below hb9)
            | (go_at_call 23; (with_reducible refine (iAddCounts_any Q Q A8 A7 c8 c7 _ ho8.seesW hoP.seesW HQ8.out HQ8.out).mono ?_); rintro e w9 ⟨A9, c9, he, ho9, hb9⟩; have H1q := H1.out; have H2q := H2.out; rw [HPQ.out] at H1q H2q; rw [H1q, H2q] at he; rw [H2q] at ho9; subst he; have dlA := dl9.below hb9; have ho1A := ho19.below hb9)
            | fail)
        all_goals
          go_wp2_with fail
          with_reducible refine (equalInts_same A9 A1 c9 c1 V _ ho9.seesW ho1A.seesW HV8.out).mono ?_
          rintro e w10 ⟨rfl, hb10⟩
          have dlB := dlA.below hb10
          go_wp2
          go_ret
          exact ⟨by first | rfl | (simp; done) | (simp; omega), dlB.bel⟩
      · skip
        have hmc3 : ¬ c = m := fun e => hmc2 e.symm
        have S1d := S1.out.drew
        have S2d := S2.out.drew
        have dld := dl.drew
        have ho1d := ho1.below (Below.refl _ _).drew
        go_wp2_with fail
        go_region_held3 (fun _ => True)
          (first | with_reducible exact trivial | go_keep)
          (first
            | (go_at_call 19; (with_reducible refine (iCountWaits_len HT.out S1d HTn.out).mono ?_); rintro e w7 he; obtain ⟨A7, c7, he, ho7, hb7⟩ := CwAns.get he; rw [EP.out] at he ho7; subst he; have S2x := (S2d.below hb7).more hb7.size; have dl7 := dld.below hb7; have ho17 := ho1d.below hb7)
            | (go_at_call 19; (with_reducible refine (iCountWaits_len HD.out S2d HDn.out).mono ?_); rintro e w8 he; obtain ⟨A8, c8, he, ho8, hb8⟩ := CwAns.get he; rw [EQ.out] at he ho8; subst he; have S1x := (S1d.below hb8).more hb8.size; have dl7 := dld.below hb8; have ho17 := ho1d.below hb8)
            | (go_at_call 19; (with_reducible refine (iCountWaits_len HT.out S1x HTn.out).mono ?_); rintro e w7 he; obtain ⟨A7, c7, he, ho7, hb7⟩ := CwAns.get he; rw [EP.out] at he ho7; subst he; have hoQ := ho8.below hb7; have hoP := ho7; have dl9 := dl7.below hb7; have ho19 := ho17.below hb7)
            | (go_at_call 19; (with_reducible refine (iCountWaits_len HD.out S2x HDn.out).mono ?_); rintro e w8 he; obtain ⟨A8, c8, he, ho8, hb8⟩ := CwAns.get he; rw [EQ.out] at he ho8; subst he; have hoP := ho7.below hb8; have hoQ := ho8; have dl9 := dl7.below hb8; have ho19 := ho17.below hb8)
            | (go_at_call 23; (with_reducible refine (iAddCounts_any P Q A7 A8 c7 c8 _ hoP.seesW hoQ.seesW HP8.out HQ8.out).mono ?_); rintro e w9 ⟨A9, c9, he, ho9, hb9⟩; rw [H1.out, H2.out] at he; rw [H2.out] at ho9; subst he; have dlA := dl9.below hb9; have ho1A := ho19.below hb9)
            | fail)
        all_goals
          go_wp2_with fail
          with_reducible refine (equalInts_same A9 A1 c9 c1 V _ ho9.seesW ho1A.seesW HV8.out).mono ?_
          rintro e w10 ⟨rfl, hb10⟩
          have dlB := dlA.below hb10
          go_wp2
          go_ret
          exact ⟨by first | rfl | (simp; done) | (simp; omega), dlB.bel⟩
end Go.Proofs.Ytiiieollemhjmab

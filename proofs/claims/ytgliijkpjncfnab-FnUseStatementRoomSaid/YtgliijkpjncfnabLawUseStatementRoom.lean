/-
  The walk of the law FnUseStatementRoom: at every code it returns true and changes nothing that was there. Conditions: none.
-/
import Derived.Test.YtgliijkpjncfnabLawCa
import Derived.Test.YtgliijkpjncfnabLawFrame
import Derived.BigQuiet

namespace Go.Proofs.Ytgliijkpjncfnab
open Go.RowKit Cac

set_option maxHeartbeats 8000000 in
theorem walkUseStatementRoom (a : Option Addr) (len cap : Nat) (zs : List Int) (w : World) (hn : zs.length = len) (hc : len ≤ cap) (hcc : cap ≤ maxLen) (h : Sees w w.heap.size a (byts zs)) (hz : ∀ y ∈ zs, 0 ≤ y ∧ y ≤ 255) :
    Calls Try.prog 5 #[.slice a len cap] w fun e w' => e = .returned (.bool true) ∧ Below w.heap.size w w' := by
  have HE := hid hn
  have HC := hid hcc
  have HZ := hid hz
  clear hn hcc hz
  by_cases hbig : 1048576 < len
  · go_enter Try.func5, Try.ntmps5
    go_wp2
    go_ret
    exact ⟨rfl, Below.refl _ _⟩
  · go_enter Try.func5, Try.ntmps5
    go_wp2_with fail
    refine (drawUseStatement_any _ _ _ _ _ h HZ.out HE.out hc (by omega) HC.out).mono ?_
    rintro e w2 ⟨B, d, C, i, rfl, dl⟩
    obtain ⟨R, hR⟩ : ∃ R, R = useS C i := ⟨_, rfl⟩
    have ER : Hid (useS C i = R) := hid hR.symm
    have HRl := hid (show R.n.length ≤ 4194304 by rw [hR]; exact Nat.le_trans (useS_len C i) (by decide))
    have HR := hid hR
    clear hR
    obtain ⟨K, hK⟩ : ∃ K, K = hitB C i := ⟨_, rfl⟩
    have EK : Hid (hitB C i = K) := hid hK.symm
    have HK := hid hK
    clear hK
    rcases hv : cacheB C with _ | _
    · skip
      have HV := hid hv
      clear hv
      replace dl := dl.alloc (.cells #[.int .i64 C.r, .slice B C.n.length d] 25)
      have pc := At.new w2 25 #[.int .i64 C.r, .slice B C.n.length d]
      obtain ⟨pc0, pc1, pcl, pcf⟩ := pc.two
      go_wp2_with fail
      refine (iUseStatement_any C i B d _ dl.sees dl.cap dl.n4).mono ?_
      rintro e w3 ⟨A1, c1, he, ho1, hb⟩
      rw [ER.out, EK.out] at he
      rw [ER.out] at ho1
      subst he
      clear pc0 pc1 pcl pcf
      replace dl := dl.below hb
      replace pc := pc.below hb pc.lt
      clear hb
      replace dl := dl.alloc (.cells #[.int .i64 R.r, .slice A1 R.n.length c1] 25)
      replace ho1 := ho1.alloc (.cells #[.int .i64 R.r, .slice A1 R.n.length c1] 25)
      replace pc := pc.alloc (.cells #[.int .i64 R.r, .slice A1 R.n.length c1] 25)
      have po := At.new w3 25 #[.int .i64 R.r, .slice A1 R.n.length c1]
      obtain ⟨pc0, pc1, pcl, pcf⟩ := pc.two
      obtain ⟨po0, po1, pol, pof⟩ := po.two
      go_wp2_with fail
      refine (sUseStatement_any C i B d _ dl.sees dl.n4).mono ?_
      rintro e w4 ⟨A2, c2, he, ho2, hb⟩
      rw [ER.out, EK.out] at he
      rw [ER.out] at ho2
      subst he
      clear pc0 pc1 pcl pcf
      clear po0 po1 pol pof
      replace dl := dl.below hb
      replace ho1 := ho1.below hb
      replace pc := pc.below hb pc.lt
      replace po := po.below hb po.lt
      clear hb
      replace dl := dl.alloc (.cells #[.int .i64 R.r, .slice A2 R.n.length c2] 25)
      replace ho1 := ho1.alloc (.cells #[.int .i64 R.r, .slice A2 R.n.length c2] 25)
      replace ho2 := ho2.alloc (.cells #[.int .i64 R.r, .slice A2 R.n.length c2] 25)
      replace pc := pc.alloc (.cells #[.int .i64 R.r, .slice A2 R.n.length c2] 25)
      replace po := po.alloc (.cells #[.int .i64 R.r, .slice A2 R.n.length c2] 25)
      have pw := At.new w4 25 #[.int .i64 R.r, .slice A2 R.n.length c2]
      obtain ⟨pc0, pc1, pcl, pcf⟩ := pc.two
      obtain ⟨po0, po1, pol, pof⟩ := po.two
      obtain ⟨pw0, pw1, pwl, pwf⟩ := pw.two
      go_wp2_with fail
      refine (equalCache_same A1 A2 c1 c2 R _ ho1.sees ho2.sees HRl.out).mono ?_
      rintro e w5 ⟨rfl, hb⟩
      clear pc0 pc1 pcl pcf
      clear po0 po1 pol pof
      clear pw0 pw1 pwl pwf
      replace dl := dl.below hb
      replace ho1 := ho1.below hb
      replace ho2 := ho2.below hb
      replace pc := pc.below hb pc.lt
      replace po := po.below hb po.lt
      replace pw := pw.below hb pw.lt
      clear hb
      obtain ⟨pc0, pc1, pcl, pcf⟩ := pc.two
      obtain ⟨po0, po1, pol, pof⟩ := po.two
      obtain ⟨pw0, pw1, pwl, pwf⟩ := pw.two
      go_wp2_with fail
      refine (iValidCache_any C B d _ dl.sees dl.cap dl.n4).mono ?_
      rintro e w6 ⟨he, hb⟩
      rw [HV.out] at he
      subst he
      clear pc0 pc1 pcl pcf
      clear po0 po1 pol pof
      clear pw0 pw1 pwl pwf
      replace dl := dl.below hb
      replace ho1 := ho1.below hb
      replace ho2 := ho2.below hb
      replace pc := pc.below hb pc.lt
      replace po := po.below hb po.lt
      replace pw := pw.below hb pw.lt
      clear hb
      obtain ⟨pc0, pc1, pcl, pcf⟩ := pc.two
      obtain ⟨po0, po1, pol, pof⟩ := po.two
      obtain ⟨pw0, pw1, pwl, pwf⟩ := pw.two
      go_wp2_with fail
      refine (equalCache_same A1 A2 c1 c2 R _ ho1.sees ho2.sees HRl.out).mono ?_
      rintro e w7 ⟨rfl, hb⟩
      clear pc0 pc1 pcl pcf
      clear po0 po1 pol pof
      clear pw0 pw1 pwl pwf
      replace dl := dl.below hb
      replace ho1 := ho1.below hb
      replace ho2 := ho2.below hb
      replace pc := pc.below hb pc.lt
      replace po := po.below hb po.lt
      replace pw := pw.below hb pw.lt
      clear hb
      obtain ⟨pc0, pc1, pcl, pcf⟩ := pc.two
      obtain ⟨po0, po1, pol, pof⟩ := po.two
      obtain ⟨pw0, pw1, pwl, pwf⟩ := pw.two
      go_wp2
      go_ret
      exact ⟨by simp, dl.bel⟩
    by_cases hi0 : i < 0
    · skip
      have HV := hid hv
      clear hv
      replace dl := dl.alloc (.cells #[.int .i64 C.r, .slice B C.n.length d] 25)
      have pc := At.new w2 25 #[.int .i64 C.r, .slice B C.n.length d]
      obtain ⟨pc0, pc1, pcl, pcf⟩ := pc.two
      go_wp2_with fail
      refine (iUseStatement_any C i B d _ dl.sees dl.cap dl.n4).mono ?_
      rintro e w3 ⟨A1, c1, he, ho1, hb⟩
      rw [ER.out, EK.out] at he
      rw [ER.out] at ho1
      subst he
      clear pc0 pc1 pcl pcf
      replace dl := dl.below hb
      replace pc := pc.below hb pc.lt
      clear hb
      replace dl := dl.alloc (.cells #[.int .i64 R.r, .slice A1 R.n.length c1] 25)
      replace ho1 := ho1.alloc (.cells #[.int .i64 R.r, .slice A1 R.n.length c1] 25)
      replace pc := pc.alloc (.cells #[.int .i64 R.r, .slice A1 R.n.length c1] 25)
      have po := At.new w3 25 #[.int .i64 R.r, .slice A1 R.n.length c1]
      obtain ⟨pc0, pc1, pcl, pcf⟩ := pc.two
      obtain ⟨po0, po1, pol, pof⟩ := po.two
      go_wp2_with fail
      refine (sUseStatement_any C i B d _ dl.sees dl.n4).mono ?_
      rintro e w4 ⟨A2, c2, he, ho2, hb⟩
      rw [ER.out, EK.out] at he
      rw [ER.out] at ho2
      subst he
      clear pc0 pc1 pcl pcf
      clear po0 po1 pol pof
      replace dl := dl.below hb
      replace ho1 := ho1.below hb
      replace pc := pc.below hb pc.lt
      replace po := po.below hb po.lt
      clear hb
      replace dl := dl.alloc (.cells #[.int .i64 R.r, .slice A2 R.n.length c2] 25)
      replace ho1 := ho1.alloc (.cells #[.int .i64 R.r, .slice A2 R.n.length c2] 25)
      replace ho2 := ho2.alloc (.cells #[.int .i64 R.r, .slice A2 R.n.length c2] 25)
      replace pc := pc.alloc (.cells #[.int .i64 R.r, .slice A2 R.n.length c2] 25)
      replace po := po.alloc (.cells #[.int .i64 R.r, .slice A2 R.n.length c2] 25)
      have pw := At.new w4 25 #[.int .i64 R.r, .slice A2 R.n.length c2]
      obtain ⟨pc0, pc1, pcl, pcf⟩ := pc.two
      obtain ⟨po0, po1, pol, pof⟩ := po.two
      obtain ⟨pw0, pw1, pwl, pwf⟩ := pw.two
      go_wp2_with fail
      refine (equalCache_same A1 A2 c1 c2 R _ ho1.sees ho2.sees HRl.out).mono ?_
      rintro e w5 ⟨rfl, hb⟩
      clear pc0 pc1 pcl pcf
      clear po0 po1 pol pof
      clear pw0 pw1 pwl pwf
      replace dl := dl.below hb
      replace ho1 := ho1.below hb
      replace ho2 := ho2.below hb
      replace pc := pc.below hb pc.lt
      replace po := po.below hb po.lt
      replace pw := pw.below hb pw.lt
      clear hb
      obtain ⟨pc0, pc1, pcl, pcf⟩ := pc.two
      obtain ⟨po0, po1, pol, pof⟩ := po.two
      obtain ⟨pw0, pw1, pwl, pwf⟩ := pw.two
      go_wp2_with fail
      refine (iValidCache_any C B d _ dl.sees dl.cap dl.n4).mono ?_
      rintro e w6 ⟨he, hb⟩
      rw [HV.out] at he
      subst he
      clear pc0 pc1 pcl pcf
      clear po0 po1 pol pof
      clear pw0 pw1 pwl pwf
      replace dl := dl.below hb
      replace ho1 := ho1.below hb
      replace ho2 := ho2.below hb
      replace pc := pc.below hb pc.lt
      replace po := po.below hb po.lt
      replace pw := pw.below hb pw.lt
      clear hb
      obtain ⟨pc0, pc1, pcl, pcf⟩ := pc.two
      obtain ⟨po0, po1, pol, pof⟩ := po.two
      obtain ⟨pw0, pw1, pwl, pwf⟩ := pw.two
      go_wp2_with fail
      refine (equalCache_same A1 A2 c1 c2 R _ ho1.sees ho2.sees HRl.out).mono ?_
      rintro e w7 ⟨rfl, hb⟩
      clear pc0 pc1 pcl pcf
      clear po0 po1 pol pof
      clear pw0 pw1 pwl pwf
      replace dl := dl.below hb
      replace ho1 := ho1.below hb
      replace ho2 := ho2.below hb
      replace pc := pc.below hb pc.lt
      replace po := po.below hb po.lt
      replace pw := pw.below hb pw.lt
      clear hb
      obtain ⟨pc0, pc1, pcl, pcf⟩ := pc.two
      obtain ⟨po0, po1, pol, pof⟩ := po.two
      obtain ⟨pw0, pw1, pwl, pwf⟩ := pw.two
      go_wp2
      go_ret
      exact ⟨by simp, dl.bel⟩
    by_cases hi9 : i > 9
    · skip
      have HV := hid hv
      clear hv
      replace dl := dl.alloc (.cells #[.int .i64 C.r, .slice B C.n.length d] 25)
      have pc := At.new w2 25 #[.int .i64 C.r, .slice B C.n.length d]
      obtain ⟨pc0, pc1, pcl, pcf⟩ := pc.two
      go_wp2_with fail
      refine (iUseStatement_any C i B d _ dl.sees dl.cap dl.n4).mono ?_
      rintro e w3 ⟨A1, c1, he, ho1, hb⟩
      rw [ER.out, EK.out] at he
      rw [ER.out] at ho1
      subst he
      clear pc0 pc1 pcl pcf
      replace dl := dl.below hb
      replace pc := pc.below hb pc.lt
      clear hb
      replace dl := dl.alloc (.cells #[.int .i64 R.r, .slice A1 R.n.length c1] 25)
      replace ho1 := ho1.alloc (.cells #[.int .i64 R.r, .slice A1 R.n.length c1] 25)
      replace pc := pc.alloc (.cells #[.int .i64 R.r, .slice A1 R.n.length c1] 25)
      have po := At.new w3 25 #[.int .i64 R.r, .slice A1 R.n.length c1]
      obtain ⟨pc0, pc1, pcl, pcf⟩ := pc.two
      obtain ⟨po0, po1, pol, pof⟩ := po.two
      go_wp2_with fail
      refine (sUseStatement_any C i B d _ dl.sees dl.n4).mono ?_
      rintro e w4 ⟨A2, c2, he, ho2, hb⟩
      rw [ER.out, EK.out] at he
      rw [ER.out] at ho2
      subst he
      clear pc0 pc1 pcl pcf
      clear po0 po1 pol pof
      replace dl := dl.below hb
      replace ho1 := ho1.below hb
      replace pc := pc.below hb pc.lt
      replace po := po.below hb po.lt
      clear hb
      replace dl := dl.alloc (.cells #[.int .i64 R.r, .slice A2 R.n.length c2] 25)
      replace ho1 := ho1.alloc (.cells #[.int .i64 R.r, .slice A2 R.n.length c2] 25)
      replace ho2 := ho2.alloc (.cells #[.int .i64 R.r, .slice A2 R.n.length c2] 25)
      replace pc := pc.alloc (.cells #[.int .i64 R.r, .slice A2 R.n.length c2] 25)
      replace po := po.alloc (.cells #[.int .i64 R.r, .slice A2 R.n.length c2] 25)
      have pw := At.new w4 25 #[.int .i64 R.r, .slice A2 R.n.length c2]
      obtain ⟨pc0, pc1, pcl, pcf⟩ := pc.two
      obtain ⟨po0, po1, pol, pof⟩ := po.two
      obtain ⟨pw0, pw1, pwl, pwf⟩ := pw.two
      go_wp2_with fail
      refine (equalCache_same A1 A2 c1 c2 R _ ho1.sees ho2.sees HRl.out).mono ?_
      rintro e w5 ⟨rfl, hb⟩
      clear pc0 pc1 pcl pcf
      clear po0 po1 pol pof
      clear pw0 pw1 pwl pwf
      replace dl := dl.below hb
      replace ho1 := ho1.below hb
      replace ho2 := ho2.below hb
      replace pc := pc.below hb pc.lt
      replace po := po.below hb po.lt
      replace pw := pw.below hb pw.lt
      clear hb
      obtain ⟨pc0, pc1, pcl, pcf⟩ := pc.two
      obtain ⟨po0, po1, pol, pof⟩ := po.two
      obtain ⟨pw0, pw1, pwl, pwf⟩ := pw.two
      go_wp2_with fail
      refine (iValidCache_any C B d _ dl.sees dl.cap dl.n4).mono ?_
      rintro e w6 ⟨he, hb⟩
      rw [HV.out] at he
      subst he
      clear pc0 pc1 pcl pcf
      clear po0 po1 pol pof
      clear pw0 pw1 pwl pwf
      replace dl := dl.below hb
      replace ho1 := ho1.below hb
      replace ho2 := ho2.below hb
      replace pc := pc.below hb pc.lt
      replace po := po.below hb po.lt
      replace pw := pw.below hb pw.lt
      clear hb
      obtain ⟨pc0, pc1, pcl, pcf⟩ := pc.two
      obtain ⟨po0, po1, pol, pof⟩ := po.two
      obtain ⟨pw0, pw1, pwl, pwf⟩ := pw.two
      go_wp2_with fail
      refine (equalCache_same A1 A2 c1 c2 R _ ho1.sees ho2.sees HRl.out).mono ?_
      rintro e w7 ⟨rfl, hb⟩
      clear pc0 pc1 pcl pcf
      clear po0 po1 pol pof
      clear pw0 pw1 pwl pwf
      replace dl := dl.below hb
      replace ho1 := ho1.below hb
      replace ho2 := ho2.below hb
      replace pc := pc.below hb pc.lt
      replace po := po.below hb po.lt
      replace pw := pw.below hb pw.lt
      clear hb
      obtain ⟨pc0, pc1, pcl, pcf⟩ := pc.two
      obtain ⟨po0, po1, pol, pof⟩ := po.two
      obtain ⟨pw0, pw1, pwl, pwf⟩ := pw.two
      go_wp2
      go_ret
      exact ⟨by simp, dl.bel⟩
    · skip
      by_cases h6 : C.r = 6
      · skip
        have hs6 : (C.r == 6) = true := by simp [h6]
        clear h6
        have HV := hid hv
        clear hv
        replace dl := dl.alloc (.cells #[.int .i64 C.r, .slice B C.n.length d] 25)
        have pc := At.new w2 25 #[.int .i64 C.r, .slice B C.n.length d]
        obtain ⟨pc0, pc1, pcl, pcf⟩ := pc.two
        go_wp2_with fail
        refine (iUseStatement_any C i B d _ dl.sees dl.cap dl.n4).mono ?_
        rintro e w3 ⟨A1, c1, he, ho1, hb⟩
        rw [ER.out, EK.out] at he
        rw [ER.out] at ho1
        subst he
        clear pc0 pc1 pcl pcf
        replace dl := dl.below hb
        replace pc := pc.below hb pc.lt
        clear hb
        replace dl := dl.alloc (.cells #[.int .i64 R.r, .slice A1 R.n.length c1] 25)
        replace ho1 := ho1.alloc (.cells #[.int .i64 R.r, .slice A1 R.n.length c1] 25)
        replace pc := pc.alloc (.cells #[.int .i64 R.r, .slice A1 R.n.length c1] 25)
        have po := At.new w3 25 #[.int .i64 R.r, .slice A1 R.n.length c1]
        obtain ⟨pc0, pc1, pcl, pcf⟩ := pc.two
        obtain ⟨po0, po1, pol, pof⟩ := po.two
        go_wp2_with fail
        refine (sUseStatement_any C i B d _ dl.sees dl.n4).mono ?_
        rintro e w4 ⟨A2, c2, he, ho2, hb⟩
        rw [ER.out, EK.out] at he
        rw [ER.out] at ho2
        subst he
        clear pc0 pc1 pcl pcf
        clear po0 po1 pol pof
        replace dl := dl.below hb
        replace ho1 := ho1.below hb
        replace pc := pc.below hb pc.lt
        replace po := po.below hb po.lt
        clear hb
        replace dl := dl.alloc (.cells #[.int .i64 R.r, .slice A2 R.n.length c2] 25)
        replace ho1 := ho1.alloc (.cells #[.int .i64 R.r, .slice A2 R.n.length c2] 25)
        replace ho2 := ho2.alloc (.cells #[.int .i64 R.r, .slice A2 R.n.length c2] 25)
        replace pc := pc.alloc (.cells #[.int .i64 R.r, .slice A2 R.n.length c2] 25)
        replace po := po.alloc (.cells #[.int .i64 R.r, .slice A2 R.n.length c2] 25)
        have pw := At.new w4 25 #[.int .i64 R.r, .slice A2 R.n.length c2]
        obtain ⟨pc0, pc1, pcl, pcf⟩ := pc.two
        obtain ⟨po0, po1, pol, pof⟩ := po.two
        obtain ⟨pw0, pw1, pwl, pwf⟩ := pw.two
        go_wp2_with fail
        refine (equalCache_same A1 A2 c1 c2 R _ ho1.sees ho2.sees HRl.out).mono ?_
        rintro e w5 ⟨rfl, hb⟩
        clear pc0 pc1 pcl pcf
        clear po0 po1 pol pof
        clear pw0 pw1 pwl pwf
        replace dl := dl.below hb
        replace ho1 := ho1.below hb
        replace ho2 := ho2.below hb
        replace pc := pc.below hb pc.lt
        replace po := po.below hb po.lt
        replace pw := pw.below hb pw.lt
        clear hb
        obtain ⟨pc0, pc1, pcl, pcf⟩ := pc.two
        obtain ⟨po0, po1, pol, pof⟩ := po.two
        obtain ⟨pw0, pw1, pwl, pwf⟩ := pw.two
        go_wp2_with fail
        refine (iValidCache_any C B d _ dl.sees dl.cap dl.n4).mono ?_
        rintro e w6 ⟨he, hb⟩
        rw [HV.out] at he
        subst he
        clear pc0 pc1 pcl pcf
        clear po0 po1 pol pof
        clear pw0 pw1 pwl pwf
        replace dl := dl.below hb
        replace ho1 := ho1.below hb
        replace ho2 := ho2.below hb
        replace pc := pc.below hb pc.lt
        replace po := po.below hb po.lt
        replace pw := pw.below hb pw.lt
        clear hb
        obtain ⟨pc0, pc1, pcl, pcf⟩ := pc.two
        obtain ⟨po0, po1, pol, pof⟩ := po.two
        obtain ⟨pw0, pw1, pwl, pwf⟩ := pw.two
        go_wp2_with fail
        refine (equalCache_same A1 A2 c1 c2 R _ ho1.sees ho2.sees HRl.out).mono ?_
        rintro e w7 ⟨rfl, hb⟩
        clear pc0 pc1 pcl pcf
        clear po0 po1 pol pof
        clear pw0 pw1 pwl pwf
        replace dl := dl.below hb
        replace ho1 := ho1.below hb
        replace ho2 := ho2.below hb
        replace pc := pc.below hb pc.lt
        replace po := po.below hb po.lt
        replace pw := pw.below hb pw.lt
        clear hb
        obtain ⟨pc0, pc1, pcl, pcf⟩ := pc.two
        obtain ⟨po0, po1, pol, pof⟩ := po.two
        obtain ⟨pw0, pw1, pwl, pwf⟩ := pw.two
        go_wp2
        go_ret
        exact ⟨by simp, dl.bel⟩
      have hs6 : (C.r == 6) = false := beq_eq_false_iff_ne.2 h6
      have H6 := hid h6
      clear h6
      · skip
        have HV := hid hv
        have HU := hid (useB_of hv hi0 hi9)
        have HI := hid (show 0 ≤ i ∧ i ≤ 9 by omega)
        have hi9b : ¬ 9 < i := by omega
        have HRU := hid (show R = useC C i by rw [HR.out, useS_yes HU.out])
        have HKU := hid (show K = mem C.n i by rw [HK.out, hitB_yes HU.out])
        have HVR := hid (show cacheB R = true by rw [HRU.out]; exact use_valid HV.out HI.out)
        have HCR := hid (cache_room hv)
        clear hv
        replace dl := dl.alloc (.cells #[.int .i64 C.r, .slice B C.n.length d] 25)
        have pc := At.new w2 25 #[.int .i64 C.r, .slice B C.n.length d]
        obtain ⟨pc0, pc1, pcl, pcf⟩ := pc.two
        go_wp2_with fail
        refine (iUseStatement_any C i B d _ dl.sees dl.cap dl.n4).mono ?_
        rintro e w3 ⟨A1, c1, he, ho1, hb⟩
        rw [ER.out, EK.out] at he
        rw [ER.out] at ho1
        subst he
        clear pc0 pc1 pcl pcf
        replace dl := dl.below hb
        replace pc := pc.below hb pc.lt
        clear hb
        replace dl := dl.alloc (.cells #[.int .i64 R.r, .slice A1 R.n.length c1] 25)
        replace ho1 := ho1.alloc (.cells #[.int .i64 R.r, .slice A1 R.n.length c1] 25)
        replace pc := pc.alloc (.cells #[.int .i64 R.r, .slice A1 R.n.length c1] 25)
        have po := At.new w3 25 #[.int .i64 R.r, .slice A1 R.n.length c1]
        obtain ⟨pc0, pc1, pcl, pcf⟩ := pc.two
        obtain ⟨po0, po1, pol, pof⟩ := po.two
        go_wp2_with fail
        refine (sUseStatement_any C i B d _ dl.sees dl.n4).mono ?_
        rintro e w4 ⟨A2, c2, he, ho2, hb⟩
        rw [ER.out, EK.out] at he
        rw [ER.out] at ho2
        subst he
        clear pc0 pc1 pcl pcf
        clear po0 po1 pol pof
        replace dl := dl.below hb
        replace ho1 := ho1.below hb
        replace pc := pc.below hb pc.lt
        replace po := po.below hb po.lt
        clear hb
        replace dl := dl.alloc (.cells #[.int .i64 R.r, .slice A2 R.n.length c2] 25)
        replace ho1 := ho1.alloc (.cells #[.int .i64 R.r, .slice A2 R.n.length c2] 25)
        replace ho2 := ho2.alloc (.cells #[.int .i64 R.r, .slice A2 R.n.length c2] 25)
        replace pc := pc.alloc (.cells #[.int .i64 R.r, .slice A2 R.n.length c2] 25)
        replace po := po.alloc (.cells #[.int .i64 R.r, .slice A2 R.n.length c2] 25)
        have pw := At.new w4 25 #[.int .i64 R.r, .slice A2 R.n.length c2]
        obtain ⟨pc0, pc1, pcl, pcf⟩ := pc.two
        obtain ⟨po0, po1, pol, pof⟩ := po.two
        obtain ⟨pw0, pw1, pwl, pwf⟩ := pw.two
        go_wp2_with fail
        refine (equalCache_same A1 A2 c1 c2 R _ ho1.sees ho2.sees HRl.out).mono ?_
        rintro e w5 ⟨rfl, hb⟩
        clear pc0 pc1 pcl pcf
        clear po0 po1 pol pof
        clear pw0 pw1 pwl pwf
        replace dl := dl.below hb
        replace ho1 := ho1.below hb
        replace ho2 := ho2.below hb
        replace pc := pc.below hb pc.lt
        replace po := po.below hb po.lt
        replace pw := pw.below hb pw.lt
        clear hb
        obtain ⟨pc0, pc1, pcl, pcf⟩ := pc.two
        obtain ⟨po0, po1, pol, pof⟩ := po.two
        obtain ⟨pw0, pw1, pwl, pwf⟩ := pw.two
        go_wp2_with fail
        refine (iValidCache_any C B d _ dl.sees dl.cap dl.n4).mono ?_
        rintro e w6 ⟨he, hb⟩
        rw [HV.out] at he
        subst he
        clear pc0 pc1 pcl pcf
        clear po0 po1 pol pof
        clear pw0 pw1 pwl pwf
        replace dl := dl.below hb
        replace ho1 := ho1.below hb
        replace ho2 := ho2.below hb
        replace pc := pc.below hb pc.lt
        replace po := po.below hb po.lt
        replace pw := pw.below hb pw.lt
        clear hb
        clear pw
        clear ho2
        have h6 := H6.out
        obtain ⟨M, hM⟩ : ∃ M : Cch, M = useC (more C) i := ⟨_, rfl⟩
        have hMV := more_valid HV.out h6
        have EM := hid (show useS ⟨C.r + 1, C.n⟩ i = M by rw [hM]; exact useS_yes (useB_iff.2 ⟨hMV, HI.out⟩))
        have HML := hid (show M.n.length ≤ 4194304 by rw [← EM.out]; exact Nat.le_trans (useS_len _ _) (by decide))
        have HLE := hid (show M.n.length ≤ R.n.length + 1 by rw [hM, HRU.out]; exact use_more_len HCR.out.1 i)
        have HSUB := hid (show ∀ y ∈ R.n, mem M.n y = true from fun y hy => mem_iff.2 (by rw [hM]; rw [HRU.out] at hy; exact use_more HCR.out.1 hy))
        clear hM hMV h6
        obtain ⟨Q, hQ⟩ : ∃ Q, Q = hitB ⟨C.r + 1, C.n⟩ i := ⟨_, rfl⟩
        have EQ : Hid (hitB ⟨C.r + 1, C.n⟩ i = Q) := hid hQ.symm
        clear hQ
        have hcr : IntKind.i64.wrap (C.r + 1) = C.r + 1 := by have := HCR.out; rw [IntKind.wrap_i64]; omega
        obtain ⟨pc0, pc1, pcl, pcf⟩ := pc.two
        obtain ⟨po0, po1, pol, pof⟩ := po.two
        go_wp2_with fail
        refine (iUseStatement_any ⟨C.r + 1, C.n⟩ i B d _ dl.sees dl.cap dl.n4).mono ?_
        rintro e w7 ⟨A3, c3, he, ho3, hb⟩
        rw [EM.out, EQ.out] at he
        rw [EM.out] at ho3
        subst he
        clear pc0 pc1 pcl pcf
        clear po0 po1 pol pof
        replace dl := dl.below hb
        replace ho1 := ho1.below hb
        replace pc := pc.below hb pc.lt
        replace po := po.below hb po.lt
        clear hb
        replace dl := dl.alloc (.cells #[.int .i64 M.r, .slice A3 M.n.length c3] 25)
        replace ho1 := ho1.alloc (.cells #[.int .i64 M.r, .slice A3 M.n.length c3] 25)
        replace ho3 := ho3.alloc (.cells #[.int .i64 M.r, .slice A3 M.n.length c3] 25)
        replace pc := pc.alloc (.cells #[.int .i64 M.r, .slice A3 M.n.length c3] 25)
        replace po := po.alloc (.cells #[.int .i64 M.r, .slice A3 M.n.length c3] 25)
        have pm := At.new w7 25 #[.int .i64 M.r, .slice A3 M.n.length c3]
        clear hcr
        have hq := HLE.out
        have hr4 := HRl.out
        obtain ⟨pc0, pc1, pcl, pcf⟩ := pc.two
        obtain ⟨po0, po1, pol, pof⟩ := po.two
        obtain ⟨pm0, pm1, pml, pmf⟩ := pm.two
        go_wp2_with fail
        go_loopw [11] (fun i wr => ∃ k : Nat, k ≤ R.n.length ∧ i = .int .i64 k ∧ Below (w7.alloc (.cells #[.int .i64 M.r, .slice A3 M.n.length c3] 25)).heap.size (w7.alloc (.cells #[.int .i64 M.r, .slice A3 M.n.length c3] 25)) wr) (fun i _ => R.n.length - (intOf i).toNat)
        case atStart => exact ⟨0, Nat.zero_le _, rfl, Below.refl _ _⟩
        case round =>
          obtain ⟨k, hk, rfl, hbr⟩ := hrel
          clear pc0 pc1 pcl pcf
          clear po0 po1 pol pof
          clear pm0 pm1 pml pmf
          replace dl := dl.below hbr
          replace ho1 := ho1.below hbr
          replace ho3 := ho3.below hbr
          replace pc := pc.below hbr pc.lt
          replace po := po.below hbr po.lt
          replace pm := pm.below hbr pm.lt
          by_cases hlt : k < R.n.length
          · skip
            have hi : (k : Int) < (R.n.length : Int) := by omega
            obtain ⟨b, o, rfl, hbl, e0⟩ := ho1.sees.names.int hlt
            have HMM := hid (HSUB.out _ (List.getElem_mem hlt))
            obtain ⟨x, hx⟩ : ∃ x, x = R.n[k] := ⟨_, rfl⟩
            rw [← hx] at e0 HMM
            clear hx
            have HS := hid (show Sees wr wr.heap.size A3 (ints M.n) from ho3.sees)
            obtain ⟨pc0, pc1, pcl, pcf⟩ := pc.two
            obtain ⟨po0, po1, pol, pof⟩ := po.two
            obtain ⟨pm0, pm1, pml, pmf⟩ := pm.two
            go_wp2_with fail
            go_quiet ((go_at_call 21; (with_reducible refine lisIn_qb HMM.out _ _ HS.out HML.out)))
            go_wp2
            go_roundw
            case rel => exact ⟨k + 1, by omega, by go_num, below_drewN hbr _⟩
            case measure => simp [intOf]; omega
          · skip
            have hi : ¬ (k : Int) < (R.n.length : Int) := by omega
            have q3 : IntKind.i64.wrap ((R.n.length : Int) + 1) = (R.n.length : Int) + 1 := by rw [IntKind.wrap_i64]; omega
            have q4 : (M.n.length : Int) ≤ (R.n.length : Int) + 1 := by omega
            obtain ⟨pc0, pc1, pcl, pcf⟩ := pc.two
            obtain ⟨po0, po1, pol, pof⟩ := po.two
            obtain ⟨pm0, pm1, pml, pmf⟩ := pm.two
            go_wp2
            go_ret
            exact ⟨by simp, dl.bel⟩
end Go.Proofs.Ytgliijkpjncfnab

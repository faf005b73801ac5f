/-
  The walk of the law FnUseStatementTwice: at every code it returns true and changes nothing that was there. Conditions: none.
-/
import Derived.Test.YtgliijkpjncfnaaLawCa
import Derived.Test.YtgliijkpjncfnaaLawFrame
import Derived.BigQuiet

namespace Go.Proofs.Ytgliijkpjncfnaa
open Go.RowKit Cac

set_option maxHeartbeats 8000000 in
theorem walkUseStatementTwice (a : Option Addr) (len cap : Nat) (zs : List Int) (w : World) (hn : zs.length = len) (hc : len ≤ cap) (hcc : cap ≤ maxLen) (h : Sees w w.heap.size a (byts zs)) (hz : ∀ y ∈ zs, 0 ≤ y ∧ y ≤ 255) :
    Calls Try.prog 10 #[.slice a len cap] w fun e w' => e = .returned (.bool true) ∧ Below w.heap.size w w' := by
  have HE := hid hn
  have HC := hid hcc
  have HZ := hid hz
  clear hn hcc hz
  by_cases hbig : 1048576 < len
  · go_enter Try.func10, Try.ntmps10
    go_wp2
    go_ret
    exact ⟨rfl, Below.refl _ _⟩
  · go_enter Try.func10, Try.ntmps10
    go_wp2_with fail
    refine (drawUseStatement_any _ _ _ _ _ h HZ.out HE.out hc (by omega) HC.out).mono ?_
    rintro e w2 ⟨B, d, C, i, rfl, dl⟩
    obtain ⟨R, hR⟩ : ∃ R, R = useS C i := ⟨_, rfl⟩
    have ER : Hid (useS C i = R) := hid hR.symm
    have HRl := hid (show R.n.length ≤ 4194304 by rw [hR]; exact Nat.le_trans (useS_len C i) (by decide))
    have HR := hid hR
    clear hR
    obtain ⟨K, hK⟩ : ∃ K, K = hitB C i := ⟨_, rfl⟩
    have EK : Hid (hitB C i = K) := hid hK.symm
    have HK := hid hK
    clear hK
    rcases hv : cacheB C with _ | _
    · skip
      have HV := hid hv
      clear hv
      replace dl := dl.alloc (.cells #[.int .i64 C.r, .slice B C.n.length d] 27)
      have pc := At.new w2 27 #[.int .i64 C.r, .slice B C.n.length d]
      obtain ⟨pc0, pc1, pcl, pcf⟩ := pc.two
      go_wp2_with fail
      refine (iUseStatement_any C i B d _ dl.sees dl.cap dl.n4).mono ?_
      rintro e w2 ⟨A1, c1, he, ho1, hb⟩
      rw [ER.out, EK.out] at he
      rw [ER.out] at ho1
      subst he
      clear pc0 pc1 pcl pcf
      replace dl := dl.below hb
      replace pc := pc.below hb pc.lt
      clear hb
      replace dl := dl.alloc (.cells #[.int .i64 R.r, .slice A1 R.n.length c1] 27)
      replace ho1 := ho1.alloc (.cells #[.int .i64 R.r, .slice A1 R.n.length c1] 27)
      replace pc := pc.alloc (.cells #[.int .i64 R.r, .slice A1 R.n.length c1] 27)
      have po := At.new w2 27 #[.int .i64 R.r, .slice A1 R.n.length c1]
      obtain ⟨pc0, pc1, pcl, pcf⟩ := pc.two
      obtain ⟨po0, po1, pol, pof⟩ := po.two
      go_wp2_with fail
      refine (sUseStatement_any C i B d _ dl.sees dl.n4).mono ?_
      rintro e w2 ⟨A2, c2, he, ho2, hb⟩
      rw [ER.out, EK.out] at he
      rw [ER.out] at ho2
      subst he
      clear pc0 pc1 pcl pcf
      clear po0 po1 pol pof
      replace dl := dl.below hb
      replace ho1 := ho1.below hb
      replace pc := pc.below hb pc.lt
      replace po := po.below hb po.lt
      clear hb
      replace dl := dl.alloc (.cells #[.int .i64 R.r, .slice A2 R.n.length c2] 27)
      replace ho1 := ho1.alloc (.cells #[.int .i64 R.r, .slice A2 R.n.length c2] 27)
      replace ho2 := ho2.alloc (.cells #[.int .i64 R.r, .slice A2 R.n.length c2] 27)
      replace pc := pc.alloc (.cells #[.int .i64 R.r, .slice A2 R.n.length c2] 27)
      replace po := po.alloc (.cells #[.int .i64 R.r, .slice A2 R.n.length c2] 27)
      have pw := At.new w2 27 #[.int .i64 R.r, .slice A2 R.n.length c2]
      obtain ⟨pc0, pc1, pcl, pcf⟩ := pc.two
      obtain ⟨po0, po1, pol, pof⟩ := po.two
      obtain ⟨pw0, pw1, pwl, pwf⟩ := pw.two
      go_wp2_with fail
      refine (equalCache_same A1 A2 c1 c2 R _ ho1.sees ho2.sees HRl.out).mono ?_
      rintro e w2 ⟨rfl, hb⟩
      clear pc0 pc1 pcl pcf
      clear po0 po1 pol pof
      clear pw0 pw1 pwl pwf
      replace dl := dl.below hb
      replace ho1 := ho1.below hb
      replace ho2 := ho2.below hb
      replace pc := pc.below hb pc.lt
      replace po := po.below hb po.lt
      replace pw := pw.below hb pw.lt
      clear hb
      obtain ⟨pc0, pc1, pcl, pcf⟩ := pc.two
      obtain ⟨po0, po1, pol, pof⟩ := po.two
      obtain ⟨pw0, pw1, pwl, pwf⟩ := pw.two
      go_wp2_with fail
      refine (iValidCache_any C B d _ dl.sees dl.cap dl.n4).mono ?_
      rintro e w2 ⟨he, hb⟩
      rw [HV.out] at he
      subst he
      clear pc0 pc1 pcl pcf
      clear po0 po1 pol pof
      clear pw0 pw1 pwl pwf
      replace dl := dl.below hb
      replace ho1 := ho1.below hb
      replace ho2 := ho2.below hb
      replace pc := pc.below hb pc.lt
      replace po := po.below hb po.lt
      replace pw := pw.below hb pw.lt
      clear hb
      obtain ⟨pc0, pc1, pcl, pcf⟩ := pc.two
      obtain ⟨po0, po1, pol, pof⟩ := po.two
      obtain ⟨pw0, pw1, pwl, pwf⟩ := pw.two
      go_wp2_with fail
      refine (equalCache_same A1 A2 c1 c2 R _ ho1.sees ho2.sees HRl.out).mono ?_
      rintro e w2 ⟨rfl, hb⟩
      clear pc0 pc1 pcl pcf
      clear po0 po1 pol pof
      clear pw0 pw1 pwl pwf
      replace dl := dl.below hb
      replace ho1 := ho1.below hb
      replace ho2 := ho2.below hb
      replace pc := pc.below hb pc.lt
      replace po := po.below hb po.lt
      replace pw := pw.below hb pw.lt
      clear hb
      obtain ⟨pc0, pc1, pcl, pcf⟩ := pc.two
      obtain ⟨po0, po1, pol, pof⟩ := po.two
      obtain ⟨pw0, pw1, pwl, pwf⟩ := pw.two
      go_wp2
      go_ret
      exact ⟨by simp, dl.bel⟩
    by_cases hi0 : i < 0
    · skip
      have HV := hid hv
      clear hv
      replace dl := dl.alloc (.cells #[.int .i64 C.r, .slice B C.n.length d] 27)
      have pc := At.new w2 27 #[.int .i64 C.r, .slice B C.n.length d]
      obtain ⟨pc0, pc1, pcl, pcf⟩ := pc.two
      go_wp2_with fail
      refine (iUseStatement_any C i B d _ dl.sees dl.cap dl.n4).mono ?_
      rintro e w2 ⟨A1, c1, he, ho1, hb⟩
      rw [ER.out, EK.out] at he
      rw [ER.out] at ho1
      subst he
      clear pc0 pc1 pcl pcf
      replace dl := dl.below hb
      replace pc := pc.below hb pc.lt
      clear hb
      replace dl := dl.alloc (.cells #[.int .i64 R.r, .slice A1 R.n.length c1] 27)
      replace ho1 := ho1.alloc (.cells #[.int .i64 R.r, .slice A1 R.n.length c1] 27)
      replace pc := pc.alloc (.cells #[.int .i64 R.r, .slice A1 R.n.length c1] 27)
      have po := At.new w2 27 #[.int .i64 R.r, .slice A1 R.n.length c1]
      obtain ⟨pc0, pc1, pcl, pcf⟩ := pc.two
      obtain ⟨po0, po1, pol, pof⟩ := po.two
      go_wp2_with fail
      refine (sUseStatement_any C i B d _ dl.sees dl.n4).mono ?_
      rintro e w2 ⟨A2, c2, he, ho2, hb⟩
      rw [ER.out, EK.out] at he
      rw [ER.out] at ho2
      subst he
      clear pc0 pc1 pcl pcf
      clear po0 po1 pol pof
      replace dl := dl.below hb
      replace ho1 := ho1.below hb
      replace pc := pc.below hb pc.lt
      replace po := po.below hb po.lt
      clear hb
      replace dl := dl.alloc (.cells #[.int .i64 R.r, .slice A2 R.n.length c2] 27)
      replace ho1 := ho1.alloc (.cells #[.int .i64 R.r, .slice A2 R.n.length c2] 27)
      replace ho2 := ho2.alloc (.cells #[.int .i64 R.r, .slice A2 R.n.length c2] 27)
      replace pc := pc.alloc (.cells #[.int .i64 R.r, .slice A2 R.n.length c2] 27)
      replace po := po.alloc (.cells #[.int .i64 R.r, .slice A2 R.n.length c2] 27)
      have pw := At.new w2 27 #[.int .i64 R.r, .slice A2 R.n.length c2]
      obtain ⟨pc0, pc1, pcl, pcf⟩ := pc.two
      obtain ⟨po0, po1, pol, pof⟩ := po.two
      obtain ⟨pw0, pw1, pwl, pwf⟩ := pw.two
      go_wp2_with fail
      refine (equalCache_same A1 A2 c1 c2 R _ ho1.sees ho2.sees HRl.out).mono ?_
      rintro e w2 ⟨rfl, hb⟩
      clear pc0 pc1 pcl pcf
      clear po0 po1 pol pof
      clear pw0 pw1 pwl pwf
      replace dl := dl.below hb
      replace ho1 := ho1.below hb
      replace ho2 := ho2.below hb
      replace pc := pc.below hb pc.lt
      replace po := po.below hb po.lt
      replace pw := pw.below hb pw.lt
      clear hb
      obtain ⟨pc0, pc1, pcl, pcf⟩ := pc.two
      obtain ⟨po0, po1, pol, pof⟩ := po.two
      obtain ⟨pw0, pw1, pwl, pwf⟩ := pw.two
      go_wp2_with fail
      refine (iValidCache_any C B d _ dl.sees dl.cap dl.n4).mono ?_
      rintro e w2 ⟨he, hb⟩
      rw [HV.out] at he
      subst he
      clear pc0 pc1 pcl pcf
      clear po0 po1 pol pof
      clear pw0 pw1 pwl pwf
      replace dl := dl.below hb
      replace ho1 := ho1.below hb
      replace ho2 := ho2.below hb
      replace pc := pc.below hb pc.lt
      replace po := po.below hb po.lt
      replace pw := pw.below hb pw.lt
      clear hb
      obtain ⟨pc0, pc1, pcl, pcf⟩ := pc.two
      obtain ⟨po0, po1, pol, pof⟩ := po.two
      obtain ⟨pw0, pw1, pwl, pwf⟩ := pw.two
      go_wp2_with fail
      refine (equalCache_same A1 A2 c1 c2 R _ ho1.sees ho2.sees HRl.out).mono ?_
      rintro e w2 ⟨rfl, hb⟩
      clear pc0 pc1 pcl pcf
      clear po0 po1 pol pof
      clear pw0 pw1 pwl pwf
      replace dl := dl.below hb
      replace ho1 := ho1.below hb
      replace ho2 := ho2.below hb
      replace pc := pc.below hb pc.lt
      replace po := po.below hb po.lt
      replace pw := pw.below hb pw.lt
      clear hb
      obtain ⟨pc0, pc1, pcl, pcf⟩ := pc.two
      obtain ⟨po0, po1, pol, pof⟩ := po.two
      obtain ⟨pw0, pw1, pwl, pwf⟩ := pw.two
      go_wp2
      go_ret
      exact ⟨by simp, dl.bel⟩
    by_cases hi9 : i > 9
    · skip
      have HV := hid hv
      clear hv
      replace dl := dl.alloc (.cells #[.int .i64 C.r, .slice B C.n.length d] 27)
      have pc := At.new w2 27 #[.int .i64 C.r, .slice B C.n.length d]
      obtain ⟨pc0, pc1, pcl, pcf⟩ := pc.two
      go_wp2_with fail
      refine (iUseStatement_any C i B d _ dl.sees dl.cap dl.n4).mono ?_
      rintro e w2 ⟨A1, c1, he, ho1, hb⟩
      rw [ER.out, EK.out] at he
      rw [ER.out] at ho1
      subst he
      clear pc0 pc1 pcl pcf
      replace dl := dl.below hb
      replace pc := pc.below hb pc.lt
      clear hb
      replace dl := dl.alloc (.cells #[.int .i64 R.r, .slice A1 R.n.length c1] 27)
      replace ho1 := ho1.alloc (.cells #[.int .i64 R.r, .slice A1 R.n.length c1] 27)
      replace pc := pc.alloc (.cells #[.int .i64 R.r, .slice A1 R.n.length c1] 27)
      have po := At.new w2 27 #[.int .i64 R.r, .slice A1 R.n.length c1]
      obtain ⟨pc0, pc1, pcl, pcf⟩ := pc.two
      obtain ⟨po0, po1, pol, pof⟩ := po.two
      go_wp2_with fail
      refine (sUseStatement_any C i B d _ dl.sees dl.n4).mono ?_
      rintro e w2 ⟨A2, c2, he, ho2, hb⟩
      rw [ER.out, EK.out] at he
      rw [ER.out] at ho2
      subst he
      clear pc0 pc1 pcl pcf
      clear po0 po1 pol pof
      replace dl := dl.below hb
      replace ho1 := ho1.below hb
      replace pc := pc.below hb pc.lt
      replace po := po.below hb po.lt
      clear hb
      replace dl := dl.alloc (.cells #[.int .i64 R.r, .slice A2 R.n.length c2] 27)
      replace ho1 := ho1.alloc (.cells #[.int .i64 R.r, .slice A2 R.n.length c2] 27)
      replace ho2 := ho2.alloc (.cells #[.int .i64 R.r, .slice A2 R.n.length c2] 27)
      replace pc := pc.alloc (.cells #[.int .i64 R.r, .slice A2 R.n.length c2] 27)
      replace po := po.alloc (.cells #[.int .i64 R.r, .slice A2 R.n.length c2] 27)
      have pw := At.new w2 27 #[.int .i64 R.r, .slice A2 R.n.length c2]
      obtain ⟨pc0, pc1, pcl, pcf⟩ := pc.two
      obtain ⟨po0, po1, pol, pof⟩ := po.two
      obtain ⟨pw0, pw1, pwl, pwf⟩ := pw.two
      go_wp2_with fail
      refine (equalCache_same A1 A2 c1 c2 R _ ho1.sees ho2.sees HRl.out).mono ?_
      rintro e w2 ⟨rfl, hb⟩
      clear pc0 pc1 pcl pcf
      clear po0 po1 pol pof
      clear pw0 pw1 pwl pwf
      replace dl := dl.below hb
      replace ho1 := ho1.below hb
      replace ho2 := ho2.below hb
      replace pc := pc.below hb pc.lt
      replace po := po.below hb po.lt
      replace pw := pw.below hb pw.lt
      clear hb
      obtain ⟨pc0, pc1, pcl, pcf⟩ := pc.two
      obtain ⟨po0, po1, pol, pof⟩ := po.two
      obtain ⟨pw0, pw1, pwl, pwf⟩ := pw.two
      go_wp2_with fail
      refine (iValidCache_any C B d _ dl.sees dl.cap dl.n4).mono ?_
      rintro e w2 ⟨he, hb⟩
      rw [HV.out] at he
      subst he
      clear pc0 pc1 pcl pcf
      clear po0 po1 pol pof
      clear pw0 pw1 pwl pwf
      replace dl := dl.below hb
      replace ho1 := ho1.below hb
      replace ho2 := ho2.below hb
      replace pc := pc.below hb pc.lt
      replace po := po.below hb po.lt
      replace pw := pw.below hb pw.lt
      clear hb
      obtain ⟨pc0, pc1, pcl, pcf⟩ := pc.two
      obtain ⟨po0, po1, pol, pof⟩ := po.two
      obtain ⟨pw0, pw1, pwl, pwf⟩ := pw.two
      go_wp2_with fail
      refine (equalCache_same A1 A2 c1 c2 R _ ho1.sees ho2.sees HRl.out).mono ?_
      rintro e w2 ⟨rfl, hb⟩
      clear pc0 pc1 pcl pcf
      clear po0 po1 pol pof
      clear pw0 pw1 pwl pwf
      replace dl := dl.below hb
      replace ho1 := ho1.below hb
      replace ho2 := ho2.below hb
      replace pc := pc.below hb pc.lt
      replace po := po.below hb po.lt
      replace pw := pw.below hb pw.lt
      clear hb
      obtain ⟨pc0, pc1, pcl, pcf⟩ := pc.two
      obtain ⟨po0, po1, pol, pof⟩ := po.two
      obtain ⟨pw0, pw1, pwl, pwf⟩ := pw.two
      go_wp2
      go_ret
      exact ⟨by simp, dl.bel⟩
    · skip
      have HV := hid hv
      have HU := hid (useB_of hv hi0 hi9)
      have HI := hid (show 0 ≤ i ∧ i ≤ 9 by omega)
      have hi9b : ¬ 9 < i := by omega
      have HRU := hid (show R = useC C i by rw [HR.out, useS_yes HU.out])
      have HKU := hid (show K = mem C.n i by rw [HK.out, hitB_yes HU.out])
      have HVR := hid (show cacheB R = true by rw [HRU.out]; exact use_valid HV.out HI.out)
      have HCR := hid (cache_room hv)
      clear hv
      replace dl := dl.alloc (.cells #[.int .i64 C.r, .slice B C.n.length d] 27)
      have pc := At.new w2 27 #[.int .i64 C.r, .slice B C.n.length d]
      obtain ⟨pc0, pc1, pcl, pcf⟩ := pc.two
      go_wp2_with fail
      refine (iUseStatement_any C i B d _ dl.sees dl.cap dl.n4).mono ?_
      rintro e w2 ⟨A1, c1, he, ho1, hb⟩
      rw [ER.out, EK.out] at he
      rw [ER.out] at ho1
      subst he
      clear pc0 pc1 pcl pcf
      replace dl := dl.below hb
      replace pc := pc.below hb pc.lt
      clear hb
      replace dl := dl.alloc (.cells #[.int .i64 R.r, .slice A1 R.n.length c1] 27)
      replace ho1 := ho1.alloc (.cells #[.int .i64 R.r, .slice A1 R.n.length c1] 27)
      replace pc := pc.alloc (.cells #[.int .i64 R.r, .slice A1 R.n.length c1] 27)
      have po := At.new w2 27 #[.int .i64 R.r, .slice A1 R.n.length c1]
      obtain ⟨pc0, pc1, pcl, pcf⟩ := pc.two
      obtain ⟨po0, po1, pol, pof⟩ := po.two
      go_wp2_with fail
      refine (sUseStatement_any C i B d _ dl.sees dl.n4).mono ?_
      rintro e w2 ⟨A2, c2, he, ho2, hb⟩
      rw [ER.out, EK.out] at he
      rw [ER.out] at ho2
      subst he
      clear pc0 pc1 pcl pcf
      clear po0 po1 pol pof
      replace dl := dl.below hb
      replace ho1 := ho1.below hb
      replace pc := pc.below hb pc.lt
      replace po := po.below hb po.lt
      clear hb
      replace dl := dl.alloc (.cells #[.int .i64 R.r, .slice A2 R.n.length c2] 27)
      replace ho1 := ho1.alloc (.cells #[.int .i64 R.r, .slice A2 R.n.length c2] 27)
      replace ho2 := ho2.alloc (.cells #[.int .i64 R.r, .slice A2 R.n.length c2] 27)
      replace pc := pc.alloc (.cells #[.int .i64 R.r, .slice A2 R.n.length c2] 27)
      replace po := po.alloc (.cells #[.int .i64 R.r, .slice A2 R.n.length c2] 27)
      have pw := At.new w2 27 #[.int .i64 R.r, .slice A2 R.n.length c2]
      obtain ⟨pc0, pc1, pcl, pcf⟩ := pc.two
      obtain ⟨po0, po1, pol, pof⟩ := po.two
      obtain ⟨pw0, pw1, pwl, pwf⟩ := pw.two
      go_wp2_with fail
      refine (equalCache_same A1 A2 c1 c2 R _ ho1.sees ho2.sees HRl.out).mono ?_
      rintro e w2 ⟨rfl, hb⟩
      clear pc0 pc1 pcl pcf
      clear po0 po1 pol pof
      clear pw0 pw1 pwl pwf
      replace dl := dl.below hb
      replace ho1 := ho1.below hb
      replace ho2 := ho2.below hb
      replace pc := pc.below hb pc.lt
      replace po := po.below hb po.lt
      replace pw := pw.below hb pw.lt
      clear hb
      obtain ⟨pc0, pc1, pcl, pcf⟩ := pc.two
      obtain ⟨po0, po1, pol, pof⟩ := po.two
      obtain ⟨pw0, pw1, pwl, pwf⟩ := pw.two
      go_wp2_with fail
      refine (iValidCache_any C B d _ dl.sees dl.cap dl.n4).mono ?_
      rintro e w2 ⟨he, hb⟩
      rw [HV.out] at he
      subst he
      clear pc0 pc1 pcl pcf
      clear po0 po1 pol pof
      clear pw0 pw1 pwl pwf
      replace dl := dl.below hb
      replace ho1 := ho1.below hb
      replace ho2 := ho2.below hb
      replace pc := pc.below hb pc.lt
      replace po := po.below hb po.lt
      replace pw := pw.below hb pw.lt
      clear hb
      clear pw
      clear ho2
      have HUR := hid (show useB R i = true from useB_iff.2 ⟨HVR.out, HI.out⟩)
      have ET := hid (show useS R i = R by rw [useS_yes HUR.out, HRU.out, use_twice])
      have EH := hid (show hitB R i = decide (C.r > 0) by rw [hitB_yes HUR.out, HRU.out]; exact use_hit C i HCR.out.1)
      obtain ⟨H, hH⟩ : ∃ H, H = decide (C.r > 0) := ⟨_, rfl⟩
      have EHH : Hid (decide (C.r > 0) = H) := hid hH.symm
      rw [EHH.out] at EH
      have hHH := hH.symm
      clear hH
      obtain ⟨pc0, pc1, pcl, pcf⟩ := pc.two
      obtain ⟨po0, po1, pol, pof⟩ := po.two
      go_wp2_with fail
      refine (iUseStatement_any R i A1 c1 _ ho1.sees ho1.cap HRl.out).mono ?_
      rintro e w2 ⟨A3, c3, he, ho3, hb⟩
      rw [ET.out, EH.out] at he
      rw [ET.out] at ho3
      subst he
      clear pc0 pc1 pcl pcf
      clear po0 po1 pol pof
      replace dl := dl.below hb
      replace ho1 := ho1.below hb
      replace pc := pc.below hb pc.lt
      replace po := po.below hb po.lt
      clear hb
      replace dl := dl.alloc (.cells #[.int .i64 R.r, .slice A3 R.n.length c3] 27)
      replace ho1 := ho1.alloc (.cells #[.int .i64 R.r, .slice A3 R.n.length c3] 27)
      replace ho3 := ho3.alloc (.cells #[.int .i64 R.r, .slice A3 R.n.length c3] 27)
      replace pc := pc.alloc (.cells #[.int .i64 R.r, .slice A3 R.n.length c3] 27)
      replace po := po.alloc (.cells #[.int .i64 R.r, .slice A3 R.n.length c3] 27)
      have pa := At.new w2 27 #[.int .i64 R.r, .slice A3 R.n.length c3]
      obtain ⟨pc0, pc1, pcl, pcf⟩ := pc.two
      obtain ⟨po0, po1, pol, pof⟩ := po.two
      obtain ⟨pa0, pa1, pal, paf⟩ := pa.two
      go_wp2_with fail
      refine (equalCache_same A3 A1 c3 c1 R _ ho3.sees ho1.sees HRl.out).mono ?_
      rintro e w2 ⟨rfl, hb⟩
      clear pc0 pc1 pcl pcf
      clear po0 po1 pol pof
      clear pa0 pa1 pal paf
      replace dl := dl.below hb
      replace ho1 := ho1.below hb
      replace ho3 := ho3.below hb
      replace pc := pc.below hb pc.lt
      replace po := po.below hb po.lt
      replace pa := pa.below hb pa.lt
      clear hb
      obtain ⟨pc0, pc1, pcl, pcf⟩ := pc.two
      obtain ⟨po0, po1, pol, pof⟩ := po.two
      obtain ⟨pa0, pa1, pal, paf⟩ := pa.two
      go_wp2
      go_ret
      exact ⟨by simp [hHH], dl.bel⟩
end Go.Proofs.Ytgliijkpjncfnaa

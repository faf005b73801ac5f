/-
  The walk of the law FnUseStatement: at every code it returns true and changes nothing that was there. Conditions: none.
-/
import Derived.Test.YtgliijkpjncfnaaLawCa
import Derived.Test.YtgliijkpjncfnaaLawFrame
import Derived.BigQuiet

namespace Go.Proofs.Ytgliijkpjncfnaa
open Go.RowKit Cac

set_option maxHeartbeats 8000000 in
theorem walkUseStatement (a : Option Addr) (len cap : Nat) (zs : List Int) (w : World) (hn : zs.length = len) (hc : len ≤ cap) (hcc : cap ≤ maxLen) (h : Sees w w.heap.size a (byts zs)) (hz : ∀ y ∈ zs, 0 ≤ y ∧ y ≤ 255) :
    Calls Try.prog 9 #[.slice a len cap] w fun e w' => e = .returned (.bool true) ∧ Below w.heap.size w w' := by
  have HE := hid hn
  have HC := hid hcc
  have HZ := hid hz
  clear hn hcc hz
  by_cases hbig : 1048576 < len
  · go_enter Try.func9, Try.ntmps9
    go_wp2
    go_ret
    exact ⟨rfl, Below.refl _ _⟩
  · go_enter Try.func9, Try.ntmps9
    go_wp2_with fail
    refine (drawUseStatement_any _ _ _ _ _ h HZ.out HE.out hc (by omega) HC.out).mono ?_
    rintro e w2 ⟨B, d, C, i, rfl, dl⟩
    obtain ⟨R, hR⟩ : ∃ R, R = useS C i := ⟨_, rfl⟩
    have ER : Hid (useS C i = R) := hid hR.symm
    have HRl := hid (show R.n.length ≤ 4194304 by rw [hR]; exact Nat.le_trans (useS_len C i) (by decide))
    have HR := hid hR
    clear hR
    obtain ⟨K, hK⟩ : ∃ K, K = hitB C i := ⟨_, rfl⟩
    have EK : Hid (hitB C i = K) := hid hK.symm
    have HK := hid hK
    clear hK
    rcases hv : cacheB C with _ | _
    · skip
      have HV := hid hv
      clear hv
      replace dl := dl.alloc (.cells #[.int .i64 C.r, .slice B C.n.length d] 27)
      have pc := At.new w2 27 #[.int .i64 C.r, .slice B C.n.length d]
      obtain ⟨pc0, pc1, pcl, pcf⟩ := pc.two
      go_wp2_with fail
      refine (iUseStatement_any C i B d _ dl.sees dl.cap dl.n4).mono ?_
      rintro e w2 ⟨A1, c1, he, ho1, hb⟩
      rw [ER.out, EK.out] at he
      rw [ER.out] at ho1
      subst he
      clear pc0 pc1 pcl pcf
      replace dl := dl.below hb
      replace pc := pc.below hb pc.lt
      clear hb
      replace dl := dl.alloc (.cells #[.int .i64 R.r, .slice A1 R.n.length c1] 27)
      replace ho1 := ho1.alloc (.cells #[.int .i64 R.r, .slice A1 R.n.length c1] 27)
      replace pc := pc.alloc (.cells #[.int .i64 R.r, .slice A1 R.n.length c1] 27)
      have po := At.new w2 27 #[.int .i64 R.r, .slice A1 R.n.length c1]
      obtain ⟨pc0, pc1, pcl, pcf⟩ := pc.two
      obtain ⟨po0, po1, pol, pof⟩ := po.two
      go_wp2_with fail
      refine (sUseStatement_any C i B d _ dl.sees dl.n4).mono ?_
      rintro e w2 ⟨A2, c2, he, ho2, hb⟩
      rw [ER.out, EK.out] at he
      rw [ER.out] at ho2
      subst he
      clear pc0 pc1 pcl pcf
      clear po0 po1 pol pof
      replace dl := dl.below hb
      replace ho1 := ho1.below hb
      replace pc := pc.below hb pc.lt
      replace po := po.below hb po.lt
      clear hb
      replace dl := dl.alloc (.cells #[.int .i64 R.r, .slice A2 R.n.length c2] 27)
      replace ho1 := ho1.alloc (.cells #[.int .i64 R.r, .slice A2 R.n.length c2] 27)
      replace ho2 := ho2.alloc (.cells #[.int .i64 R.r, .slice A2 R.n.length c2] 27)
      replace pc := pc.alloc (.cells #[.int .i64 R.r, .slice A2 R.n.length c2] 27)
      replace po := po.alloc (.cells #[.int .i64 R.r, .slice A2 R.n.length c2] 27)
      have pw := At.new w2 27 #[.int .i64 R.r, .slice A2 R.n.length c2]
      obtain ⟨pc0, pc1, pcl, pcf⟩ := pc.two
      obtain ⟨po0, po1, pol, pof⟩ := po.two
      obtain ⟨pw0, pw1, pwl, pwf⟩ := pw.two
      go_wp2_with fail
      refine (equalCache_same A1 A2 c1 c2 R _ ho1.sees ho2.sees HRl.out).mono ?_
      rintro e w2 ⟨rfl, hb⟩
      clear pc0 pc1 pcl pcf
      clear po0 po1 pol pof
      clear pw0 pw1 pwl pwf
      replace dl := dl.below hb
      replace ho1 := ho1.below hb
      replace ho2 := ho2.below hb
      replace pc := pc.below hb pc.lt
      replace po := po.below hb po.lt
      replace pw := pw.below hb pw.lt
      clear hb
      obtain ⟨pc0, pc1, pcl, pcf⟩ := pc.two
      obtain ⟨po0, po1, pol, pof⟩ := po.two
      obtain ⟨pw0, pw1, pwl, pwf⟩ := pw.two
      go_wp2_with fail
      refine (iValidCache_any C B d _ dl.sees dl.cap dl.n4).mono ?_
      rintro e w2 ⟨he, hb⟩
      rw [HV.out] at he
      subst he
      clear pc0 pc1 pcl pcf
      clear po0 po1 pol pof
      clear pw0 pw1 pwl pwf
      replace dl := dl.below hb
      replace ho1 := ho1.below hb
      replace ho2 := ho2.below hb
      replace pc := pc.below hb pc.lt
      replace po := po.below hb po.lt
      replace pw := pw.below hb pw.lt
      clear hb
      obtain ⟨pc0, pc1, pcl, pcf⟩ := pc.two
      obtain ⟨po0, po1, pol, pof⟩ := po.two
      obtain ⟨pw0, pw1, pwl, pwf⟩ := pw.two
      go_wp2_with fail
      refine (equalCache_same A1 A2 c1 c2 R _ ho1.sees ho2.sees HRl.out).mono ?_
      rintro e w2 ⟨rfl, hb⟩
      clear pc0 pc1 pcl pcf
      clear po0 po1 pol pof
      clear pw0 pw1 pwl pwf
      replace dl := dl.below hb
      replace ho1 := ho1.below hb
      replace ho2 := ho2.below hb
      replace pc := pc.below hb pc.lt
      replace po := po.below hb po.lt
      replace pw := pw.below hb pw.lt
      clear hb
      obtain ⟨pc0, pc1, pcl, pcf⟩ := pc.two
      obtain ⟨po0, po1, pol, pof⟩ := po.two
      obtain ⟨pw0, pw1, pwl, pwf⟩ := pw.two
      go_wp2
      go_ret
      exact ⟨by simp, dl.bel⟩
    by_cases hi0 : i < 0
    · skip
      have HV := hid hv
      clear hv
      replace dl := dl.alloc (.cells #[.int .i64 C.r, .slice B C.n.length d] 27)
      have pc := At.new w2 27 #[.int .i64 C.r, .slice B C.n.length d]
      obtain ⟨pc0, pc1, pcl, pcf⟩ := pc.two
      go_wp2_with fail
      refine (iUseStatement_any C i B d _ dl.sees dl.cap dl.n4).mono ?_
      rintro e w2 ⟨A1, c1, he, ho1, hb⟩
      rw [ER.out, EK.out] at he
      rw [ER.out] at ho1
      subst he
      clear pc0 pc1 pcl pcf
      replace dl := dl.below hb
      replace pc := pc.below hb pc.lt
      clear hb
      replace dl := dl.alloc (.cells #[.int .i64 R.r, .slice A1 R.n.length c1] 27)
      replace ho1 := ho1.alloc (.cells #[.int .i64 R.r, .slice A1 R.n.length c1] 27)
      replace pc := pc.alloc (.cells #[.int .i64 R.r, .slice A1 R.n.length c1] 27)
      have po := At.new w2 27 #[.int .i64 R.r, .slice A1 R.n.length c1]
      obtain ⟨pc0, pc1, pcl, pcf⟩ := pc.two
      obtain ⟨po0, po1, pol, pof⟩ := po.two
      go_wp2_with fail
      refine (sUseStatement_any C i B d _ dl.sees dl.n4).mono ?_
      rintro e w2 ⟨A2, c2, he, ho2, hb⟩
      rw [ER.out, EK.out] at he
      rw [ER.out] at ho2
      subst he
      clear pc0 pc1 pcl pcf
      clear po0 po1 pol pof
      replace dl := dl.below hb
      replace ho1 := ho1.below hb
      replace pc := pc.below hb pc.lt
      replace po := po.below hb po.lt
      clear hb
      replace dl := dl.alloc (.cells #[.int .i64 R.r, .slice A2 R.n.length c2] 27)
      replace ho1 := ho1.alloc (.cells #[.int .i64 R.r, .slice A2 R.n.length c2] 27)
      replace ho2 := ho2.alloc (.cells #[.int .i64 R.r, .slice A2 R.n.length c2] 27)
      replace pc := pc.alloc (.cells #[.int .i64 R.r, .slice A2 R.n.length c2] 27)
      replace po := po.alloc (.cells #[.int .i64 R.r, .slice A2 R.n.length c2] 27)
      have pw := At.new w2 27 #[.int .i64 R.r, .slice A2 R.n.length c2]
      obtain ⟨pc0, pc1, pcl, pcf⟩ := pc.two
      obtain ⟨po0, po1, pol, pof⟩ := po.two
      obtain ⟨pw0, pw1, pwl, pwf⟩ := pw.two
      go_wp2_with fail
      refine (equalCache_same A1 A2 c1 c2 R _ ho1.sees ho2.sees HRl.out).mono ?_
      rintro e w2 ⟨rfl, hb⟩
      clear pc0 pc1 pcl pcf
      clear po0 po1 pol pof
      clear pw0 pw1 pwl pwf
      replace dl := dl.below hb
      replace ho1 := ho1.below hb
      replace ho2 := ho2.below hb
      replace pc := pc.below hb pc.lt
      replace po := po.below hb po.lt
      replace pw := pw.below hb pw.lt
      clear hb
      obtain ⟨pc0, pc1, pcl, pcf⟩ := pc.two
      obtain ⟨po0, po1, pol, pof⟩ := po.two
      obtain ⟨pw0, pw1, pwl, pwf⟩ := pw.two
      go_wp2_with fail
      refine (iValidCache_any C B d _ dl.sees dl.cap dl.n4).mono ?_
      rintro e w2 ⟨he, hb⟩
      rw [HV.out] at he
      subst he
      clear pc0 pc1 pcl pcf
      clear po0 po1 pol pof
      clear pw0 pw1 pwl pwf
      replace dl := dl.below hb
      replace ho1 := ho1.below hb
      replace ho2 := ho2.below hb
      replace pc := pc.below hb pc.lt
      replace po := po.below hb po.lt
      replace pw := pw.below hb pw.lt
      clear hb
      obtain ⟨pc0, pc1, pcl, pcf⟩ := pc.two
      obtain ⟨po0, po1, pol, pof⟩ := po.two
      obtain ⟨pw0, pw1, pwl, pwf⟩ := pw.two
      go_wp2_with fail
      refine (equalCache_same A1 A2 c1 c2 R _ ho1.sees ho2.sees HRl.out).mono ?_
      rintro e w2 ⟨rfl, hb⟩
      clear pc0 pc1 pcl pcf
      clear po0 po1 pol pof
      clear pw0 pw1 pwl pwf
      replace dl := dl.below hb
      replace ho1 := ho1.below hb
      replace ho2 := ho2.below hb
      replace pc := pc.below hb pc.lt
      replace po := po.below hb po.lt
      replace pw := pw.below hb pw.lt
      clear hb
      obtain ⟨pc0, pc1, pcl, pcf⟩ := pc.two
      obtain ⟨po0, po1, pol, pof⟩ := po.two
      obtain ⟨pw0, pw1, pwl, pwf⟩ := pw.two
      go_wp2
      go_ret
      exact ⟨by simp, dl.bel⟩
    by_cases hi9 : i > 9
    · skip
      have HV := hid hv
      clear hv
      replace dl := dl.alloc (.cells #[.int .i64 C.r, .slice B C.n.length d] 27)
      have pc := At.new w2 27 #[.int .i64 C.r, .slice B C.n.length d]
      obtain ⟨pc0, pc1, pcl, pcf⟩ := pc.two
      go_wp2_with fail
      refine (iUseStatement_any C i B d _ dl.sees dl.cap dl.n4).mono ?_
      rintro e w2 ⟨A1, c1, he, ho1, hb⟩
      rw [ER.out, EK.out] at he
      rw [ER.out] at ho1
      subst he
      clear pc0 pc1 pcl pcf
      replace dl := dl.below hb
      replace pc := pc.below hb pc.lt
      clear hb
      replace dl := dl.alloc (.cells #[.int .i64 R.r, .slice A1 R.n.length c1] 27)
      replace ho1 := ho1.alloc (.cells #[.int .i64 R.r, .slice A1 R.n.length c1] 27)
      replace pc := pc.alloc (.cells #[.int .i64 R.r, .slice A1 R.n.length c1] 27)
      have po := At.new w2 27 #[.int .i64 R.r, .slice A1 R.n.length c1]
      obtain ⟨pc0, pc1, pcl, pcf⟩ := pc.two
      obtain ⟨po0, po1, pol, pof⟩ := po.two
      go_wp2_with fail
      refine (sUseStatement_any C i B d _ dl.sees dl.n4).mono ?_
      rintro e w2 ⟨A2, c2, he, ho2, hb⟩
      rw [ER.out, EK.out] at he
      rw [ER.out] at ho2
      subst he
      clear pc0 pc1 pcl pcf
      clear po0 po1 pol pof
      replace dl := dl.below hb
      replace ho1 := ho1.below hb
      replace pc := pc.below hb pc.lt
      replace po := po.below hb po.lt
      clear hb
      replace dl := dl.alloc (.cells #[.int .i64 R.r, .slice A2 R.n.length c2] 27)
      replace ho1 := ho1.alloc (.cells #[.int .i64 R.r, .slice A2 R.n.length c2] 27)
      replace ho2 := ho2.alloc (.cells #[.int .i64 R.r, .slice A2 R.n.length c2] 27)
      replace pc := pc.alloc (.cells #[.int .i64 R.r, .slice A2 R.n.length c2] 27)
      replace po := po.alloc (.cells #[.int .i64 R.r, .slice A2 R.n.length c2] 27)
      have pw := At.new w2 27 #[.int .i64 R.r, .slice A2 R.n.length c2]
      obtain ⟨pc0, pc1, pcl, pcf⟩ := pc.two
      obtain ⟨po0, po1, pol, pof⟩ := po.two
      obtain ⟨pw0, pw1, pwl, pwf⟩ := pw.two
      go_wp2_with fail
      refine (equalCache_same A1 A2 c1 c2 R _ ho1.sees ho2.sees HRl.out).mono ?_
      rintro e w2 ⟨rfl, hb⟩
      clear pc0 pc1 pcl pcf
      clear po0 po1 pol pof
      clear pw0 pw1 pwl pwf
      replace dl := dl.below hb
      replace ho1 := ho1.below hb
      replace ho2 := ho2.below hb
      replace pc := pc.below hb pc.lt
      replace po := po.below hb po.lt
      replace pw := pw.below hb pw.lt
      clear hb
      obtain ⟨pc0, pc1, pcl, pcf⟩ := pc.two
      obtain ⟨po0, po1, pol, pof⟩ := po.two
      obtain ⟨pw0, pw1, pwl, pwf⟩ := pw.two
      go_wp2_with fail
      refine (iValidCache_any C B d _ dl.sees dl.cap dl.n4).mono ?_
      rintro e w2 ⟨he, hb⟩
      rw [HV.out] at he
      subst he
      clear pc0 pc1 pcl pcf
      clear po0 po1 pol pof
      clear pw0 pw1 pwl pwf
      replace dl := dl.below hb
      replace ho1 := ho1.below hb
      replace ho2 := ho2.below hb
      replace pc := pc.below hb pc.lt
      replace po := po.below hb po.lt
      replace pw := pw.below hb pw.lt
      clear hb
      obtain ⟨pc0, pc1, pcl, pcf⟩ := pc.two
      obtain ⟨po0, po1, pol, pof⟩ := po.two
      obtain ⟨pw0, pw1, pwl, pwf⟩ := pw.two
      go_wp2_with fail
      refine (equalCache_same A1 A2 c1 c2 R _ ho1.sees ho2.sees HRl.out).mono ?_
      rintro e w2 ⟨rfl, hb⟩
      clear pc0 pc1 pcl pcf
      clear po0 po1 pol pof
      clear pw0 pw1 pwl pwf
      replace dl := dl.below hb
      replace ho1 := ho1.below hb
      replace ho2 := ho2.below hb
      replace pc := pc.below hb pc.lt
      replace po := po.below hb po.lt
      replace pw := pw.below hb pw.lt
      clear hb
      obtain ⟨pc0, pc1, pcl, pcf⟩ := pc.two
      obtain ⟨po0, po1, pol, pof⟩ := po.two
      obtain ⟨pw0, pw1, pwl, pwf⟩ := pw.two
      go_wp2
      go_ret
      exact ⟨by simp, dl.bel⟩
    · skip
      have HV := hid hv
      have HU := hid (useB_of hv hi0 hi9)
      have HI := hid (show 0 ≤ i ∧ i ≤ 9 by omega)
      have hi9b : ¬ 9 < i := by omega
      have HRU := hid (show R = useC C i by rw [HR.out, useS_yes HU.out])
      have HKU := hid (show K = mem C.n i by rw [HK.out, hitB_yes HU.out])
      have HVR := hid (show cacheB R = true by rw [HRU.out]; exact use_valid HV.out HI.out)
      have HCR := hid (cache_room hv)
      clear hv
      replace dl := dl.alloc (.cells #[.int .i64 C.r, .slice B C.n.length d] 27)
      have pc := At.new w2 27 #[.int .i64 C.r, .slice B C.n.length d]
      obtain ⟨pc0, pc1, pcl, pcf⟩ := pc.two
      go_wp2_with fail
      refine (iUseStatement_any C i B d _ dl.sees dl.cap dl.n4).mono ?_
      rintro e w2 ⟨A1, c1, he, ho1, hb⟩
      rw [ER.out, EK.out] at he
      rw [ER.out] at ho1
      subst he
      clear pc0 pc1 pcl pcf
      replace dl := dl.below hb
      replace pc := pc.below hb pc.lt
      clear hb
      replace dl := dl.alloc (.cells #[.int .i64 R.r, .slice A1 R.n.length c1] 27)
      replace ho1 := ho1.alloc (.cells #[.int .i64 R.r, .slice A1 R.n.length c1] 27)
      replace pc := pc.alloc (.cells #[.int .i64 R.r, .slice A1 R.n.length c1] 27)
      have po := At.new w2 27 #[.int .i64 R.r, .slice A1 R.n.length c1]
      obtain ⟨pc0, pc1, pcl, pcf⟩ := pc.two
      obtain ⟨po0, po1, pol, pof⟩ := po.two
      go_wp2_with fail
      refine (sUseStatement_any C i B d _ dl.sees dl.n4).mono ?_
      rintro e w2 ⟨A2, c2, he, ho2, hb⟩
      rw [ER.out, EK.out] at he
      rw [ER.out] at ho2
      subst he
      clear pc0 pc1 pcl pcf
      clear po0 po1 pol pof
      replace dl := dl.below hb
      replace ho1 := ho1.below hb
      replace pc := pc.below hb pc.lt
      replace po := po.below hb po.lt
      clear hb
      replace dl := dl.alloc (.cells #[.int .i64 R.r, .slice A2 R.n.length c2] 27)
      replace ho1 := ho1.alloc (.cells #[.int .i64 R.r, .slice A2 R.n.length c2] 27)
      replace ho2 := ho2.alloc (.cells #[.int .i64 R.r, .slice A2 R.n.length c2] 27)
      replace pc := pc.alloc (.cells #[.int .i64 R.r, .slice A2 R.n.length c2] 27)
      replace po := po.alloc (.cells #[.int .i64 R.r, .slice A2 R.n.length c2] 27)
      have pw := At.new w2 27 #[.int .i64 R.r, .slice A2 R.n.length c2]
      obtain ⟨pc0, pc1, pcl, pcf⟩ := pc.two
      obtain ⟨po0, po1, pol, pof⟩ := po.two
      obtain ⟨pw0, pw1, pwl, pwf⟩ := pw.two
      go_wp2_with fail
      refine (equalCache_same A1 A2 c1 c2 R _ ho1.sees ho2.sees HRl.out).mono ?_
      rintro e w2 ⟨rfl, hb⟩
      clear pc0 pc1 pcl pcf
      clear po0 po1 pol pof
      clear pw0 pw1 pwl pwf
      replace dl := dl.below hb
      replace ho1 := ho1.below hb
      replace ho2 := ho2.below hb
      replace pc := pc.below hb pc.lt
      replace po := po.below hb po.lt
      replace pw := pw.below hb pw.lt
      clear hb
      obtain ⟨pc0, pc1, pcl, pcf⟩ := pc.two
      obtain ⟨po0, po1, pol, pof⟩ := po.two
      obtain ⟨pw0, pw1, pwl, pwf⟩ := pw.two
      go_wp2_with fail
      refine (iValidCache_any C B d _ dl.sees dl.cap dl.n4).mono ?_
      rintro e w2 ⟨he, hb⟩
      rw [HV.out] at he
      subst he
      clear pc0 pc1 pcl pcf
      clear po0 po1 pol pof
      clear pw0 pw1 pwl pwf
      replace dl := dl.below hb
      replace ho1 := ho1.below hb
      replace ho2 := ho2.below hb
      replace pc := pc.below hb pc.lt
      replace po := po.below hb po.lt
      replace pw := pw.below hb pw.lt
      clear hb
      have HM : Hid (memB C.n i = K) := hid (by rw [mem_memB, HKU.out])
      clear pw
      clear ho2
      have hr := HCR.out
      by_cases hr0 : C.r = 0
      · skip
        have hrb : (C.r == 0) = true := by simp [hr0]
        have hR0 : (R.n.length : Int) = 0 := by rw [HRU.out, use_none hr0]; rfl
        have hrb2 : ((R.n.length : Int) == 0) = true := by simp [hR0]
        have hcr : ¬ C.r > 0 := by omega
        have hcr2 : ¬ 0 < C.r := by omega
        have HR0 := hid hR0
        have HC0 := hid hr0
        clear hR0 hr0 hr
        obtain ⟨pc0, pc1, pcl, pcf⟩ := pc.two
        obtain ⟨po0, po1, pol, pof⟩ := po.two
        go_wp2_with fail
        refine (lisIn_any B d C.n i _ dl.sees.names (Nat.le_trans dl.n4 (by decide))).mono ?_
        rintro e w' ⟨he, rfl⟩
        rw [HM.out] at he
        subst he
        clear pc0 pc1 pcl pcf
        clear po0 po1 pol pof
        obtain ⟨pc0, pc1, pcl, pcf⟩ := pc.two
        obtain ⟨po0, po1, pol, pof⟩ := po.two
        go_wp2_with fail
        refine (iValidCache_any R A1 c1 _ ho1.sees ho1.cap HRl.out).mono ?_
        rintro e w2 ⟨he, hb⟩
        rw [HVR.out] at he
        subst he
        clear pc0 pc1 pcl pcf
        clear po0 po1 pol pof
        replace dl := dl.below hb
        replace ho1 := ho1.below hb
        replace pc := pc.below hb pc.lt
        replace po := po.below hb po.lt
        clear hb
        obtain ⟨pc0, pc1, pcl, pcf⟩ := pc.two
        obtain ⟨po0, po1, pol, pof⟩ := po.two
        go_wp2
        go_ret
        exact ⟨by simp, dl.bel⟩
      · skip
        have hpos : 0 < R.n.length := by rw [HRU.out]; exact use_pos (by omega)
        obtain ⟨n, hnn⟩ : ∃ n, n + 1 = R.n.length := ⟨R.n.length - 1, by omega⟩
        have hnl : n < R.n.length := by omega
        have HEND := hid (show R.n[n] = i by have e := HRU.out; subst e; exact use_end (by omega) hnl hnn)
        obtain ⟨b, o, rfl, hbl, e0⟩ := ho1.sees.names.int hnl
        rw [HEND.out] at e0
        have HRl2 := HRl.out
        have hrb : (C.r == 0) = false := beq_eq_false_iff_ne.2 hr0
        have hcr : C.r > 0 := by omega
        have hcr2 : 0 < C.r := by omega
        have q1 : ((R.n.length : Int) == 0) = false := beq_eq_false_iff_ne.2 (by omega)
        have q2 : (R.n.length : Int) > 0 := by omega
        have q2b : (0 : Int) < (R.n.length : Int) := by omega
        have q3 : IntKind.i64.wrap ((R.n.length : Int) - 1) = (R.n.length : Int) - 1 := by rw [IntKind.wrap_i64]; omega
        have q4 : (R.n.length : Int) - 1 = (n : Int) := by omega
        have q5 : (n : Int) < (R.n.length : Int) := by omega
        have q6 : (0 : Int) ≤ (n : Int) := by omega
        have HNN := hid hnn
        have HC0 := hid hr0
        clear hnn hr0 hr HEND
        obtain ⟨pc0, pc1, pcl, pcf⟩ := pc.two
        obtain ⟨po0, po1, pol, pof⟩ := po.two
        go_wp2_with fail
        refine (lisIn_any B d C.n i _ dl.sees.names (Nat.le_trans dl.n4 (by decide))).mono ?_
        rintro e w' ⟨he, rfl⟩
        rw [HM.out] at he
        subst he
        clear pc0 pc1 pcl pcf
        clear po0 po1 pol pof
        obtain ⟨pc0, pc1, pcl, pcf⟩ := pc.two
        obtain ⟨po0, po1, pol, pof⟩ := po.two
        go_wp2_with fail
        refine (iValidCache_any R (some ⟨b, o, none⟩) c1 _ ho1.sees ho1.cap HRl.out).mono ?_
        rintro e w2 ⟨he, hb⟩
        rw [HVR.out] at he
        subst he
        clear pc0 pc1 pcl pcf
        clear po0 po1 pol pof
        replace dl := dl.below hb
        replace ho1 := ho1.below hb
        replace pc := pc.below hb pc.lt
        replace po := po.below hb po.lt
        clear hb
        obtain ⟨pc0, pc1, pcl, pcf⟩ := pc.two
        obtain ⟨po0, po1, pol, pof⟩ := po.two
        go_wp2
        go_ret
        exact ⟨by simp, dl.bel⟩
end Go.Proofs.Ytgliijkpjncfnaa

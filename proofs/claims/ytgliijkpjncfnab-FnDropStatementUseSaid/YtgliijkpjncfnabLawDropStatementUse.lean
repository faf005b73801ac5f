/-
  The walk of the law FnDropStatementUse: at every code it returns true and changes nothing that was there. Conditions: none.
-/
import Derived.Test.YtgliijkpjncfnabLawCa
import Derived.Test.YtgliijkpjncfnabLawFrame
import Derived.BigQuiet

namespace Go.Proofs.Ytgliijkpjncfnab
open Go.RowKit Cac

set_option maxHeartbeats 8000000 in
theorem walkDropStatementUse (a : Option Addr) (len cap : Nat) (zs : List Int) (w : World) (hn : zs.length = len) (hc : len ≤ cap) (hcc : cap ≤ maxLen) (h : Sees w w.heap.size a (byts zs)) (hz : ∀ y ∈ zs, 0 ≤ y ∧ y ≤ 255) :
    Calls Try.prog 3 #[.slice a len cap] w fun e w' => e = .returned (.bool true) ∧ Below w.heap.size w w' := by
  have HE := hid hn
  have HC := hid hcc
  have HZ := hid hz
  clear hn hcc hz
  by_cases hbig : 1048576 < len
  · go_enter Try.func3, Try.ntmps3
    go_wp2
    go_ret
    exact ⟨rfl, Below.refl _ _⟩
  · go_enter Try.func3, Try.ntmps3
    go_wp2_with fail
    refine (drawDropStatement_any _ _ _ _ _ h HZ.out HE.out hc (by omega) HC.out).mono ?_
    rintro e w2 ⟨B, d, C, i, rfl, dl⟩
    obtain ⟨R, hR⟩ : ∃ R, R = dropS C i := ⟨_, rfl⟩
    have ER : Hid (dropS C i = R) := hid hR.symm
    have HRl := hid (show R.n.length ≤ 4194304 by rw [hR]; exact Nat.le_trans (dropS_len C i) (by decide))
    have HR := hid hR
    clear hR
    obtain ⟨K, hK⟩ : ∃ K, K = dropB C i := ⟨_, rfl⟩
    have EK : Hid (dropB C i = K) := hid hK.symm
    have HK := hid hK
    clear hK
    rcases hv : dropB C i with _ | _
    · skip
      obtain rfl : K = false := by rw [HK.out, hv]
      clear hv
      replace dl := dl.alloc (.cells #[.int .i64 C.r, .slice B C.n.length d] 25)
      have pc := At.new w2 25 #[.int .i64 C.r, .slice B C.n.length d]
      obtain ⟨pc0, pc1, pcl, pcf⟩ := pc.two
      go_wp2_with fail
      refine (iDropStatement_any C i B d _ dl.sees dl.cap dl.n4).mono ?_
      rintro e w3 ⟨A1, c1, he, ho1, hb⟩
      rw [ER.out, EK.out] at he
      rw [ER.out] at ho1
      subst he
      clear pc0 pc1 pcl pcf
      replace dl := dl.below hb
      replace pc := pc.below hb pc.lt
      clear hb
      replace dl := dl.alloc (.cells #[.int .i64 R.r, .slice A1 R.n.length c1] 25)
      replace ho1 := ho1.alloc (.cells #[.int .i64 R.r, .slice A1 R.n.length c1] 25)
      replace pc := pc.alloc (.cells #[.int .i64 R.r, .slice A1 R.n.length c1] 25)
      have po := At.new w3 25 #[.int .i64 R.r, .slice A1 R.n.length c1]
      obtain ⟨pc0, pc1, pcl, pcf⟩ := pc.two
      obtain ⟨po0, po1, pol, pof⟩ := po.two
      go_wp2_with fail
      refine (sDropStatement_any C i B d _ dl.sees dl.n4).mono ?_
      rintro e w4 ⟨A2, c2, he, ho2, hb⟩
      rw [ER.out, EK.out] at he
      rw [ER.out] at ho2
      subst he
      clear pc0 pc1 pcl pcf
      clear po0 po1 pol pof
      replace dl := dl.below hb
      replace ho1 := ho1.below hb
      replace pc := pc.below hb pc.lt
      replace po := po.below hb po.lt
      clear hb
      replace dl := dl.alloc (.cells #[.int .i64 R.r, .slice A2 R.n.length c2] 25)
      replace ho1 := ho1.alloc (.cells #[.int .i64 R.r, .slice A2 R.n.length c2] 25)
      replace ho2 := ho2.alloc (.cells #[.int .i64 R.r, .slice A2 R.n.length c2] 25)
      replace pc := pc.alloc (.cells #[.int .i64 R.r, .slice A2 R.n.length c2] 25)
      replace po := po.alloc (.cells #[.int .i64 R.r, .slice A2 R.n.length c2] 25)
      have pw := At.new w4 25 #[.int .i64 R.r, .slice A2 R.n.length c2]
      obtain ⟨pc0, pc1, pcl, pcf⟩ := pc.two
      obtain ⟨po0, po1, pol, pof⟩ := po.two
      obtain ⟨pw0, pw1, pwl, pwf⟩ := pw.two
      go_wp2_with fail
      refine (equalCache_same A1 A2 c1 c2 R _ ho1.sees ho2.sees HRl.out).mono ?_
      rintro e w5 ⟨rfl, hb⟩
      clear pc0 pc1 pcl pcf
      clear po0 po1 pol pof
      clear pw0 pw1 pwl pwf
      replace dl := dl.below hb
      replace ho1 := ho1.below hb
      replace ho2 := ho2.below hb
      replace pc := pc.below hb pc.lt
      replace po := po.below hb po.lt
      replace pw := pw.below hb pw.lt
      clear hb
      obtain ⟨pc0, pc1, pcl, pcf⟩ := pc.two
      obtain ⟨po0, po1, pol, pof⟩ := po.two
      obtain ⟨pw0, pw1, pwl, pwf⟩ := pw.two
      go_wp2_with fail
      refine (equalCache_same A1 A2 c1 c2 R _ ho1.sees ho2.sees HRl.out).mono ?_
      rintro e w6 ⟨rfl, hb⟩
      clear pc0 pc1 pcl pcf
      clear po0 po1 pol pof
      clear pw0 pw1 pwl pwf
      replace dl := dl.below hb
      replace ho1 := ho1.below hb
      replace ho2 := ho2.below hb
      replace pc := pc.below hb pc.lt
      replace po := po.below hb po.lt
      replace pw := pw.below hb pw.lt
      clear hb
      obtain ⟨pc0, pc1, pcl, pcf⟩ := pc.two
      obtain ⟨po0, po1, pol, pof⟩ := po.two
      obtain ⟨pw0, pw1, pwl, pwf⟩ := pw.two
      go_wp2
      go_ret
      exact ⟨by simp, dl.bel⟩
    · skip
      obtain rfl : K = true := by rw [HK.out, hv]
      have HD := hid hv
      have HV := hid (dropB_iff.1 hv).1
      have HI := hid (drop_name hv)
      have HRU := hid (show R = dropC C i by rw [HR.out, dropS_yes hv])
      have HVR := hid (show cacheB R = true by rw [HRU.out]; exact drop_valid HV.out i)
      clear hv
      replace dl := dl.alloc (.cells #[.int .i64 C.r, .slice B C.n.length d] 25)
      have pc := At.new w2 25 #[.int .i64 C.r, .slice B C.n.length d]
      obtain ⟨pc0, pc1, pcl, pcf⟩ := pc.two
      go_wp2_with fail
      refine (iDropStatement_any C i B d _ dl.sees dl.cap dl.n4).mono ?_
      rintro e w3 ⟨A1, c1, he, ho1, hb⟩
      rw [ER.out, EK.out] at he
      rw [ER.out] at ho1
      subst he
      clear pc0 pc1 pcl pcf
      replace dl := dl.below hb
      replace pc := pc.below hb pc.lt
      clear hb
      replace dl := dl.alloc (.cells #[.int .i64 R.r, .slice A1 R.n.length c1] 25)
      replace ho1 := ho1.alloc (.cells #[.int .i64 R.r, .slice A1 R.n.length c1] 25)
      replace pc := pc.alloc (.cells #[.int .i64 R.r, .slice A1 R.n.length c1] 25)
      have po := At.new w3 25 #[.int .i64 R.r, .slice A1 R.n.length c1]
      obtain ⟨pc0, pc1, pcl, pcf⟩ := pc.two
      obtain ⟨po0, po1, pol, pof⟩ := po.two
      go_wp2_with fail
      refine (sDropStatement_any C i B d _ dl.sees dl.n4).mono ?_
      rintro e w4 ⟨A2, c2, he, ho2, hb⟩
      rw [ER.out, EK.out] at he
      rw [ER.out] at ho2
      subst he
      clear pc0 pc1 pcl pcf
      clear po0 po1 pol pof
      replace dl := dl.below hb
      replace ho1 := ho1.below hb
      replace pc := pc.below hb pc.lt
      replace po := po.below hb po.lt
      clear hb
      replace dl := dl.alloc (.cells #[.int .i64 R.r, .slice A2 R.n.length c2] 25)
      replace ho1 := ho1.alloc (.cells #[.int .i64 R.r, .slice A2 R.n.length c2] 25)
      replace ho2 := ho2.alloc (.cells #[.int .i64 R.r, .slice A2 R.n.length c2] 25)
      replace pc := pc.alloc (.cells #[.int .i64 R.r, .slice A2 R.n.length c2] 25)
      replace po := po.alloc (.cells #[.int .i64 R.r, .slice A2 R.n.length c2] 25)
      have pw := At.new w4 25 #[.int .i64 R.r, .slice A2 R.n.length c2]
      obtain ⟨pc0, pc1, pcl, pcf⟩ := pc.two
      obtain ⟨po0, po1, pol, pof⟩ := po.two
      obtain ⟨pw0, pw1, pwl, pwf⟩ := pw.two
      go_wp2_with fail
      refine (equalCache_same A1 A2 c1 c2 R _ ho1.sees ho2.sees HRl.out).mono ?_
      rintro e w5 ⟨rfl, hb⟩
      clear pc0 pc1 pcl pcf
      clear po0 po1 pol pof
      clear pw0 pw1 pwl pwf
      replace dl := dl.below hb
      replace ho1 := ho1.below hb
      replace ho2 := ho2.below hb
      replace pc := pc.below hb pc.lt
      replace po := po.below hb po.lt
      replace pw := pw.below hb pw.lt
      clear hb
      clear pw
      clear ho2
      obtain ⟨U, hU⟩ : ∃ U, U = useS C i := ⟨_, rfl⟩
      have EU : Hid (useS C i = U) := hid hU.symm
      have HUl := hid (show U.n.length ≤ 4194304 by rw [hU]; exact Nat.le_trans (useS_len C i) (by decide))
      clear hU
      have EV := hid (show useS R i = U by rw [useS_yes (useB_iff.2 ⟨HVR.out, HI.out⟩), HRU.out, drop_use, ← EU.out, useS_yes (useB_iff.2 ⟨HV.out, HI.out⟩)])
      obtain ⟨H1, hH1⟩ : ∃ H1, H1 = hitB R i := ⟨_, rfl⟩
      have E1 : Hid (hitB R i = H1) := hid hH1.symm
      clear hH1
      obtain ⟨H2, hH2⟩ : ∃ H2, H2 = hitB C i := ⟨_, rfl⟩
      have E2 : Hid (hitB C i = H2) := hid hH2.symm
      clear hH2
      obtain ⟨pc0, pc1, pcl, pcf⟩ := pc.two
      obtain ⟨po0, po1, pol, pof⟩ := po.two
      go_wp2_with fail
      refine (iUseStatement_any R i A1 c1 _ ho1.sees ho1.cap HRl.out).mono ?_
      rintro e w6 ⟨A3, c3, he, ho3, hb⟩
      rw [EV.out, E1.out] at he
      rw [EV.out] at ho3
      subst he
      clear pc0 pc1 pcl pcf
      clear po0 po1 pol pof
      replace dl := dl.below hb
      replace ho1 := ho1.below hb
      replace pc := pc.below hb pc.lt
      replace po := po.below hb po.lt
      clear hb
      replace dl := dl.alloc (.cells #[.int .i64 U.r, .slice A3 U.n.length c3] 25)
      replace ho1 := ho1.alloc (.cells #[.int .i64 U.r, .slice A3 U.n.length c3] 25)
      replace ho3 := ho3.alloc (.cells #[.int .i64 U.r, .slice A3 U.n.length c3] 25)
      replace pc := pc.alloc (.cells #[.int .i64 U.r, .slice A3 U.n.length c3] 25)
      replace po := po.alloc (.cells #[.int .i64 U.r, .slice A3 U.n.length c3] 25)
      have pa := At.new w6 25 #[.int .i64 U.r, .slice A3 U.n.length c3]
      obtain ⟨pc0, pc1, pcl, pcf⟩ := pc.two
      obtain ⟨po0, po1, pol, pof⟩ := po.two
      obtain ⟨pa0, pa1, pal, paf⟩ := pa.two
      go_wp2_with fail
      refine (iUseStatement_any C i B d _ dl.sees dl.cap dl.n4).mono ?_
      rintro e w7 ⟨A4, c4, he, ho4, hb⟩
      rw [EU.out, E2.out] at he
      rw [EU.out] at ho4
      subst he
      clear pc0 pc1 pcl pcf
      clear po0 po1 pol pof
      clear pa0 pa1 pal paf
      replace dl := dl.below hb
      replace ho1 := ho1.below hb
      replace ho3 := ho3.below hb
      replace pc := pc.below hb pc.lt
      replace po := po.below hb po.lt
      replace pa := pa.below hb pa.lt
      clear hb
      replace dl := dl.alloc (.cells #[.int .i64 U.r, .slice A4 U.n.length c4] 25)
      replace ho1 := ho1.alloc (.cells #[.int .i64 U.r, .slice A4 U.n.length c4] 25)
      replace ho3 := ho3.alloc (.cells #[.int .i64 U.r, .slice A4 U.n.length c4] 25)
      replace ho4 := ho4.alloc (.cells #[.int .i64 U.r, .slice A4 U.n.length c4] 25)
      replace pc := pc.alloc (.cells #[.int .i64 U.r, .slice A4 U.n.length c4] 25)
      replace po := po.alloc (.cells #[.int .i64 U.r, .slice A4 U.n.length c4] 25)
      replace pa := pa.alloc (.cells #[.int .i64 U.r, .slice A4 U.n.length c4] 25)
      have pb := At.new w7 25 #[.int .i64 U.r, .slice A4 U.n.length c4]
      obtain ⟨pc0, pc1, pcl, pcf⟩ := pc.two
      obtain ⟨po0, po1, pol, pof⟩ := po.two
      obtain ⟨pa0, pa1, pal, paf⟩ := pa.two
      obtain ⟨pb0, pb1, pbl, pbf⟩ := pb.two
      go_wp2_with fail
      refine (equalCache_same A3 A4 c3 c4 U _ ho3.sees ho4.sees HUl.out).mono ?_
      rintro e w8 ⟨rfl, hb⟩
      clear pc0 pc1 pcl pcf
      clear po0 po1 pol pof
      clear pa0 pa1 pal paf
      clear pb0 pb1 pbl pbf
      replace dl := dl.below hb
      replace ho1 := ho1.below hb
      replace ho3 := ho3.below hb
      replace ho4 := ho4.below hb
      replace pc := pc.below hb pc.lt
      replace po := po.below hb po.lt
      replace pa := pa.below hb pa.lt
      replace pb := pb.below hb pb.lt
      clear hb
      obtain ⟨pc0, pc1, pcl, pcf⟩ := pc.two
      obtain ⟨po0, po1, pol, pof⟩ := po.two
      obtain ⟨pa0, pa1, pal, paf⟩ := pa.two
      obtain ⟨pb0, pb1, pbl, pbf⟩ := pb.two
      go_wp2
      go_ret
      exact ⟨by simp, dl.bel⟩
end Go.Proofs.Ytgliijkpjncfnab

/-
  The walk of the law FnDropStatement: at every code it returns true and changes nothing that was there. Conditions: none.
-/
import Derived.Test.YtgliijkpjncfnaaLawCa
import Derived.Test.YtgliijkpjncfnaaLawFrame
import Derived.BigQuiet

namespace Go.Proofs.Ytgliijkpjncfnaa
open Go.RowKit Cac

set_option maxHeartbeats 8000000 in
theorem walkDropStatement (a : Option Addr) (len cap : Nat) (zs : List Int) (w : World) (hn : zs.length = len) (hc : len ≤ cap) (hcc : cap ≤ maxLen) (h : Sees w w.heap.size a (byts zs)) (hz : ∀ y ∈ zs, 0 ≤ y ∧ y ≤ 255) :
    Calls Try.prog 11 #[.slice a len cap] w fun e w' => e = .returned (.bool true) ∧ Below w.heap.size w w' := by
  have HE := hid hn
  have HC := hid hcc
  have HZ := hid hz
  clear hn hcc hz
  by_cases hbig : 1048576 < len
  · go_enter Try.func11, Try.ntmps11
    go_wp2
    go_ret
    exact ⟨rfl, Below.refl _ _⟩
  · go_enter Try.func11, Try.ntmps11
    go_wp2_with fail
    refine (drawDropStatement_any _ _ _ _ _ h HZ.out HE.out hc (by omega) HC.out).mono ?_
    rintro e w2 ⟨B, d, C, i, rfl, dl⟩
    obtain ⟨R, hR⟩ : ∃ R, R = dropS C i := ⟨_, rfl⟩
    have ER : Hid (dropS C i = R) := hid hR.symm
    have HRl := hid (show R.n.length ≤ 4194304 by rw [hR]; exact Nat.le_trans (dropS_len C i) (by decide))
    have HR := hid hR
    clear hR
    obtain ⟨K, hK⟩ : ∃ K, K = dropB C i := ⟨_, rfl⟩
    have EK : Hid (dropB C i = K) := hid hK.symm
    have HK := hid hK
    clear hK
    rcases hv : dropB C i with _ | _
    · skip
      obtain rfl : K = false := by rw [HK.out, hv]
      clear hv
      replace dl := dl.alloc (.cells #[.int .i64 C.r, .slice B C.n.length d] 27)
      have pc := At.new w2 27 #[.int .i64 C.r, .slice B C.n.length d]
      obtain ⟨pc0, pc1, pcl, pcf⟩ := pc.two
      go_wp2_with fail
      refine (iDropStatement_any C i B d _ dl.sees dl.cap dl.n4).mono ?_
      rintro e w3 ⟨A1, c1, he, ho1, hb⟩
      rw [ER.out, EK.out] at he
      rw [ER.out] at ho1
      subst he
      clear pc0 pc1 pcl pcf
      replace dl := dl.below hb
      replace pc := pc.below hb pc.lt
      clear hb
      replace dl := dl.alloc (.cells #[.int .i64 R.r, .slice A1 R.n.length c1] 27)
      replace ho1 := ho1.alloc (.cells #[.int .i64 R.r, .slice A1 R.n.length c1] 27)
      replace pc := pc.alloc (.cells #[.int .i64 R.r, .slice A1 R.n.length c1] 27)
      have po := At.new w3 27 #[.int .i64 R.r, .slice A1 R.n.length c1]
      obtain ⟨pc0, pc1, pcl, pcf⟩ := pc.two
      obtain ⟨po0, po1, pol, pof⟩ := po.two
      go_wp2_with fail
      refine (sDropStatement_any C i B d _ dl.sees dl.n4).mono ?_
      rintro e w4 ⟨A2, c2, he, ho2, hb⟩
      rw [ER.out, EK.out] at he
      rw [ER.out] at ho2
      subst he
      clear pc0 pc1 pcl pcf
      clear po0 po1 pol pof
      replace dl := dl.below hb
      replace ho1 := ho1.below hb
      replace pc := pc.below hb pc.lt
      replace po := po.below hb po.lt
      clear hb
      replace dl := dl.alloc (.cells #[.int .i64 R.r, .slice A2 R.n.length c2] 27)
      replace ho1 := ho1.alloc (.cells #[.int .i64 R.r, .slice A2 R.n.length c2] 27)
      replace ho2 := ho2.alloc (.cells #[.int .i64 R.r, .slice A2 R.n.length c2] 27)
      replace pc := pc.alloc (.cells #[.int .i64 R.r, .slice A2 R.n.length c2] 27)
      replace po := po.alloc (.cells #[.int .i64 R.r, .slice A2 R.n.length c2] 27)
      have pw := At.new w4 27 #[.int .i64 R.r, .slice A2 R.n.length c2]
      obtain ⟨pc0, pc1, pcl, pcf⟩ := pc.two
      obtain ⟨po0, po1, pol, pof⟩ := po.two
      obtain ⟨pw0, pw1, pwl, pwf⟩ := pw.two
      go_wp2_with fail
      refine (equalCache_same A1 A2 c1 c2 R _ ho1.sees ho2.sees HRl.out).mono ?_
      rintro e w5 ⟨rfl, hb⟩
      clear pc0 pc1 pcl pcf
      clear po0 po1 pol pof
      clear pw0 pw1 pwl pwf
      replace dl := dl.below hb
      replace ho1 := ho1.below hb
      replace ho2 := ho2.below hb
      replace pc := pc.below hb pc.lt
      replace po := po.below hb po.lt
      replace pw := pw.below hb pw.lt
      clear hb
      obtain ⟨pc0, pc1, pcl, pcf⟩ := pc.two
      obtain ⟨po0, po1, pol, pof⟩ := po.two
      obtain ⟨pw0, pw1, pwl, pwf⟩ := pw.two
      go_wp2_with fail
      refine (equalCache_same A1 A2 c1 c2 R _ ho1.sees ho2.sees HRl.out).mono ?_
      rintro e w6 ⟨rfl, hb⟩
      clear pc0 pc1 pcl pcf
      clear po0 po1 pol pof
      clear pw0 pw1 pwl pwf
      replace dl := dl.below hb
      replace ho1 := ho1.below hb
      replace ho2 := ho2.below hb
      replace pc := pc.below hb pc.lt
      replace po := po.below hb po.lt
      replace pw := pw.below hb pw.lt
      clear hb
      obtain ⟨pc0, pc1, pcl, pcf⟩ := pc.two
      obtain ⟨po0, po1, pol, pof⟩ := po.two
      obtain ⟨pw0, pw1, pwl, pwf⟩ := pw.two
      go_wp2
      go_ret
      exact ⟨by simp, dl.bel⟩
    · skip
      obtain rfl : K = true := by rw [HK.out, hv]
      have HD := hid hv
      have HV := hid (dropB_iff.1 hv).1
      have HI := hid (drop_name hv)
      have HRU := hid (show R = dropC C i by rw [HR.out, dropS_yes hv])
      have HVR := hid (show cacheB R = true by rw [HRU.out]; exact drop_valid HV.out i)
      clear hv
      replace dl := dl.alloc (.cells #[.int .i64 C.r, .slice B C.n.length d] 27)
      have pc := At.new w2 27 #[.int .i64 C.r, .slice B C.n.length d]
      obtain ⟨pc0, pc1, pcl, pcf⟩ := pc.two
      go_wp2_with fail
      refine (iDropStatement_any C i B d _ dl.sees dl.cap dl.n4).mono ?_
      rintro e w3 ⟨A1, c1, he, ho1, hb⟩
      rw [ER.out, EK.out] at he
      rw [ER.out] at ho1
      subst he
      clear pc0 pc1 pcl pcf
      replace dl := dl.below hb
      replace pc := pc.below hb pc.lt
      clear hb
      replace dl := dl.alloc (.cells #[.int .i64 R.r, .slice A1 R.n.length c1] 27)
      replace ho1 := ho1.alloc (.cells #[.int .i64 R.r, .slice A1 R.n.length c1] 27)
      replace pc := pc.alloc (.cells #[.int .i64 R.r, .slice A1 R.n.length c1] 27)
      have po := At.new w3 27 #[.int .i64 R.r, .slice A1 R.n.length c1]
      obtain ⟨pc0, pc1, pcl, pcf⟩ := pc.two
      obtain ⟨po0, po1, pol, pof⟩ := po.two
      go_wp2_with fail
      refine (sDropStatement_any C i B d _ dl.sees dl.n4).mono ?_
      rintro e w4 ⟨A2, c2, he, ho2, hb⟩
      rw [ER.out, EK.out] at he
      rw [ER.out] at ho2
      subst he
      clear pc0 pc1 pcl pcf
      clear po0 po1 pol pof
      replace dl := dl.below hb
      replace ho1 := ho1.below hb
      replace pc := pc.below hb pc.lt
      replace po := po.below hb po.lt
      clear hb
      replace dl := dl.alloc (.cells #[.int .i64 R.r, .slice A2 R.n.length c2] 27)
      replace ho1 := ho1.alloc (.cells #[.int .i64 R.r, .slice A2 R.n.length c2] 27)
      replace ho2 := ho2.alloc (.cells #[.int .i64 R.r, .slice A2 R.n.length c2] 27)
      replace pc := pc.alloc (.cells #[.int .i64 R.r, .slice A2 R.n.length c2] 27)
      replace po := po.alloc (.cells #[.int .i64 R.r, .slice A2 R.n.length c2] 27)
      have pw := At.new w4 27 #[.int .i64 R.r, .slice A2 R.n.length c2]
      obtain ⟨pc0, pc1, pcl, pcf⟩ := pc.two
      obtain ⟨po0, po1, pol, pof⟩ := po.two
      obtain ⟨pw0, pw1, pwl, pwf⟩ := pw.two
      go_wp2_with fail
      refine (equalCache_same A1 A2 c1 c2 R _ ho1.sees ho2.sees HRl.out).mono ?_
      rintro e w5 ⟨rfl, hb⟩
      clear pc0 pc1 pcl pcf
      clear po0 po1 pol pof
      clear pw0 pw1 pwl pwf
      replace dl := dl.below hb
      replace ho1 := ho1.below hb
      replace ho2 := ho2.below hb
      replace pc := pc.below hb pc.lt
      replace po := po.below hb po.lt
      replace pw := pw.below hb pw.lt
      clear hb
      clear pw
      clear ho2
      obtain ⟨U, hU⟩ : ∃ U, U = useS R i := ⟨_, rfl⟩
      have EU : Hid (useS R i = U) := hid hU.symm
      clear hU
      have EH := hid (show hitB R i = false by unfold hitB; rw [HRU.out, drop_hit]; simp)
      have EW := hid (show wo C.n i = R.n by rw [HRU.out]; rfl)
      obtain ⟨pc0, pc1, pcl, pcf⟩ := pc.two
      obtain ⟨po0, po1, pol, pof⟩ := po.two
      go_wp2_with fail
      refine (iUseStatement_any R i A1 c1 _ ho1.sees ho1.cap HRl.out).mono ?_
      rintro e w6 ⟨A3, c3, he, ho3, hb⟩
      rw [EU.out, EH.out] at he
      rw [EU.out] at ho3
      subst he
      clear pc0 pc1 pcl pcf
      clear po0 po1 pol pof
      replace dl := dl.below hb
      replace ho1 := ho1.below hb
      replace pc := pc.below hb pc.lt
      replace po := po.below hb po.lt
      clear hb
      replace dl := dl.alloc (.cells #[.int .i64 U.r, .slice A3 U.n.length c3] 27)
      replace ho1 := ho1.alloc (.cells #[.int .i64 U.r, .slice A3 U.n.length c3] 27)
      replace ho3 := ho3.alloc (.cells #[.int .i64 U.r, .slice A3 U.n.length c3] 27)
      replace pc := pc.alloc (.cells #[.int .i64 U.r, .slice A3 U.n.length c3] 27)
      replace po := po.alloc (.cells #[.int .i64 U.r, .slice A3 U.n.length c3] 27)
      have pu := At.new w6 27 #[.int .i64 U.r, .slice A3 U.n.length c3]
      clear ho3
      clear pu
      have hl1 : ((R.n.length : Int) == IntKind.i64.wrap ((C.n.length : Int) - 1)) = true := by have := drop_len HD.out; rw [← HRU.out] at this; have h4 := dl.n4; rw [IntKind.wrap_i64]; simp; omega
      replace dl := dl.drew
      replace ho1 := ho1.drew
      replace pc := pc.drew
      replace po := po.drew
      have ddl := dl
      have dho1 := ho1
      have dpc := pc
      have dpo := po
      obtain ⟨pc0, pc1, pcl, pcf⟩ := pc.two
      obtain ⟨po0, po1, pol, pof⟩ := po.two
      go_wp2_with fail
      go_region_held3 (fun w' => w'.cell? ⟨w2.heap.size, 0, none⟩ = some (.int .i64 C.r) ∧ w'.cell? ⟨w2.heap.size, 1, none⟩ = some (.slice B C.n.length d) ∧ w'.cell? ⟨w3.heap.size, 0, none⟩ = some (.int .i64 R.r) ∧ w'.cell? ⟨w3.heap.size, 1, none⟩ = some (.slice A1 R.n.length c1))
        (first | with_reducible exact ⟨pc0, pc1, po0, po1⟩ | with_reducible exact ⟨ypc0, ypc1, ypo0, ypo1⟩ | with_reducible exact ⟨zpc0, zpc1, zpo0, zpo1⟩ | with_reducible exact ⟨tpc0, tpc1, tpo0, tpo1⟩ | go_keep)
        (first
          | (go_at_call 38; with_reducible refine (woWithout_any B d C.n i _ ddl.sees.names ddl.n4).mono ?_; rintro e wy ⟨v, rfl, ho4, hb⟩; rw [EW.out] at ho4; obtain ⟨A4, c4, rfl, hc4⟩ := own_form ho4.out; have ydl := ddl.below hb; have yho1 := dho1.below hb; have ypc := dpc.below hb dpc.lt; have ypo := dpo.below hb dpo.lt; obtain ⟨ypc0, ypc1, ypcl, ypcf⟩ := ypc.two; obtain ⟨ypo0, ypo1, ypol, ypof⟩ := ypo.two)
          | (go_at_call 37; with_reducible refine (cEq_same A1 A4 c1 c4 R.n _ yho1.sees.names (Sees.of_own ho4.out) HRl.out).mono ?_; rintro e wz ⟨rfl, hb⟩; have zdl := ydl.below hb; have zho1 := yho1.below hb; have zpc := ypc.below hb ypc.lt; have zpo := ypo.below hb ypo.lt; obtain ⟨zpc0, zpc1, zpcl, zpcf⟩ := zpc.two; obtain ⟨zpo0, zpo1, zpol, zpof⟩ := zpo.two)
          | (go_at_call 15; with_reducible refine (iValidCache_any R A1 c1 _ zho1.sees zho1.cap HRl.out).mono ?_; rintro e wt ⟨he, hb⟩; rw [HVR.out] at he; subst he; have tdl := zdl.below hb; have tho1 := zho1.below hb; have tpc := zpc.below hb zpc.lt; have tpo := zpo.below hb zpo.lt; obtain ⟨tpc0, tpc1, tpcl, tpcf⟩ := tpc.two; obtain ⟨tpo0, tpo1, tpol, tpof⟩ := tpo.two)
          | fail)
      all_goals
        go_wp2
        go_ret
        exact ⟨by simp, tdl.bel⟩
end Go.Proofs.Ytgliijkpjncfnaa
